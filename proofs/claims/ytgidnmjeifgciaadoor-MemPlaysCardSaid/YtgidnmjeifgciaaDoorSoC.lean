/- The store: a page to be written to. -/
import Derived.Test.YtgidnmjeifgciaaDoorSoB
import Derived.Lib.LazyBuf
import Derived.Deep.RegionHeld3
namespace Go.Proofs.YtgidnmjeifgciaaDoor
set_option maxRecDepth 100000
open Go.RowKit Go.ChangeMaps Go.MapKept
open Go.Maps (Keyed)
set_option linter.unusedVariables false
set_option linter.unusedSimpArgs false

theorem OB.trans {b b' : Nat} {W w1 w2 : World} (h : OB b W w1) (k : OB b' w1 w2) (hb : b' = b ∨ W.heap.size ≤ b') : OB b W w2 := by
  obtain ⟨s1, o1, l1⟩ := h
  obtain ⟨s2, o2, l2⟩ := k
  refine ⟨Nat.le_trans s1 s2, fun i hi hb' => ?_, fun L hb' hL => (l1 L hb' hL).trans (l2 L ?_ (Nat.le_trans hL s1))⟩
  · rw [o2 i (Nat.lt_of_lt_of_le hi s1) (by rcases hb with rfl | h; exact hb'; omega), o1 i hi hb']
  · rcases hb with rfl | h; exact hb'; omega
/-- A new page of noughts. -/
theorem STL.page {B g b : Nat} {W w3 w4 : World} {l : List (Nat × Nat)} {c : Nat → Nat} {p q : Nat} (h : STL B g b W l c) (hno : ∀ q, ¬ (p, q) ∈ l) (hB : Below W.heap.size W w3) (hq : q = W.heap.size) (hqz : q < w3.heap.size)
    (hc : ∀ j, j < 256 → w3.cell? ⟨q, j, none⟩ = some (.int .u8 0)) (hf : ∀ o, w3.frozen? ⟨q, o, none⟩ = false) (hm : MP b w4 (l ++ [(p, q)])) (hs : w4.heap.size = w3.heap.size) (ho : OB b w3 w4) : STL B g b w4 (l ++ [(p, q)]) c := by
  obtain ⟨h1, ⟨h2, h3, h4, h5, h6⟩, h7, h8, h9, h10⟩ := h
  have hg : w4.heap[g]? = W.heap[g]? := (ho.2.1 g (Nat.lt_of_lt_of_le h5 hB.size) h4).trans (hB.block g h5)
  refine ⟨(World.cell?_of_block hg).trans h1, ⟨h2, h3, h4, by rw [hs]; exact Nat.lt_of_lt_of_le h5 hB.size, by rw [hs]; exact Nat.lt_of_lt_of_le h6 hB.size⟩, hm, fun pq hpq => ?_, ?_, fun x hx => h10 x (fun q' hq' => hx q' (List.mem_append_left _ hq'))⟩
  · rcases List.mem_append.1 hpq with hpq | hpq
    · obtain ⟨k1, k2, k3, k4⟩ := h8 pq hpq
      exact ⟨k1, k2, k3, k4.keep (by rw [hs]; exact hB.size) ((ho.2.1 pq.2 (Nat.lt_of_lt_of_le k4.1 hB.size) k2).trans (hB.block pq.2 k4.1))⟩
    · simp only [List.mem_singleton] at hpq
      subst hpq
      refine ⟨by show q ≠ g; omega, by show q ≠ b; omega, by show B ≤ q; omega, by show q < w4.heap.size; omega, fun j hj => ?_, fun o => ?_⟩
      · have e : c (p * 256 + j) = 0 := h10 _ (fun q' hq' => hno q' (by rw [show (p * 256 + j) / 256 = p by omega] at hq'; exact hq'))
        show w4.cell? ⟨q, j, none⟩ = some (.int .u8 ((c (p * 256 + j) : Nat) : Int))
        rw [e, World.cell?_of_block (ho.2.1 q hqz (by omega))]
        exact hc j hj
      · exact (World.frozen?_of_block (ho.2.1 q hqz (by omega))).trans (hf o)
  · rw [List.map_append, List.nodup_append]
    refine ⟨h9, by simp, ?_⟩
    intro a ha d hd
    obtain ⟨pq, hpq, rfl⟩ := List.mem_map.1 ha
    simp at hd
    subst hd
    have := (h8 pq hpq).2.2.2.1
    omega
set_option maxHeartbeats 3200000 in
theorem page_any (B g b : Nat) (W : World) (l : List (Nat × Nat)) (c : Nat → Nat) (h : STL B g b W l c) (p : Nat) (hp : p < 1024) :
    Calls Tryd.prog 112 #[.pointer (some ⟨g, 0, none⟩), .int .i64 (p : Int)] W fun e w' => (∃ q l', e = .returned (.slice (some ⟨q, 0, none⟩) 256 256) ∧ (p, q) ∈ l' ∧ STL B g b w' l' c ∧ ∀ pq ∈ l', pq ∈ l ∨ pq.2 = W.heap.size) ∧ OB b W w' := by
  have H := Lib.hid h
  obtain ⟨h1, ⟨h2, h3, h4, h5, h6⟩, h7, h8, h9⟩ := h
  have HM := Lib.hid h7
  have h56 := Lib.hid (And.intro h5 (And.intro h6 h4))
  clear h2 h3 h8 h9
  rcases lookP W b l h7 p (by omega) with ⟨q, hq, -, hl2⟩ | ⟨hno, -, hl2⟩
  · have hl3 : (Instr.lookup 147 (.map (some b)) (.agg #[.int .i64 (p : Int)]) false).run Tryd.prog W = .ok (.slice (some ⟨q, 0, none⟩) 256 256) W := hl2
    have HQ := Lib.hid hq
    have heq : ∀ w, (binOp .eql 35 (.slice (some ⟨q, 0, none⟩) 256 256) (.slice none 0 0)).run Tryd.prog w = .ok (.bool false) w := fun w => Lib.run_eql_slice_nil (h := Tryd.underlying35) ..
    clear hl2 h7 hq h4 h5 h6
    go_enter Tryd.func112, Tryd.ntmps112
    go_wp2
    go_ret
    exact ⟨⟨q, l, rfl, HQ.out, H.out, fun pq h => .inl h⟩, OB.of_below (Below.refl _ _)⟩
  · have hl3 : (Instr.lookup 147 (.map (some b)) (.agg #[.int .i64 (p : Int)]) false).run Tryd.prog W = .ok (.slice none 0 0) W := hl2
    have hmk : ∀ W, (Instr.makeSlice 35 (.int .i64 256) (.int .i64 256)).run Tryd.prog W = .ok (.slice (some ⟨W.heap.size, 0, none⟩) 256 256) (W.alloc (.cells (madeCells #[.int .u8 0] 256) 5)) := fun W => mkN 256 (by decide) W
    have hbz3 : b < (W.alloc (.cells (madeCells #[.int .u8 0] 256) 5)).drew.heap.size := by simp; omega
    obtain ⟨w4, hins, hm4, hs4, ho4⟩ := insP (W.alloc (.cells (madeCells #[.int .u8 0] 256) 5)).drew b l (h7.keep (Below.heap_alloc W _ _ h6)) hbz3 p W.heap.size (by omega) hno
    have hins2 : (Instr.mapUpdate 147 (.map (some b)) (.agg #[.int .i64 (p : Int)]) (.slice (some ⟨W.heap.size, 0, none⟩) 256 256)).run Tryd.prog (W.alloc (.cells (madeCells #[.int .u8 0] 256) 5)).drew = .ok () w4 := hins
    have hB3 : Below W.heap.size W (W.alloc (.cells (madeCells #[.int .u8 0] 256) 5)).drew := (alc (Below.refl _ _) _).drew
    have hST : STL B g b w4 (l ++ [(p, W.heap.size)]) c := H.out.page hno hB3 rfl (by simp) (fun j hj => made_cell W 256 _ j hj) (fun o => made_frozen W 256 _ o) hm4 hs4 ho4
    have hOB : OB b W w4 := (OB.of_below hB3).trans ho4 (.inl rfl)
    have HST := Lib.hid hST
    have HOB := Lib.hid hOB
    have hg4 := hST.1
    obtain ⟨q, hq, -, hl5⟩ : ∃ q, (p, q) ∈ l ++ [(p, W.heap.size)] ∧ True ∧ (Instr.lookup 147 (.map (some b)) (.agg #[.int .i64 (p : Int)]) false).run Tryd.prog w4 = .ok (.slice (some ⟨q, 0, none⟩) 256 256) w4 := by
      rcases lookP w4 b _ hm4 p (by omega) with ⟨q, hq, _, k2⟩ | ⟨kno, _, _⟩
      · exact ⟨q, hq, trivial, k2⟩
      · exact absurd (List.mem_append_right _ (List.mem_singleton.2 rfl)) (kno W.heap.size)
    have HQ := Lib.hid hq
    have hg3 : (W.alloc (.cells (madeCells #[.int .u8 0] 256) 5)).drew.cell? ⟨g, 0, none⟩ = some (.map (some b)) := (hB3.cell (p := ⟨g, 0, none⟩) h5).trans h1
    have heq : ∀ w, (binOp .eql 35 (.slice none 0 0) (.slice none 0 0)).run Tryd.prog w = .ok (.bool true) w := fun w => Lib.run_eql_slice_nil (h := Tryd.underlying35) ..
    clear hl2 h7 hno hbz3 hins hm4 hs4 ho4 hB3 hST hOB hq h4 h5 h6
    go_enter Tryd.func112, Tryd.ntmps112
    go_upto_region 2 with (fail)
    refine wp_region_held_drew (S := fun w' => w'.cell? ⟨g, 0, none⟩ = some (.map (some b))) (by kernel_rfl) ?_ (fun hHeld => ?_)
    · exact h1
    refine wpAnyH_take (i := 0) (v := ?_) rfl (by kernel_rfl) (by kernel_rfl) (by kernel_rfl) (fun _ _ _ h => h) (Or.inl ⟨by kernel_rfl, ?_⟩) (by assumption) ?_
    rotate_left
    · (intro w hSw; (try dsimp only at hSw); go_simp)
      try (with_reducible rfl)
    rotate_left
    try simp (maxSteps := 4000000) only [Act.put, List.setIfInBounds_toArray, List.set_cons_zero, List.set_cons_succ, List.getElem_toArray, List.getElem_cons_zero, List.getElem_cons_succ]
    refine wpAnyH_take (i := 1) (v := ?_) rfl (by kernel_rfl) (by kernel_rfl) (by kernel_rfl) (fun _ _ _ h => h) (Or.inl ⟨by kernel_rfl, ?_⟩) (by assumption) ?_
    rotate_left
    · (intro w hSw; (try dsimp only at hSw); go_simp)
      try (with_reducible rfl)
    rotate_left
    try simp (maxSteps := 4000000) only [Act.put, List.setIfInBounds_toArray, List.set_cons_zero, List.set_cons_succ, List.getElem_toArray, List.getElem_cons_zero, List.getElem_cons_succ]
    refine wpAnyH_take (i := 2) (v := ?_) rfl (by kernel_rfl) (by kernel_rfl) (by kernel_rfl) (fun _ _ _ h => h) (Or.inl ⟨by kernel_rfl, ?_⟩) (by assumption) ?_
    rotate_left
    · (intro w hSw; (try dsimp only at hSw); go_simp)
      try (with_reducible rfl)
    rotate_left
    try simp (maxSteps := 4000000) only [Act.put, List.setIfInBounds_toArray, List.set_cons_zero, List.set_cons_succ, List.getElem_toArray, List.getElem_cons_zero, List.getElem_cons_succ]
    refine wpAnyH_take (i := 3) (v := ?_) rfl (by kernel_rfl) (by kernel_rfl) (by kernel_rfl) (fun _ _ _ h => h) (Or.inl ⟨by kernel_rfl, ?_⟩) (by assumption) ?_
    rotate_left
    · (intro w hSw; (try dsimp only at hSw); go_simp)
      try (with_reducible rfl)
    rotate_left
    try simp (maxSteps := 4000000) only [Act.put, List.setIfInBounds_toArray, List.set_cons_zero, List.set_cons_succ, List.getElem_toArray, List.getElem_cons_zero, List.getElem_cons_succ]
    refine wpAnyH_take (i := 4) (v := ?_) rfl (by kernel_rfl) (by kernel_rfl) (by kernel_rfl) (fun _ _ _ h => h) (Or.inl ⟨by kernel_rfl, ?_⟩) (by assumption) ?_
    rotate_left
    · (intro w hSw; (try dsimp only at hSw); go_simp)
      try (with_reducible rfl)
    rotate_left
    try simp (maxSteps := 4000000) only [Act.put, List.setIfInBounds_toArray, List.set_cons_zero, List.set_cons_succ, List.getElem_toArray, List.getElem_cons_zero, List.getElem_cons_succ]
    refine wpAnyH_take (i := 5) (v := ?_) rfl (by kernel_rfl) (by kernel_rfl) (by kernel_rfl) (fun _ _ _ h => h) (Or.inl ⟨by kernel_rfl, ?_⟩) (by assumption) ?_
    rotate_left
    · (intro w hSw; (try dsimp only at hSw); go_simp)
      try (with_reducible rfl)
    rotate_left
    try simp (maxSteps := 4000000) only [Act.put, List.setIfInBounds_toArray, List.set_cons_zero, List.set_cons_succ, List.getElem_toArray, List.getElem_cons_zero, List.getElem_cons_succ]
    refine wpAnyH_ready (rs := [6]) (by kernel_rfl) (by simp) ?_
    refine AllReadyH.cons rfl (fun K2 hK2 => ?_) AllReadyH.nil
    go_simp
    refine hK2.out _ _ hg3 (fun hHeld2 => ?_)
    clear hK2 K2 hHeld
    have hHeld := hHeld2
    clear hHeld2
    try simp (maxSteps := 4000000) only [Act.put, List.setIfInBounds_toArray, List.set_cons_zero, List.set_cons_succ]
    refine wpAnyH_ready (rs := [7]) (by kernel_rfl) (by simp) ?_
    refine AllReadyH.cons rfl (fun K2 hK2 => ?_) AllReadyH.nil
    go_simp
    refine hK2.out _ _ hg4 (fun hHeld2 => ?_)
    clear hK2 K2 hHeld
    have hHeld := hHeld2
    clear hHeld2
    try simp (maxSteps := 4000000) only [Act.put, List.setIfInBounds_toArray, List.set_cons_zero, List.set_cons_succ]
    refine wpAnyH_done (by kernel_rfl) ?_ _
    clear hl3 hmk hins2 hg3 h1
    go_wp2
    go_ret
    exact ⟨⟨q, _, rfl, HQ.out, HST.out, fun pq h => by
      rcases List.mem_append.1 h with h | h
      · exact .inl h
      · simp at h; subst h; exact .inr rfl⟩, HOB.out⟩
end Go.Proofs.YtgidnmjeifgciaaDoor
