/- SoC, SoD in one text: a claim holds at most 60 files. -/
import Derived.Test.YtljjcomedjdpaaaDoorSoB
import Derived.Lib.LazyBuf
import Derived.Deep.RegionHeld3
import Derived.Deep.LoopGhost
namespace Go.Proofs.YtljjcomedjdpaaaDoor
set_option maxRecDepth 100000
open Go.RowKit Go.ChangeMaps Go.MapKept
open Go.Maps (Keyed)
set_option linter.unusedVariables false
set_option linter.unusedSimpArgs false

theorem OB.trans {b b' : Nat} {W w1 w2 : World} (h : OB b W w1) (k : OB b' w1 w2) (hb : b' = b ∨ W.heap.size ≤ b') : OB b W w2 := by
  obtain ⟨s1, o1, l1⟩ := h
  obtain ⟨s2, o2, l2⟩ := k
  refine ⟨Nat.le_trans s1 s2, fun i hi hb' => ?_, fun L hb' hL => (l1 L hb' hL).trans (l2 L ?_ (Nat.le_trans hL s1))⟩
  · rw [o2 i (Nat.lt_of_lt_of_le hi s1) (by rcases hb with rfl | h; exact hb'; omega), o1 i hi hb']
  · rcases hb with rfl | h; exact hb'; omega
/-- A new page of noughts. -/
theorem STL.page {B g b : Nat} {W w3 w4 : World} {l : List (Nat × Nat)} {c : Nat → Nat} {p q : Nat} (h : STL B g b W l c) (hno : ∀ q, ¬ (p, q) ∈ l) (hB : Below W.heap.size W w3) (hq : q = W.heap.size) (hqz : q < w3.heap.size)
    (hc : ∀ j, j < 256 → w3.cell? ⟨q, j, none⟩ = some (.int .u8 0)) (hf : ∀ o, w3.frozen? ⟨q, o, none⟩ = false) (hm : MP b w4 (l ++ [(p, q)])) (hs : w4.heap.size = w3.heap.size) (ho : OB b w3 w4) : STL B g b w4 (l ++ [(p, q)]) c := by
  obtain ⟨h1, ⟨h2, h3, h4, h5, h6⟩, h7, h8, h9, h10⟩ := h
  have hg : w4.heap[g]? = W.heap[g]? := (ho.2.1 g (Nat.lt_of_lt_of_le h5 hB.size) h4).trans (hB.block g h5)
  refine ⟨(World.cell?_of_block hg).trans h1, ⟨h2, h3, h4, by rw [hs]; exact Nat.lt_of_lt_of_le h5 hB.size, by rw [hs]; exact Nat.lt_of_lt_of_le h6 hB.size⟩, hm, fun pq hpq => ?_, ?_, fun x hx => h10 x (fun q' hq' => hx q' (List.mem_append_left _ hq'))⟩
  · rcases List.mem_append.1 hpq with hpq | hpq
    · obtain ⟨k1, k2, k3, k4⟩ := h8 pq hpq
      exact ⟨k1, k2, k3, k4.keep (by rw [hs]; exact hB.size) ((ho.2.1 pq.2 (Nat.lt_of_lt_of_le k4.1 hB.size) k2).trans (hB.block pq.2 k4.1))⟩
    · simp only [List.mem_singleton] at hpq
      subst hpq
      refine ⟨by show q ≠ g; omega, by show q ≠ b; omega, by show B ≤ q; omega, by show q < w4.heap.size; omega, fun j hj => ?_, fun o => ?_⟩
      · have e : c (p * 256 + j) = 0 := h10 _ (fun q' hq' => hno q' (by rw [show (p * 256 + j) / 256 = p by omega] at hq'; exact hq'))
        show w4.cell? ⟨q, j, none⟩ = some (.int .u8 ((c (p * 256 + j) : Nat) : Int))
        rw [e, World.cell?_of_block (ho.2.1 q hqz (by omega))]
        exact hc j hj
      · exact (World.frozen?_of_block (ho.2.1 q hqz (by omega))).trans (hf o)
  · rw [List.map_append, List.nodup_append]
    refine ⟨h9, by simp, ?_⟩
    intro a ha d hd
    obtain ⟨pq, hpq, rfl⟩ := List.mem_map.1 ha
    simp at hd
    subst hd
    have := (h8 pq hpq).2.2.2.1
    omega
set_option maxHeartbeats 3200000 in
theorem page_any (B g b : Nat) (W : World) (l : List (Nat × Nat)) (c : Nat → Nat) (h : STL B g b W l c) (p : Nat) (hp : p < 1024) :
    Calls Tryd.prog 86 #[.pointer (some ⟨g, 0, none⟩), .int .i64 (p : Int)] W fun e w' => (∃ q l', e = .returned (.slice (some ⟨q, 0, none⟩) 256 256) ∧ (p, q) ∈ l' ∧ STL B g b w' l' c ∧ ∀ pq ∈ l', pq ∈ l ∨ pq.2 = W.heap.size) ∧ OB b W w' := by
  have H := Lib.hid h
  obtain ⟨h1, ⟨h2, h3, h4, h5, h6⟩, h7, h8, h9⟩ := h
  have HM := Lib.hid h7
  have h56 := Lib.hid (And.intro h5 (And.intro h6 h4))
  clear h2 h3 h8 h9
  rcases lookP W b l h7 p (by omega) with ⟨q, hq, -, hl2⟩ | ⟨hno, -, hl2⟩
  · have hl3 : (Instr.lookup 114 (.map (some b)) (.agg #[.int .i64 (p : Int)]) false).run Tryd.prog W = .ok (.slice (some ⟨q, 0, none⟩) 256 256) W := hl2
    have HQ := Lib.hid hq
    have heq : ∀ w, (binOp .eql 39 (.slice (some ⟨q, 0, none⟩) 256 256) (.slice none 0 0)).run Tryd.prog w = .ok (.bool false) w := fun w => Lib.run_eql_slice_nil (h := Tryd.underlying39) ..
    clear hl2 h7 hq h4 h5 h6
    go_enter Tryd.func86, Tryd.ntmps86
    go_wp2
    go_ret
    exact ⟨⟨q, l, rfl, HQ.out, H.out, fun pq h => .inl h⟩, OB.of_below (Below.refl _ _)⟩
  · have hl3 : (Instr.lookup 114 (.map (some b)) (.agg #[.int .i64 (p : Int)]) false).run Tryd.prog W = .ok (.slice none 0 0) W := hl2
    have hmk : ∀ W, (Instr.makeSlice 39 (.int .i64 256) (.int .i64 256)).run Tryd.prog W = .ok (.slice (some ⟨W.heap.size, 0, none⟩) 256 256) (W.alloc (.cells (madeCells #[.int .u8 0] 256) 5)) := fun W => mkN 256 (by decide) W
    have hbz3 : b < (W.alloc (.cells (madeCells #[.int .u8 0] 256) 5)).drew.heap.size := by simp; omega
    obtain ⟨w4, hins, hm4, hs4, ho4⟩ := insP (W.alloc (.cells (madeCells #[.int .u8 0] 256) 5)).drew b l (h7.keep (Below.heap_alloc W _ _ h6)) hbz3 p W.heap.size (by omega) hno
    have hins2 : (Instr.mapUpdate 114 (.map (some b)) (.agg #[.int .i64 (p : Int)]) (.slice (some ⟨W.heap.size, 0, none⟩) 256 256)).run Tryd.prog (W.alloc (.cells (madeCells #[.int .u8 0] 256) 5)).drew = .ok () w4 := hins
    have hB3 : Below W.heap.size W (W.alloc (.cells (madeCells #[.int .u8 0] 256) 5)).drew := (alc (Below.refl _ _) _).drew
    have hST : STL B g b w4 (l ++ [(p, W.heap.size)]) c := H.out.page hno hB3 rfl (by simp) (fun j hj => made_cell W 256 _ j hj) (fun o => made_frozen W 256 _ o) hm4 hs4 ho4
    have hOB : OB b W w4 := (OB.of_below hB3).trans ho4 (.inl rfl)
    have HST := Lib.hid hST
    have HOB := Lib.hid hOB
    have hg4 := hST.1
    obtain ⟨q, hq, -, hl5⟩ : ∃ q, (p, q) ∈ l ++ [(p, W.heap.size)] ∧ True ∧ (Instr.lookup 114 (.map (some b)) (.agg #[.int .i64 (p : Int)]) false).run Tryd.prog w4 = .ok (.slice (some ⟨q, 0, none⟩) 256 256) w4 := by
      rcases lookP w4 b _ hm4 p (by omega) with ⟨q, hq, _, k2⟩ | ⟨kno, _, _⟩
      · exact ⟨q, hq, trivial, k2⟩
      · exact absurd (List.mem_append_right _ (List.mem_singleton.2 rfl)) (kno W.heap.size)
    have HQ := Lib.hid hq
    have hg3 : (W.alloc (.cells (madeCells #[.int .u8 0] 256) 5)).drew.cell? ⟨g, 0, none⟩ = some (.map (some b)) := (hB3.cell (p := ⟨g, 0, none⟩) h5).trans h1
    have heq : ∀ w, (binOp .eql 39 (.slice none 0 0) (.slice none 0 0)).run Tryd.prog w = .ok (.bool true) w := fun w => Lib.run_eql_slice_nil (h := Tryd.underlying39) ..
    clear hl2 h7 hno hbz3 hins hm4 hs4 ho4 hB3 hST hOB hq h4 h5 h6
    go_enter Tryd.func86, Tryd.ntmps86
    go_upto_region 2 with (fail)
    refine wp_region_held_drew (S := fun w' => w'.cell? ⟨g, 0, none⟩ = some (.map (some b))) (by kernel_rfl) ?_ (fun hHeld => ?_)
    · exact h1
    refine wpAnyH_take (i := 0) (v := ?_) rfl (by kernel_rfl) (by kernel_rfl) (by kernel_rfl) (fun _ _ _ h => h) (Or.inl ⟨by kernel_rfl, ?_⟩) (by assumption) ?_
    rotate_left
    · (intro w hSw; (try dsimp only at hSw); go_simp)
      try (with_reducible rfl)
    rotate_left
    try simp (maxSteps := 4000000) only [Act.put, List.setIfInBounds_toArray, List.set_cons_zero, List.set_cons_succ, List.getElem_toArray, List.getElem_cons_zero, List.getElem_cons_succ]
    refine wpAnyH_take (i := 1) (v := ?_) rfl (by kernel_rfl) (by kernel_rfl) (by kernel_rfl) (fun _ _ _ h => h) (Or.inl ⟨by kernel_rfl, ?_⟩) (by assumption) ?_
    rotate_left
    · (intro w hSw; (try dsimp only at hSw); go_simp)
      try (with_reducible rfl)
    rotate_left
    try simp (maxSteps := 4000000) only [Act.put, List.setIfInBounds_toArray, List.set_cons_zero, List.set_cons_succ, List.getElem_toArray, List.getElem_cons_zero, List.getElem_cons_succ]
    refine wpAnyH_take (i := 2) (v := ?_) rfl (by kernel_rfl) (by kernel_rfl) (by kernel_rfl) (fun _ _ _ h => h) (Or.inl ⟨by kernel_rfl, ?_⟩) (by assumption) ?_
    rotate_left
    · (intro w hSw; (try dsimp only at hSw); go_simp)
      try (with_reducible rfl)
    rotate_left
    try simp (maxSteps := 4000000) only [Act.put, List.setIfInBounds_toArray, List.set_cons_zero, List.set_cons_succ, List.getElem_toArray, List.getElem_cons_zero, List.getElem_cons_succ]
    refine wpAnyH_take (i := 3) (v := ?_) rfl (by kernel_rfl) (by kernel_rfl) (by kernel_rfl) (fun _ _ _ h => h) (Or.inl ⟨by kernel_rfl, ?_⟩) (by assumption) ?_
    rotate_left
    · (intro w hSw; (try dsimp only at hSw); go_simp)
      try (with_reducible rfl)
    rotate_left
    try simp (maxSteps := 4000000) only [Act.put, List.setIfInBounds_toArray, List.set_cons_zero, List.set_cons_succ, List.getElem_toArray, List.getElem_cons_zero, List.getElem_cons_succ]
    refine wpAnyH_take (i := 4) (v := ?_) rfl (by kernel_rfl) (by kernel_rfl) (by kernel_rfl) (fun _ _ _ h => h) (Or.inl ⟨by kernel_rfl, ?_⟩) (by assumption) ?_
    rotate_left
    · (intro w hSw; (try dsimp only at hSw); go_simp)
      try (with_reducible rfl)
    rotate_left
    try simp (maxSteps := 4000000) only [Act.put, List.setIfInBounds_toArray, List.set_cons_zero, List.set_cons_succ, List.getElem_toArray, List.getElem_cons_zero, List.getElem_cons_succ]
    refine wpAnyH_take (i := 5) (v := ?_) rfl (by kernel_rfl) (by kernel_rfl) (by kernel_rfl) (fun _ _ _ h => h) (Or.inl ⟨by kernel_rfl, ?_⟩) (by assumption) ?_
    rotate_left
    · (intro w hSw; (try dsimp only at hSw); go_simp)
      try (with_reducible rfl)
    rotate_left
    try simp (maxSteps := 4000000) only [Act.put, List.setIfInBounds_toArray, List.set_cons_zero, List.set_cons_succ, List.getElem_toArray, List.getElem_cons_zero, List.getElem_cons_succ]
    refine wpAnyH_ready (rs := [6]) (by kernel_rfl) (by simp) ?_
    refine AllReadyH.cons rfl (fun K2 hK2 => ?_) AllReadyH.nil
    go_simp
    refine hK2.out _ _ hg3 (fun hHeld2 => ?_)
    clear hK2 K2 hHeld
    have hHeld := hHeld2
    clear hHeld2
    try simp (maxSteps := 4000000) only [Act.put, List.setIfInBounds_toArray, List.set_cons_zero, List.set_cons_succ]
    refine wpAnyH_ready (rs := [7]) (by kernel_rfl) (by simp) ?_
    refine AllReadyH.cons rfl (fun K2 hK2 => ?_) AllReadyH.nil
    go_simp
    refine hK2.out _ _ hg4 (fun hHeld2 => ?_)
    clear hK2 K2 hHeld
    have hHeld := hHeld2
    clear hHeld2
    try simp (maxSteps := 4000000) only [Act.put, List.setIfInBounds_toArray, List.set_cons_zero, List.set_cons_succ]
    refine wpAnyH_done (by kernel_rfl) ?_ _
    clear hl3 hmk hins2 hg3 h1
    go_wp2
    go_ret
    exact ⟨⟨q, _, rfl, HQ.out, HST.out, fun pq h => by
      rcases List.mem_append.1 h with h | h
      · exact .inl h
      · simp at h; subst h; exact .inr rfl⟩, HOB.out⟩
end Go.Proofs.YtljjcomedjdpaaaDoor
namespace Go.Proofs.YtljjcomedjdpaaaDoor
set_option maxRecDepth 100000
open Go.RowKit Go.ChangeMaps Go.MapKept
open Go.Maps (Keyed)
set_option linter.unusedVariables false
set_option linter.unusedSimpArgs false

set_option maxRecDepth 100000 in
set_option maxHeartbeats 3200000 in
theorem eachF (c1 c2 : Value) (base len : Nat) (hl : 0 < len) (hb : base + len ≤ 262144) (W : World) (I : Nat → World → Prop)
    (hI : ∀ at_ w w', I at_ w → Below w.heap.size w w' → I at_ w')
    (hstep : ∀ at_ w, base ≤ at_ → at_ < base + len → W.heap.size < w.heap.size → I at_ w → Calls Tryd.prog 85 #[.int .i64 ((at_ / 256 : Nat) : Int), .int .i64 ((at_ % 256 : Nat) : Int), .int .i64 ((min 256 (at_ % 256 + (base + len - at_)) : Nat) : Int), .int .i64 ((at_ - base : Nat) : Int), c1, c2] w fun e w' => e = .returned (.tuple #[]) ∧ I (at_ + (min 256 (at_ % 256 + (base + len - at_)) - at_ % 256)) w' ∧ w.heap.size ≤ w'.heap.size ∧ w'.heap[W.heap.size]? = w.heap[W.heap.size]?)
    (h0 : ∀ w1, Below W.heap.size W w1 → I base w1) :
    Calls Tryd.prog 84 #[.agg #[.int .i64 (base : Int), .int .i64 (len : Int)], .func (.func 85) #[] #[c1, c2]] W fun e w' => e = .returned (.tuple #[]) ∧ I (base + len) w' := by
  obtain ⟨N, hN⟩ : ∃ N, base + len = N := ⟨_, rfl⟩
  rw [hN] at hstep hb ⊢
  have HI := Lib.hid hI
  have HS := Lib.hid hstep
  have H0 := Lib.hid h0
  have hend : endI (base : Int) (len : Int) = (N : Int) := by
    rw [endI_yes (mayB_iff.2 (by omega))]
    omega
  have HE := Lib.hid hend
  have hNl : base ≤ N ∧ base < N := by omega
  obtain ⟨hN1, hN2⟩ := hNl
  have hN9 : N ≤ 262144 := hb
  have HNN := Lib.hid hN
  clear hI hstep h0 hend hb hN
  go_enter Tryd.func84, Tryd.ntmps84
  go_wp2_with fail
  obtain ⟨w1, hw1⟩ : ∃ w1, W.alloc (.cells #[.int .i64 (base : Int), .int .i64 (len : Int)] 33) = w1 := ⟨_, rfl⟩
  obtain ⟨X, hX⟩ : ∃ X, W.heap.size = X := ⟨_, rfl⟩
  have HX := Lib.hid hX
  have HX1 : Hid (w1.heap[X]? = some (.cells #[.int .i64 (base : Int), .int .i64 (len : Int)] 33) ∧ X < w1.heap.size) := Lib.hid (by
    rw [← hw1, ← hX]
    exact ⟨by show (W.heap.push _)[W.heap.size]? = _; simp, by simp⟩)
  have HI1 : Hid (I base w1) := Lib.hid (H0.out w1 (by rw [← hw1]; exact alc0 _ _))
  rw [hw1]
  try rw [hX]
  clear hw1 hX
  go_loopw [4] (fun v4 wr => ∃ a : Nat, base ≤ a ∧ a ≤ N ∧ v4 = .int .i64 a ∧ Hid (I a wr) ∧ Hid (wr.heap[X]? = some (.cells #[.int .i64 (base : Int), .int .i64 (len : Int)] 33) ∧ X < wr.heap.size)) (fun v4 _ => N - (intOf v4).toNat)
  case atStart => exact ⟨base, by omega, by omega, rfl, HI1, HX1⟩
  case round =>
    clear HI1 HX1
    obtain ⟨a, ha, hae, rfl, HIa, HXa⟩ := hrel
    have hc0 : wr.cell? ⟨X, 0, none⟩ = some (.int .i64 (base : Int)) := cell_of_row _ _ 0 _ _ _ HXa.out.1
    have hc1 : wr.cell? ⟨X, 1, none⟩ = some (.int .i64 (len : Int)) := cell_of_row _ _ 1 _ _ _ HXa.out.1
    have hXz := HXa.out.2
    go_wp2_with fail
    with_reducible refine Calls.mono (end_any _ _ wr) ?_
    rintro e w2 ⟨rfl, hb2⟩
    rw [HE.out]
    have HB2 := Lib.hid hb2
    have hd0 := (hb2.cell (p := ⟨X, 0, none⟩) hXz).trans hc0
    have hd1 := (hb2.cell (p := ⟨X, 1, none⟩) hXz).trans hc1
    clear hb2 hc0 hc1
    by_cases hlt : a < N
    · have i1 : (a : Int) < (N : Int) := by omega
      obtain ⟨P, hP⟩ : ∃ P, a / 256 = P := ⟨_, rfl⟩
      obtain ⟨R, hR⟩ : ∃ R, a % 256 = R := ⟨_, rfl⟩
      obtain ⟨T, hT⟩ : ∃ T, min 256 (R + (N - a)) = T := ⟨_, rfl⟩
      have q1 : (a : Int).tdiv 256 = (P : Int) := by rw [Int.tdiv_eq_ediv_of_nonneg (by omega)]; omega
      have q1' : (a : Int) / 256 = (P : Int) := by omega
      have q2 : (a : Int).tmod 256 = (R : Int) := by rw [Int.tmod_eq_emod_of_nonneg (by omega)]; omega
      have q2' : (a : Int) % 256 = (R : Int) := by omega
      have hR9 : R < 256 := by omega
      have hPn := Lib.hid hP
      have hRn := Lib.hid hR
      have hTn := Lib.hid hT
      have hT1 : R < T := by omega
      have hT2 : T ≤ 256 := by omega
      have hT3 : a + (T - R) ≤ N := by omega
      obtain ⟨RN, hRN⟩ : ∃ RN, R + N = RN := ⟨_, rfl⟩
      have q3 : IntKind.i64.wrap ((R : Int) + (N : Int)) = (RN : Int) := by rw [IntKind.wrap_i64]; omega
      have q4 : IntKind.i64.wrap ((RN : Int) - (a : Int)) = ((R + (N - a) : Nat) : Int) := by rw [IntKind.wrap_i64]; omega
      have q5 : IntKind.i64.wrap ((a : Int) - (base : Int)) = ((a - base : Nat) : Int) := by rw [IntKind.wrap_i64]; omega
      have q6 : IntKind.i64.wrap ((T : Int) - (R : Int)) = ((T - R : Nat) : Int) := by rw [IntKind.wrap_i64]; omega
      have q7 : IntKind.i64.wrap ((a : Int) + ((T - R : Nat) : Int)) = ((a + (T - R) : Nat) : Int) := by rw [IntKind.wrap_i64]; omega
      clear hP hR hT hRN
      go_wp2_with fail
      with_reducible refine Calls.mono (end_any _ _ w2) ?_
      rintro e w3 ⟨rfl, hb3⟩
      rw [HE.out]
      have HB3 : Hid (Below wr.heap.size wr w3) := Lib.hid (thn HB2.out hb3)
      have he0 := (hb3.cell (p := ⟨X, 0, none⟩) (Nat.lt_of_lt_of_le hXz HB2.out.size)).trans hd0
      have he1 := (hb3.cell (p := ⟨X, 1, none⟩) (Nat.lt_of_lt_of_le hXz HB2.out.size)).trans hd1
      clear hb3 hd0 hd1 hXz
      obtain ⟨E, hE⟩ : ∃ E : Nat, R + (N - a) = E := ⟨_, rfl⟩
      rw [hE] at q4
      have hEn := Lib.hid hE
      have hPlus : a - base = a - base := rfl
      have hstep := HS.out a w3 ha hlt (by rw [HX.out]; have := HXa.out.2; have := HB3.out.size; omega) (HI.out a wr w3 HIa.out HB3.out)
      rw [hPn.out, hRn.out, hEn.out] at hstep
      have hTE : min 256 E = T := by rw [← hEn.out]; exact hTn.out
      rw [hTE] at hstep
      have HST := Lib.hid hstep
      have hX3 : Hid (w3.heap[X]? = some (.cells #[.int .i64 (base : Int), .int .i64 (len : Int)] 33) ∧ X < w3.heap.size) := Lib.hid ⟨(HB3.out.block X HXa.out.2).trans HXa.out.1, by have := HXa.out.2; have := HB3.out.size; omega⟩
      have hNeg : base ≤ a + (T - R) := by omega
      have hlt2 : N - (a + (T - R)) < N - a := by omega
      clear hPlus hstep hTE
      rcases (show (E < 256 ∧ T = E) ∨ (256 ≤ E ∧ T = 256) by have := hTn.out; rw [hEn.out] at this; omega) with ⟨hm1, hm2⟩ | ⟨hm1, hm2⟩
      · subst hm2
        have j1 : (T : Int) < 256 := by omega
        clear hm1
        go_wp2_with fail
        with_reducible refine Calls.mono HST.out ?_
        rintro e w4 ⟨rfl, hI4, hs4, hx4⟩
        rw [HX.out] at hx4
        have HI4 := Lib.hid hI4
        have HX4 : Hid (w4.heap[X]? = some (.cells #[.int .i64 (base : Int), .int .i64 (len : Int)] 33) ∧ X < w4.heap.size) := Lib.hid ⟨hx4.trans hX3.out.1, by have := hX3.out.2; omega⟩
        clear hI4 hs4 hx4 he0 he1
        go_wp2_with fail
        go_roundw
        case rel => exact ⟨a + (T - R), hNeg, hT3, by first | rfl | go_num, HI4, HX4⟩
        case measure => (simp [intOf] <;> omega)
      · subst hm2
        have j1 : ¬ (E : Int) < 256 := by omega
        clear hm1
        go_wp2_with fail
        with_reducible refine Calls.mono HST.out ?_
        rintro e w4 ⟨rfl, hI4, hs4, hx4⟩
        rw [HX.out] at hx4
        have HI4 := Lib.hid hI4
        have HX4 : Hid (w4.heap[X]? = some (.cells #[.int .i64 (base : Int), .int .i64 (len : Int)] 33) ∧ X < w4.heap.size) := Lib.hid ⟨hx4.trans hX3.out.1, by have := hX3.out.2; omega⟩
        clear hI4 hs4 hx4 he0 he1
        go_wp2_with fail
        go_roundw
        case rel => exact ⟨a + (256 - R), hNeg, hT3, by first | rfl | go_num, HI4, HX4⟩
        case measure => (simp [intOf] <;> omega)
    · obtain rfl : a = N := by omega
      have i1 : ¬ (a : Int) < (a : Int) := by omega
      go_wp2
      exact bodyPost_end (v := .tuple #[]) (by simp [results, Tryd.results84, go_sem]) rfl ⟨rfl, HI.out a wr w2 HIa.out HB2.out⟩
end Go.Proofs.YtljjcomedjdpaaaDoor

