/- SoG. -/
import Derived.Test.YtnfcpohbdkionaaGreatDoorZ05
import Derived.Deep.RegionHeld3
namespace Go.Proofs.YtnfcpohbdkionaaGreatDoor
set_option maxRecDepth 100000
open Go.RowKit Go.ChangeMaps Go.MapKept
open Go.Maps (Keyed)
set_option linter.unusedVariables false
set_option linter.unusedSimpArgs false
theorem addp (b o j : Nat) : (⟨b, o, none⟩ : Addr).add j = ⟨b, o + j, none⟩ := by unfold Addr.add; split <;> simp_all
/-- n bytes in a block of their own. -/
def PGn (D n : Nat) (W : World) (f : Nat → Nat) : Prop := D < W.heap.size ∧ (∀ j, j < n → W.cell? ⟨D, j, none⟩ = some (.int .u8 (f j : Int))) ∧ ∀ o, W.frozen? ⟨D, o, none⟩ = false
theorem PGn.keep {D n : Nat} {W W' : World} {f : Nat → Nat} (h : PGn D n W f) (hs : W.heap.size ≤ W'.heap.size) (e : W'.heap[D]? = W.heap[D]?) : PGn D n W' f :=
  ⟨Nat.lt_of_lt_of_le h.1 hs, fun j hj => (World.cell?_of_block e).trans (h.2.1 j hj), fun o => (World.frozen?_of_block e).trans (h.2.2 o)⟩
theorem ob_set (g o : Nat) (W : World) (v : Value) : OB g W (W.setCell ⟨g, o, none⟩ v) :=
  ⟨by simp [World.setCell], fun i _ hi => Below.heap_setCell W ⟨g, o, none⟩ v i hi, fun L hL _ => (Below.refl _ _).setCell hL _⟩
theorem ob_cells (b : Nat) : ∀ (vs : List Value) (o : Nat) (W : World), OB b W (W.setCells b o vs) ∧ (W.setCells b o vs).heap.size = W.heap.size
  | [], o, W => ⟨OB.of_below (Below.refl _ _), rfl⟩
  | v :: r, o, W => by
    have h := ob_cells b r (o + 1) (W.setCell ⟨b, o, none⟩ v)
    exact ⟨(ob_set b o W v).trans h.1 (.inl rfl), h.2.trans (by simp [World.setCell])⟩
/-- Bytes that are written over some of those. -/
theorem PGn.cells {D n : Nat} {W : World} {f : Nat → Nat} (h : PGn D n W f) (o k : Nat) (hk : o + k ≤ n) (c : Nat → Nat) : PGn D n (W.setCells D o ((List.range k).map fun i => Value.int .u8 ((c i : Nat) : Int))) (fun j => if o ≤ j ∧ j < o + k then c (j - o) else f j) := by
  have hl : ((List.range k).map fun i => Value.int .u8 ((c i : Nat) : Int)).length = k := by simp
  refine ⟨by rw [(ob_cells D _ o W).2]; exact h.1, fun j hj => ?_, fun q => by rw [World.frozen?_setCells]; exact h.2.2 q⟩
  by_cases hc : o ≤ j ∧ j < o + k
  · have h1 := World.cell?_setCells_in D ((List.range k).map fun i => Value.int .u8 ((c i : Nat) : Int)) o W (fun i hi => by
      rw [hl] at hi
      rw [h.2.1 (o + i) (by omega)]; rfl) (j - o) (by rw [hl]; omega)
    rw [show o + (j - o) = j by omega] at h1
    rw [h1]
    simp only [if_pos hc]
    simp
  · rw [World.cell?_setCells_out D _ o W ⟨D, j, none⟩ (fun _ _ => by rw [hl]; show j < o ∨ o + k ≤ j; omega)]
    simp only [if_neg hc]
    exact h.2.1 j hj
set_option maxRecDepth 100000 in
set_option maxHeartbeats 3200000 in
theorem readC (B g b x3 x7 D n P R T dn : Nat) (w : World) (l : List (Nat × Nat)) (c f : Nat → Nat) (h : STL B g b w l c) (hx3 : w.cell? ⟨x3, 0, none⟩ = some (.pointer (some ⟨g, 0, none⟩))) (hx7 : w.cell? ⟨x7, 0, none⟩ = some (.slice (some ⟨D, 0, none⟩) n n))
    (hxD : x7 ≠ D) (hD : PGn D n w f) (hP : P < 1024) (hRT : R < T) (hT : T ≤ 256) (hdn : dn + (T - R) ≤ n) (hn : n ≤ 262144) (hz : ∀ k, k < T - R → f (dn + k) = 0) :
    Calls Tryz.prog 94 #[.int .i64 (P : Int), .int .i64 (R : Int), .int .i64 (T : Int), .int .i64 (dn : Int), .pointer (some ⟨x3, 0, none⟩), .pointer (some ⟨x7, 0, none⟩)] w fun e w' => e = .returned (.tuple #[]) ∧ PGn D n w' (fun j => if dn ≤ j ∧ j < dn + (T - R) then c (P * 256 + R + (j - dn)) else f j) ∧ OB D w w' := by
  have hg := h.1
  have HD := Lib.hid hD
  rcases lookP w b l h.2.2.1 P (by omega) with ⟨q, hq, hl1, -⟩ | ⟨hno, hl1, -⟩
  · have hl3 : (Instr.lookup 124 (.map (some b)) (.agg #[.int .i64 (P : Int)]) true).run Tryz.prog w = .ok (.tuple #[.slice (some ⟨q, 0, none⟩) 256 256, .bool true]) w := hl1
    obtain ⟨k1, k2, k3, k4⟩ := h.2.2.2.1 (P, q) hq
    have kc1 : ¬ n = dn := by omega
    have kc2 : ¬ 256 = R := by omega
    have kd : (dn : Int) ≤ n := by omega
    have kd0 : (0 : Int) ≤ dn := by omega
    have kt : (T : Int) ≤ 256 := by omega
    have kr : (R : Int) ≤ T := by omega
    have hlen : ((List.range (T - R)).map fun i => Value.int .u8 ((c (P * 256 + R + i) : Nat) : Int)).length = T - R := by simp
    have hcopy : (Builtin.copy_ #[38, 38] 3 #[.slice (some ⟨D, dn, none⟩) (n - dn) (n - dn), .slice (some ⟨q, R, none⟩) (T - R) (256 - R)]).run Tryz.prog w.drew = .ok (goInt (T - R : Nat)) (w.drew.setCells D dn ((List.range (T - R)).map fun i => Value.int .u8 ((c (P * 256 + R + i) : Nat) : Int))) := by
      have := run_copy_cells (P := Tryz.prog) w.drew 38 38 3 5 D dn (n - dn) (n - dn) ⟨q, R, none⟩ (T - R) (256 - R) ((List.range (T - R)).map fun i => Value.int .u8 ((c (P * 256 + R + i) : Nat) : Int)) Tryz.underlying38 (by kernel_rfl) (by rw [hlen]; exact (Nat.min_eq_left (by omega)).symm)
        (fun j v hv => by
          have hj : j < T - R := by have := (List.getElem?_eq_some_iff.1 hv).1; rwa [hlen] at this
          rw [addp]
          have h2 := k4.2.1 (R + j) (by omega)
          simp [hj] at hv
          rw [← hv]
          have e : P * 256 + R + j = P * 256 + (R + j) := by omega
          rw [e]
          exact h2)
        (fun j hj => by rw [hlen] at hj; have h2 := hD.2.1 (dn + j) (by omega); exact Option.isSome_iff_exists.2 ⟨_, h2⟩) (fun j hj => hD.2.2 _) (fun v hv => by obtain ⟨i, _, rfl⟩ := List.mem_map.1 hv; rfl)
      rw [hlen] at this
      exact this
    have hPG := hD.cells dn (T - R) hdn (fun i => c (P * 256 + R + i))
    have hOB := (ob_cells D ((List.range (T - R)).map fun i => Value.int .u8 ((c (P * 256 + R + i) : Nat) : Int)) dn w).1
    obtain ⟨w5, hw5⟩ : ∃ w5, w.drew.setCells D dn ((List.range (T - R)).map fun i => Value.int .u8 ((c (P * 256 + R + i) : Nat) : Int)) = w5 := ⟨_, rfl⟩
    have hPD : PGn D n w.drew f := hD
    have HPG5 : Hid (PGn D n w5 (fun j => if dn ≤ j ∧ j < dn + (T - R) then c (P * 256 + R + (j - dn)) else f j)) := Lib.hid (by rw [← hw5]; exact hPD.cells dn (T - R) hdn (fun i => c (P * 256 + R + i)))
    have HOB5 : Hid (OB D w w5) := Lib.hid (by
      rw [← hw5]
      exact (OB.of_below (Below.refl _ _).drew).trans (ob_cells D _ dn w.drew).1 (.inl rfl))
    rw [hw5] at hcopy
    have hx75 : w5.cell? ⟨x7, 0, none⟩ = some (.slice (some ⟨D, 0, none⟩) n n) := by
      have hz7 := World.block_lt_of_cell? w _ hx7
      exact (World.cell?_of_block (HOB5.out.2.1 x7 hz7 hxD)).trans hx7
    clear hl1 hq k1 k2 k3 k4 hPG hOB hw5 hPD hlen h hD
    go_enter Tryz.func94, Tryz.ntmps94
    go_upto_region 2 with (fail)
    refine wp_region_held_drew (S := fun w' => w'.cell? ⟨x7, 0, none⟩ = some (.slice (some ⟨D, 0, none⟩) n n)) (by kernel_rfl) ?_ (fun hHeld => ?_)
    · exact hx7
    refine wpAnyH_take (i := 0) (v := ?_) rfl (by kernel_rfl) (by kernel_rfl) (by kernel_rfl) (fun _ _ _ h => h) (Or.inl ⟨by kernel_rfl, ?_⟩) (by assumption) ?_
    rotate_left
    · (intro w hSw; (try dsimp only at hSw); go_simp)
      try (with_reducible rfl)
    rotate_left
    try simp (maxSteps := 4000000) only [Act.put, List.setIfInBounds_toArray, List.set_cons_zero, List.set_cons_succ, List.getElem_toArray, List.getElem_cons_zero, List.getElem_cons_succ]
    refine wpAnyH_take (i := 1) (v := ?_) rfl (by kernel_rfl) (by kernel_rfl) (by kernel_rfl) (fun _ _ _ h => h) (Or.inl ⟨by kernel_rfl, ?_⟩) (by assumption) ?_
    rotate_left
    · (intro w hSw; (try dsimp only at hSw); go_simp)
      try (with_reducible rfl)
    rotate_left
    try simp (maxSteps := 4000000) only [Act.put, List.setIfInBounds_toArray, List.set_cons_zero, List.set_cons_succ, List.getElem_toArray, List.getElem_cons_zero, List.getElem_cons_succ]
    refine wpAnyH_take (i := 2) (v := ?_) rfl (by kernel_rfl) (by kernel_rfl) (by kernel_rfl) (fun _ _ _ h => h) (Or.inl ⟨by kernel_rfl, ?_⟩) (by assumption) ?_
    rotate_left
    · (intro w hSw; (try dsimp only at hSw); go_simp)
      try (with_reducible rfl)
    rotate_left
    try simp (maxSteps := 4000000) only [Act.put, List.setIfInBounds_toArray, List.set_cons_zero, List.set_cons_succ, List.getElem_toArray, List.getElem_cons_zero, List.getElem_cons_succ]
    refine wpAnyH_take (i := 3) (v := ?_) rfl (by kernel_rfl) (by kernel_rfl) (by kernel_rfl) (fun _ _ _ h => h) (Or.inl ⟨by kernel_rfl, ?_⟩) (by assumption) ?_
    rotate_left
    · (intro w hSw; (try dsimp only at hSw); go_simp)
      try (with_reducible rfl)
    rotate_left
    try simp (maxSteps := 4000000) only [Act.put, List.setIfInBounds_toArray, List.set_cons_zero, List.set_cons_succ, List.getElem_toArray, List.getElem_cons_zero, List.getElem_cons_succ]
    refine wpAnyH_take (i := 4) (v := ?_) rfl (by kernel_rfl) (by kernel_rfl) (by kernel_rfl) (fun _ _ _ h => h) (Or.inl ⟨by kernel_rfl, ?_⟩) (by assumption) ?_
    rotate_left
    · (intro w hSw; (try dsimp only at hSw); go_simp)
      try (with_reducible rfl)
    rotate_left
    try simp (maxSteps := 4000000) only [Act.put, List.setIfInBounds_toArray, List.set_cons_zero, List.set_cons_succ, List.getElem_toArray, List.getElem_cons_zero, List.getElem_cons_succ]
    refine wpAnyH_take (i := 5) (v := ?_) rfl (by kernel_rfl) (by kernel_rfl) (by kernel_rfl) (fun _ _ _ h => h) (Or.inl ⟨by kernel_rfl, ?_⟩) (by assumption) ?_
    rotate_left
    · (intro w hSw; (try dsimp only at hSw); go_simp)
      try (with_reducible rfl)
    rotate_left
    try simp (maxSteps := 4000000) only [Act.put, List.setIfInBounds_toArray, List.set_cons_zero, List.set_cons_succ, List.getElem_toArray, List.getElem_cons_zero, List.getElem_cons_succ]
    refine wpAnyH_take (i := 6) (v := ?_) rfl (by kernel_rfl) (by kernel_rfl) (by kernel_rfl) (fun _ _ _ h => h) (Or.inl ⟨by kernel_rfl, ?_⟩) (by assumption) ?_
    rotate_left
    · (intro w hSw; (try dsimp only at hSw); go_simp)
      try (with_reducible rfl)
    rotate_left
    try simp (maxSteps := 4000000) only [Act.put, List.setIfInBounds_toArray, List.set_cons_zero, List.set_cons_succ, List.getElem_toArray, List.getElem_cons_zero, List.getElem_cons_succ]
    refine wpAnyH_ready (rs := [7]) (by kernel_rfl) (by simp) ?_
    refine AllReadyH.cons rfl (fun K2 hK2 => ?_) AllReadyH.nil
    go_simp
    refine hK2.out _ _ hx75 (fun hHeld2 => ?_)
    clear hK2 K2 hHeld
    have hHeld := hHeld2
    clear hHeld2
    try simp (maxSteps := 4000000) only [Act.put, List.setIfInBounds_toArray, List.set_cons_zero, List.set_cons_succ]
    refine wpAnyH_done (by kernel_rfl) ?_ _
    go_wp2
    exact bodyPost_end (v := .tuple #[]) (by simp [results, Tryz.results94, go_sem]) rfl ⟨rfl, HPG5.out, HOB5.out⟩
  · have hl3 : (Instr.lookup 124 (.map (some b)) (.agg #[.int .i64 (P : Int)]) true).run Tryz.prog w = .ok (.tuple #[.slice none 0 0, .bool false]) w := hl1
    have HF : Hid (PGn D n w (fun j => if dn ≤ j ∧ j < dn + (T - R) then c (P * 256 + R + (j - dn)) else f j)) := Lib.hid ⟨hD.1, fun j hj => by
      by_cases hc : dn ≤ j ∧ j < dn + (T - R)
      · have e1 : f j = 0 := by have := hz (j - dn) (by omega); rwa [show dn + (j - dn) = j by omega] at this
        have e2 : c (P * 256 + R + (j - dn)) = 0 := h.2.2.2.2.2 _ (fun q hq => hno q (by rw [show (P * 256 + R + (j - dn)) / 256 = P by omega] at hq; exact hq))
        have h3 := hD.2.1 j hj
        rw [e1] at h3
        simp only [if_pos hc, e2]
        exact h3
      · simp only [if_neg hc]
        exact hD.2.1 j hj, hD.2.2⟩
    clear hl1 hno h hD hz
    go_enter Tryz.func94, Tryz.ntmps94
    go_wp2
    exact bodyPost_end (v := .tuple #[]) (by simp [results, Tryz.results94, go_sem]) rfl ⟨rfl, HF.out, OB.of_below (Below.refl _ _)⟩
end Go.Proofs.YtnfcpohbdkionaaGreatDoor
namespace Go.Proofs.YtnfcpohbdkionaaGreatDoor
set_option maxRecDepth 100000
open Go.RowKit Go.ChangeMaps Go.MapKept
open Go.Maps (Keyed)
set_option linter.unusedVariables false
set_option linter.unusedSimpArgs false
theorem STL.far {B g b D : Nat} {W W' : World} {l : List (Nat × Nat)} {c : Nat → Nat} (h : STL B g b W l c) (hs : W.heap.size ≤ W'.heap.size) (ho : ∀ i, i < W.heap.size → i ≠ D → W'.heap[i]? = W.heap[i]?) (hg : g ≠ D) (hb : b ≠ D) (hl : ∀ pq ∈ l, pq.2 ≠ D) : STL B g b W' l c := by
  obtain ⟨h1, ⟨h2, h3, h4, h5, h6⟩, h7, h8, h9⟩ := h
  exact ⟨(World.cell?_of_block (ho g h5 hg)).trans h1, ⟨h2, h3, h4, Nat.lt_of_lt_of_le h5 hs, Nat.lt_of_lt_of_le h6 hs⟩, h7.keep (ho b h6 hb), fun pq hpq => by
    obtain ⟨k1, k2, k3, k4⟩ := h8 pq hpq
    exact ⟨k1, k2, k3, k4.keep hs (ho pq.2 k4.1 (hl pq hpq))⟩, h9⟩
theorem PGn.congr {D n : Nat} {W : World} {f f' : Nat → Nat} (h : PGn D n W f) (e : ∀ j, j < n → f j = f' j) : PGn D n W f' := ⟨h.1, fun j hj => by rw [← e j hj]; exact h.2.1 j hj, h.2.2⟩
set_option maxRecDepth 100000 in
set_option maxHeartbeats 3200000 in
theorem sread_yes (B g : Nat) (W : World) (c : Nat → Nat) (h : ST B g W c) (a n : Nat) (hn : 0 < n) (ha : a + n ≤ 262144) : Calls Tryz.prog 62 #[.pointer (some ⟨g, 0, none⟩), .int .i64 (a : Int), .int .i64 (n : Int)] W fun e w' => (∃ D, e = .returned (.slice (some ⟨D, 0, none⟩) n n) ∧ W.heap.size ≤ D ∧ PGn D n w' (fun j => c (a + j))) ∧ Below W.heap.size W w' := by
  obtain ⟨b, l, h⟩ := h
  have H := Lib.hid h
  have HQ : Hid (g < W.heap.size ∧ b < W.heap.size ∧ ∀ pq ∈ l, pq.2 < W.heap.size) := Lib.hid ⟨h.2.1.2.2.2.1, h.2.1.2.2.2.2, fun pq hpq => (h.2.2.2.1 pq hpq).2.2.2.1⟩
  have hmay : (decide (some (⟨g, 0, none⟩ : Addr) ≠ none) && mayB (a : Int) (n : Int)) = true := by
    have : mayB (a : Int) (n : Int) = true := mayB_iff.2 (by omega)
    simp [this]
  have HM := Lib.hid hmay
  clear h hmay
  go_enter Tryz.func62, Tryz.ntmps62
  go_wp2_with fail
  with_reducible refine Calls.mono (smay _ _ _ _) ?_
  rintro e w1 ⟨rfl, hb⟩
  rw [HM.out]
  obtain ⟨x3, hx3⟩ : ∃ x3, W.heap.size = x3 := ⟨_, rfl⟩
  have hz1 : x3 < w1.heap.size := by have := hb.size; simp at this; omega
  have hc3 : w1.cell? ⟨x3, 0, none⟩ = some (.pointer (some ⟨g, 0, none⟩)) := by
    rw [← hx3]
    exact (hb.cell (p := ⟨W.heap.size, 0, none⟩) (by simp)).trans (by simp)
  have HC3 := Lib.hid hc3
  have HB1 : Hid (Below W.heap.size W w1) := Lib.hid (thn (alc0 _ _) hb)
  have HX3 := Lib.hid hx3
  try rw [hx3]
  clear hb hx3
  have hmk := fun W => mkN n (by omega) W
  go_wp2_with fail
  have hDW : W.heap.size ≤ w1.heap.size := HB1.out.size
  obtain ⟨w4, hw4⟩ : ∃ w4, (w1.alloc (.cells (madeCells #[.int .u8 0] n) 5)).alloc (.cells #[.slice (some ⟨w1.heap.size, 0, none⟩) n n] 38) = w4 := ⟨_, rfl⟩
  have hz4 : w4.heap.size = w1.heap.size + 2 := by rw [← hw4]; simp
  have hB4 : Below w1.heap.size w1 w4 := by rw [← hw4]; exact alc (alc0 _ _) _
  have hc7 : w4.cell? ⟨w1.heap.size + 1, 0, none⟩ = some (.slice (some ⟨w1.heap.size, 0, none⟩) n n) := by rw [← hw4]; simp
  have hPG : PGn w1.heap.size n w4 (fun _ => 0) := by
    rw [← hw4]
    refine PGn.keep (W := w1.alloc (.cells (madeCells #[.int .u8 0] n) 5)) ⟨by simp, fun j hj => made_cell w1 n _ j hj, fun o => made_frozen w1 n _ o⟩ (by simp) (Below.heap_alloc _ _ _ (by simp))
  obtain ⟨D, hD⟩ : ∃ D, w1.heap.size = D := ⟨_, rfl⟩
  rw [hw4]
  rw [hD] at hz4 hB4 hc7 hPG hDW hz1 ⊢
  have hx3D : x3 ≠ D := by omega
  have hQ := HQ.out
  have hx3W := HX3.out
  clear hmk
  have hBW4 : Below W.heap.size W w4 := HB1.out.trans (hB4.mono hDW)
  have hST4 : STL B g b w4 l c := H.out.below hBW4
  have hc34 : w4.cell? ⟨x3, 0, none⟩ = some (.pointer (some ⟨g, 0, none⟩)) := (hB4.cell (p := ⟨x3, 0, none⟩) hz1).trans HC3.out
  have key := eachR (.pointer (some ⟨x3, 0, none⟩)) (.pointer (some ⟨D + 1, 0, none⟩)) a n hn ha w4 (fun at_ w => STL B g b w l c ∧ w.cell? ⟨x3, 0, none⟩ = some (.pointer (some ⟨g, 0, none⟩)) ∧ w.cell? ⟨D + 1, 0, none⟩ = some (.slice (some ⟨D, 0, none⟩) n n) ∧ PGn D n w (fun j => if j < at_ - a then c (a + j) else 0) ∧ Below W.heap.size W w ∧ D + 2 ≤ w.heap.size)
    (fun at_ w w' ⟨k1, k2, k3, k4, k5, k6⟩ hb => ⟨k1.below hb, (hb.cell (p := ⟨x3, 0, none⟩) (by show x3 < w.heap.size; omega)).trans k2, (hb.cell (p := ⟨D + 1, 0, none⟩) (by show D + 1 < w.heap.size; omega)).trans k3, k4.keep hb.size (hb.block D (by omega)), k5.trans (hb.mono k5.size), Nat.le_trans k6 hb.size⟩)
    (fun at_ w ha1 ha2 hw ⟨k1, k2, k3, k4, k5, k6⟩ => by
      obtain ⟨R, hR⟩ : ∃ R, at_ % 256 = R := ⟨_, rfl⟩
      obtain ⟨T, hT⟩ : ∃ T, min 256 (R + (a + n - at_)) = T := ⟨_, rfl⟩
      rw [hR, hT]
      refine (readC B g b x3 (D + 1) D n (at_ / 256) R T (at_ - a) w l c _ k1 k2 k3 (by omega) k4 (by omega) (by omega) (by omega) (by omega) (by omega) (fun k hk => if_neg (by omega))).mono ?_
      rintro e w' ⟨rfl, hp, ho⟩
      refine ⟨rfl, ⟨k1.far ho.1 (fun i hi hD' => ho.2.1 i hi hD') (by omega) (by omega) (fun pq hpq => by have := hQ.2.2 pq hpq; omega), (World.cell?_of_block (ho.2.1 x3 (by omega) hx3D)).trans k2, (World.cell?_of_block (ho.2.1 (D + 1) (by omega) (by omega))).trans k3, hp.congr (fun j hj => ?_), k5.trans (ho.2.2 W.heap.size (by omega) k5.size), Nat.le_trans k6 ho.1⟩, ho.1, ho.2.1 _ hw (by omega)⟩
      by_cases h1 : at_ - a ≤ j ∧ j < at_ - a + (T - R)
      · rw [if_pos h1, if_pos (by omega)]
        exact congrArg c (by omega)
      · rw [if_neg h1]
        by_cases h2 : j < at_ - a
        · rw [if_pos h2, if_pos (by omega)]
        · rw [if_neg h2, if_neg (by omega)])
    (fun w5 hb => ⟨hST4.below hb, (hb.cell (p := ⟨x3, 0, none⟩) (by show x3 < w4.heap.size; omega)).trans hc34, (hb.cell (p := ⟨D + 1, 0, none⟩) (by show D + 1 < w4.heap.size; omega)).trans hc7, (hPG.keep hb.size (hb.block D (by omega))).congr (fun j hj => by rw [if_neg (by omega)]), hBW4.trans (hb.mono hBW4.size), by have := hb.size; omega⟩)
  have KEY := Lib.hid key
  have HDW := Lib.hid hDW
  clear key hPG hc7 hB4 hz4 hBW4 hST4 hc34 hx3D hQ hx3W hDW hw4 hD hz1
  with_reducible refine Calls.mono KEY.out ?_
  rintro e w6 ⟨rfl, k1, k2, k3, k4, k5, k6⟩
  have HP6 : Hid (PGn D n w6 (fun j => c (a + j))) := Lib.hid (k4.congr (fun j hj => by rw [if_pos (by omega)]))
  have HB6 := Lib.hid k5
  clear k1 k2 k4 k5 k6
  go_wp2
  go_ret
  exact ⟨⟨D, rfl, HDW.out, HP6.out⟩, HB6.out⟩
end Go.Proofs.YtnfcpohbdkionaaGreatDoor
namespace Go.Proofs.YtnfcpohbdkionaaGreatDoor
set_option maxRecDepth 100000
open Go.RowKit Go.ChangeMaps Go.MapKept
open Go.Maps (Keyed)
set_option linter.unusedVariables false
set_option linter.unusedSimpArgs false
/-- Bytes with some of them written anew. -/
def over (c : Nat → Nat) (o k : Nat) (d : Nat → Nat) : Nat → Nat := fun x => if o ≤ x ∧ x < o + k then d (x - o) else c x
theorem nodup_inj {α β : Type} {f : α → β} : ∀ {l : List α}, (l.map f).Nodup → ∀ {a b : α}, a ∈ l → b ∈ l → f a = f b → a = b
  | [], _, _, _, ha, _, _ => by simp at ha
  | x :: l, h, a, b, ha, hb, e => by
    rw [List.map_cons, List.nodup_cons] at h
    rcases List.mem_cons.1 ha with h1 | h1
    · rcases List.mem_cons.1 hb with h2 | h2
      · rw [h1, h2]
      · exact absurd (show f x ∈ l.map f from List.mem_map.2 ⟨b, h2, by rw [← e, h1]⟩) h.1
    · rcases List.mem_cons.1 hb with h2 | h2
      · exact absurd (show f x ∈ l.map f from List.mem_map.2 ⟨a, h1, by rw [e, h2]⟩) h.1
      · exact nodup_inj h.2 h1 h2 e
theorem PG.cells {D : Nat} {W : World} {f : Nat → Nat} (h : PG D W f) (o k : Nat) (hk : o + k ≤ 256) (c : Nat → Nat) : PG D (W.setCells D o ((List.range k).map fun i => Value.int .u8 ((c i : Nat) : Int))) (fun j => if o ≤ j ∧ j < o + k then c (j - o) else f j) :=
  PGn.cells (D := D) (n := 256) h o k hk c
theorem STL.write {B g b : Nat} {w : World} {l : List (Nat × Nat)} {c : Nat → Nat} (h : STL B g b w l c) {P q : Nat} (hq : (P, q) ∈ l) (o k : Nat) (hk : o + k ≤ 256) (d : Nat → Nat) : STL B g b (w.setCells q o ((List.range k).map fun i => Value.int .u8 ((d i : Nat) : Int))) l (over c (P * 256 + o) k d) := by
  obtain ⟨h1, ⟨h2, h3, h4, h5, h6⟩, h7, h8, h9, h10⟩ := h
  obtain ⟨ho, hs⟩ := ob_cells q ((List.range k).map fun i => Value.int .u8 ((d i : Nat) : Int)) o w
  obtain ⟨k1, k2, k3, k4⟩ := h8 (P, q) hq
  have hf := h7
  obtain ⟨_, _, _, _, hnd, _⟩ := hf
  refine ⟨(World.cell?_of_block (ho.2.1 g h5 (Ne.symm k1))).trans h1, ⟨h2, h3, h4, by rw [hs]; exact h5, by rw [hs]; exact h6⟩, h7.keep (ho.2.1 b h6 (Ne.symm k2)), fun pq hpq => ?_, h9, fun x hx => ?_⟩
  · obtain ⟨m1, m2, m3, m4⟩ := h8 pq hpq
    refine ⟨m1, m2, m3, ?_⟩
    by_cases e : pq.2 = q
    · have e2 : pq = (P, q) := nodup_inj h9 hpq hq e
      subst e2
      have h11 := PG.cells k4 o k hk d
      refine ⟨h11.1, fun j hj => ?_, h11.2.2⟩
      rw [h11.2.1 j hj]
      simp only [over]
      by_cases hc : o ≤ j ∧ j < o + k
      · rw [if_pos hc, if_pos (by omega)]
        rw [show P * 256 + j - (P * 256 + o) = j - o by omega]
      · rw [if_neg hc, if_neg (by omega)]
    · have e2 : pq.1 ≠ P := fun e3 => e (by have := nodup_inj hnd hpq hq e3; rw [this])
      have h11 := m4.keep (W' := w.setCells q o ((List.range k).map fun i => Value.int .u8 ((d i : Nat) : Int))) (by rw [hs]; exact Nat.le_refl _) (ho.2.1 pq.2 m4.1 e)
      refine ⟨h11.1, fun j hj => ?_, h11.2.2⟩
      rw [h11.2.1 j hj]
      simp only [over]
      rw [if_neg (by omega)]
  · simp only [over]
    rw [if_neg (fun hc => hx q (by rw [show x / 256 = P by omega]; exact hq))]
    exact h10 x hx
set_option maxRecDepth 100000 in
set_option maxHeartbeats 3200000 in
theorem writeC (B g b x3 x5 sb so n cb P R T dn : Nat) (w : World) (l : List (Nat × Nat)) (c d : Nat → Nat) (h : STL B g b w l c) (hx3 : w.cell? ⟨x3, 0, none⟩ = some (.pointer (some ⟨g, 0, none⟩))) (hx5 : w.cell? ⟨x5, 0, none⟩ = some (.slice (some ⟨sb, so, none⟩) n cb))
    (hs : ∀ i, i < n → w.cell? ⟨sb, so + i, none⟩ = some (.int .u8 (d i : Int))) (hncb : n ≤ cb) (hx3b : x3 ≠ b) (hx5b : x5 ≠ b) (hsb : sb ≠ b) (hP : P < 1024) (hRT : R < T) (hT : T ≤ 256) (hdn : dn + (T - R) ≤ n) :
    Calls Tryz.prog 97 #[.int .i64 (P : Int), .int .i64 (R : Int), .int .i64 (T : Int), .int .i64 (dn : Int), .pointer (some ⟨x3, 0, none⟩), .pointer (some ⟨x5, 0, none⟩)] w fun e w' => e = .returned (.tuple #[]) ∧ (∃ l', STL B g b w' l' (over c (P * 256 + R) (T - R) (fun i => d (dn + i))) ∧ ∀ pq ∈ l', pq ∈ l ∨ w.heap.size ≤ pq.2) ∧ w.heap.size ≤ w'.heap.size ∧ (∀ i, i < w.heap.size → i ≠ b → (∀ pq ∈ l, pq.2 ≠ i) → w'.heap[i]? = w.heap[i]?) ∧ Below B w w' := by
  have HST : Hid (STL B g b w.drew l c) := Lib.hid (h.keep (Nat.le_refl _) (fun _ _ _ => rfl))
  have hbB := h.2.1.2.1
  have HBB := Lib.hid hbB
  have HBZ : Hid (B ≤ w.heap.size) := Lib.hid (by have := h.2.1.1; have := h.2.1.2.2.2.1; omega)
  have kcb : ¬ cb = dn := by omega
  have kc2 : ¬ 256 = R := by omega
  have kd : (dn : Int) ≤ n := by omega
  have kd0 : (0 : Int) ≤ dn := by omega
  have kt : (T : Int) ≤ 256 := by omega
  have kr : (R : Int) ≤ T := by omega
  have hz5 := World.block_lt_of_cell? w _ hx5
  have HSS := Lib.hid hs
  clear h hs hbB
  go_enter Tryz.func97, Tryz.ntmps97
  go_upto_region 0 with (fail)
  refine wp_region_held_drew (S := fun w' => w'.cell? ⟨x5, 0, none⟩ = some (.slice (some ⟨sb, so, none⟩) n cb) ∧ w'.cell? ⟨x3, 0, none⟩ = some (.pointer (some ⟨g, 0, none⟩))) (by kernel_rfl) ?_ (fun hHeld => ?_)
  · exact ⟨hx5, hx3⟩
  refine wpAnyH_take (i := 0) (v := ?_) rfl (by kernel_rfl) (by kernel_rfl) (by kernel_rfl) (fun _ _ _ h => h) (Or.inl ⟨by kernel_rfl, ?_⟩) (by assumption) ?_
  rotate_left
  · (intro w hSw; (try dsimp only at hSw); go_simp)
    try (with_reducible rfl)
  rotate_left
  try simp (maxSteps := 4000000) only [Act.put, List.setIfInBounds_toArray, List.set_cons_zero, List.set_cons_succ, List.getElem_toArray, List.getElem_cons_zero, List.getElem_cons_succ]
  refine wpAnyH_take (i := 1) (v := ?_) rfl (by kernel_rfl) (by kernel_rfl) (by kernel_rfl) (fun _ _ _ h => h) (Or.inl ⟨by kernel_rfl, ?_⟩) (by assumption) ?_
  rotate_left
  · (intro w hSw; (try dsimp only at hSw); go_simp)
    try (with_reducible rfl)
  rotate_left
  try simp (maxSteps := 4000000) only [Act.put, List.setIfInBounds_toArray, List.set_cons_zero, List.set_cons_succ, List.getElem_toArray, List.getElem_cons_zero, List.getElem_cons_succ]
  refine wpAnyH_take (i := 3) (v := ?_) rfl (by kernel_rfl) (by kernel_rfl) (by kernel_rfl) (fun _ _ _ h => h) (Or.inl ⟨by kernel_rfl, ?_⟩) (by assumption) ?_
  rotate_left
  · (intro w hSw; (try dsimp only at hSw); go_simp)
    try (with_reducible rfl)
  rotate_left
  try simp (maxSteps := 4000000) only [Act.put, List.setIfInBounds_toArray, List.set_cons_zero, List.set_cons_succ, List.getElem_toArray, List.getElem_cons_zero, List.getElem_cons_succ]
  refine wpAnyH_take (i := 4) (v := ?_) rfl (by kernel_rfl) (by kernel_rfl) (by kernel_rfl) (fun _ _ _ h => h) (Or.inl ⟨by kernel_rfl, ?_⟩) (by assumption) ?_
  rotate_left
  · (intro w hSw; (try dsimp only at hSw); go_simp)
    try (with_reducible rfl)
  rotate_left
  try simp (maxSteps := 4000000) only [Act.put, List.setIfInBounds_toArray, List.set_cons_zero, List.set_cons_succ, List.getElem_toArray, List.getElem_cons_zero, List.getElem_cons_succ]
  refine wpAnyH_take (i := 6) (v := ?_) rfl (by kernel_rfl) (by kernel_rfl) (by kernel_rfl) (fun _ _ _ h => h) (Or.inl ⟨by kernel_rfl, ?_⟩) (by assumption) ?_
  rotate_left
  · (intro w hSw; (try dsimp only at hSw); go_simp)
    try (with_reducible rfl)
  rotate_left
  try simp (maxSteps := 4000000) only [Act.put, List.setIfInBounds_toArray, List.set_cons_zero, List.set_cons_succ, List.getElem_toArray, List.getElem_cons_zero, List.getElem_cons_succ]
  refine wpAnyH_take (i := 7) (v := ?_) rfl (by kernel_rfl) (by kernel_rfl) (by kernel_rfl) (fun _ _ _ h => h) (Or.inl ⟨by kernel_rfl, ?_⟩) (by assumption) ?_
  rotate_left
  · (intro w hSw; (try dsimp only at hSw); go_simp)
    try (with_reducible rfl)
  rotate_left
  try simp (maxSteps := 4000000) only [Act.put, List.setIfInBounds_toArray, List.set_cons_zero, List.set_cons_succ, List.getElem_toArray, List.getElem_cons_zero, List.getElem_cons_succ]
  refine wpAnyH_take (i := 8) (v := ?_) rfl (by kernel_rfl) (by kernel_rfl) (by kernel_rfl) (fun _ _ _ h => h) (Or.inl ⟨by kernel_rfl, ?_⟩) (by assumption) ?_
  rotate_left
  · (intro w hSw; (try dsimp only at hSw); go_simp)
    try (with_reducible rfl)
  rotate_left
  try simp (maxSteps := 4000000) only [Act.put, List.setIfInBounds_toArray, List.set_cons_zero, List.set_cons_succ, List.getElem_toArray, List.getElem_cons_zero, List.getElem_cons_succ]
  refine wpAnyH_ready (rs := [2]) (by kernel_rfl) (by simp) ?_
  refine AllReadyH.cons rfl (fun K2 hK2 => ?_) AllReadyH.nil
  go_simp
  with_reducible refine Calls.mono (page_any B g b w.drew l c HST.out P hP) ?_
  rintro e w1 ⟨⟨q, l', rfl, hq, hS1, hl'⟩, ho1⟩
  have hz3 := World.block_lt_of_cell? w _ hx3
  have h15 : w1.cell? ⟨x5, 0, none⟩ = some (.slice (some ⟨sb, so, none⟩) n cb) := (World.cell?_of_block (ho1.2.1 x5 hz5 hx5b)).trans hx5
  have h13 : w1.cell? ⟨x3, 0, none⟩ = some (.pointer (some ⟨g, 0, none⟩)) := (World.cell?_of_block (ho1.2.1 x3 hz3 hx3b)).trans hx3
  have hPG := (hS1.2.2.2.1 (P, q) hq).2.2.2
  have hlen : ((List.range (T - R)).map fun i => Value.int .u8 ((d (dn + i) : Nat) : Int)).length = T - R := by simp
  have hcopy : (Builtin.copy_ #[38, 38] 3 #[.slice (some ⟨q, R, none⟩) (T - R) (256 - R), .slice (some ⟨sb, so + dn, none⟩) (n - dn) (cb - dn)]).run Tryz.prog w1 = .ok (goInt (T - R : Nat)) (w1.setCells q R ((List.range (T - R)).map fun i => Value.int .u8 ((d (dn + i) : Nat) : Int))) := by
    have := run_copy_cells (P := Tryz.prog) w1 38 38 3 5 q R (T - R) (256 - R) ⟨sb, so + dn, none⟩ (n - dn) (cb - dn) ((List.range (T - R)).map fun i => Value.int .u8 ((d (dn + i) : Nat) : Int)) Tryz.underlying38 (by kernel_rfl) (by rw [hlen]; exact (Nat.min_eq_right (by omega)).symm)
      (fun j v hv => by
        have hj : j < T - R := by have := (List.getElem?_eq_some_iff.1 hv).1; rwa [hlen] at this
        rw [addp]
        have h2 := HSS.out (dn + j) (by omega)
        have hz := World.block_lt_of_cell? w _ h2
        have h3 := (World.cell?_of_block (a := ⟨sb, so + (dn + j), none⟩) (ho1.2.1 sb hz hsb)).trans h2
        simp [hj] at hv
        rw [← hv, Nat.add_assoc]
        exact h3)
      (fun j hj => by rw [hlen] at hj; have h2 := hPG.2.1 (R + j) (by omega); exact Option.isSome_iff_exists.2 ⟨_, h2⟩) (fun j hj => hPG.2.2 _) (fun v hv => by obtain ⟨i, _, rfl⟩ := List.mem_map.1 hv; rfl)
    rw [hlen] at this
    exact this
  have hS2 := hS1.write hq R (T - R) (by omega) (fun i => d (dn + i))
  obtain ⟨ho2, hs2⟩ := ob_cells q ((List.range (T - R)).map fun i => Value.int .u8 ((d (dn + i) : Nat) : Int)) R w1
  have hqB := (hS1.2.2.2.1 (P, q) hq).2.2.1
  obtain ⟨w5, hw5⟩ : ∃ w5, w1.setCells q R ((List.range (T - R)).map fun i => Value.int .u8 ((d (dn + i) : Nat) : Int)) = w5 := ⟨_, rfl⟩
  rw [hw5] at hcopy hS2 ho2 hs2
  have HFIN : Hid ((∃ l', STL B g b w5 l' (over c (P * 256 + R) (T - R) (fun i => d (dn + i))) ∧ ∀ pq ∈ l', pq ∈ l ∨ w.heap.size ≤ pq.2) ∧ w.heap.size ≤ w5.heap.size ∧ (∀ i, i < w.heap.size → i ≠ b → (∀ pq ∈ l, pq.2 ≠ i) → w5.heap[i]? = w.heap[i]?) ∧ Below B w w5) := Lib.hid (by
    refine ⟨⟨l', hS2, fun pq hpq => (hl' pq hpq).imp id (fun e => by rw [e]; exact Nat.le_refl _)⟩, Nat.le_trans ho1.1 ho2.1, fun i hi hib hil => ?_, ?_⟩
    · have hiq : i ≠ q := by
        rcases hl' (P, q) hq with h | h
        · exact fun e => hil (P, q) h e.symm
        · have h' : q = w.heap.size := h
          omega
      rw [ho2.2.1 i (Nat.lt_of_lt_of_le hi ho1.1) hiq]
      exact ho1.2.1 i hi hib
    · have hbz := HBZ.out
      exact (((Below.refl _ _).drew : Below B w w.drew).trans (ho1.2.2 B HBB.out hbz)).trans (ho2.2.2 B hqB (Nat.le_trans hbz ho1.1)))
  have hqx5 : x5 ≠ q := fun e => by have h := hPG.2.1 0 (by decide); rw [← e, h15] at h; cases h
  have hqx3 : x3 ≠ q := fun e => by have h := hPG.2.1 0 (by decide); rw [← e, h13] at h; cases h
  have h55 := (World.cell?_of_block (ho2.2.1 x5 (World.block_lt_of_cell? w1 _ h15) hqx5)).trans h15
  have h53 := (World.cell?_of_block (ho2.2.1 x3 (World.block_lt_of_cell? w1 _ h13) hqx3)).trans h13
  clear hPG hlen hS1 hS2 ho1 ho2 hs2 hqB hw5 hl' hqx5 hqx3 hq hx3 hx5 HSS hz3 hz5
  refine hK2.out _ _ ⟨h15, h13⟩ (fun hHeld2 => ?_)
  clear hK2 K2 hHeld
  have hHeld := hHeld2
  clear hHeld2
  try simp (maxSteps := 4000000) only [Act.put, List.setIfInBounds_toArray, List.set_cons_zero, List.set_cons_succ]
  refine wpAnyH_take (i := 5) (v := ?_) rfl (by kernel_rfl) (by kernel_rfl) (by kernel_rfl) (fun _ _ _ h => h) (Or.inl ⟨by kernel_rfl, ?_⟩) (by assumption) ?_
  rotate_left
  · (intro w hSw; (try dsimp only at hSw); go_simp)
    try (with_reducible rfl)
  rotate_left
  try simp (maxSteps := 4000000) only [Act.put, List.setIfInBounds_toArray, List.set_cons_zero, List.set_cons_succ, List.getElem_toArray, List.getElem_cons_zero, List.getElem_cons_succ]
  refine wpAnyH_ready (rs := [9]) (by kernel_rfl) (by simp) ?_
  refine AllReadyH.cons rfl (fun K2 hK2 => ?_) AllReadyH.nil
  go_simp
  refine hK2.out _ _ ⟨h55, h53⟩ (fun hHeld2 => ?_)
  clear hK2 K2 hHeld
  have hHeld := hHeld2
  clear hHeld2
  try simp (maxSteps := 4000000) only [Act.put, List.setIfInBounds_toArray, List.set_cons_zero, List.set_cons_succ]
  refine wpAnyH_done (by kernel_rfl) ?_ _
  go_wp2
  exact bodyPost_end (v := .tuple #[]) (by simp [results, Tryz.results97, go_sem]) rfl ⟨rfl, HFIN.out⟩
end Go.Proofs.YtnfcpohbdkionaaGreatDoor
