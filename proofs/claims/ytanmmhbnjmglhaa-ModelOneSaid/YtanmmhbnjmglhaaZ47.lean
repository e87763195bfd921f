/- MpO. -/
import Derived.Test.YtanmmhbnjmglhaaZ46
import Derived.Deep.RegionHeld3
import Derived.Laws.IdiomCopy
namespace Go.Proofs.Ytanmmhbnjmglhaa
set_option maxRecDepth 100000
open Go.RowKit Go.ChangeMaps Go.MapKept
set_option linter.unusedVariables false
set_option linter.unusedSimpArgs false
theorem pmay31 (W : World) : Calls Try.prog 62 #[.int .i64 31] W fun e w' => e = .returned (.bool true) ∧ W = w' := by
  go_enter Try.func62, Try.ntmps62
  go_wp2
  go_ret
  exact ⟨rfl, rfl⟩
theorem pmay1 (W : World) : Calls Try.prog 62 #[.int .i64 1] W fun e w' => e = .returned (.bool true) ∧ W = w' := by
  go_enter Try.func62, Try.ntmps62
  go_wp2
  go_ret
  exact ⟨rfl, rfl⟩
theorem phas31 (W : World) : Calls Try.prog 65 #[.int .i64 31, .int .i64 1] W fun e w' => e = .returned (.bool true) ∧ W = w' := by
  go_enter Try.func65, Try.ntmps65
  have hbt : bits .and .i64 31 1 = 1 := by decide
  go_wp2_with fail
  refine (pmay31 _).mono ?_
  rintro e w1 ⟨rfl, rfl⟩
  go_wp2_with fail
  refine (pmay1 _).mono ?_
  rintro e w1 ⟨rfl, rfl⟩
  go_wp2_with fail
  go_ret
  exact ⟨rfl, rfl⟩
theorem min2 (W : World) : Calls Try.prog 61 #[.agg #[.int .i64 1, .int .i64 0, .int .i64 5, .int .i64 0, .int .i64 31], .int .i64 2] W fun e w' => e = .returned (.bool true) ∧ Below W.heap.size W w' := by
  go_enter Try.func61, Try.ntmps61
  go_wp2_with fail
  go_ret
  exact ⟨rfl, alc0 _ _⟩
theorem maccess1 (W : World) : Calls Try.prog 57 #[.agg #[.int .i64 1, .int .i64 0, .int .i64 5, .int .i64 0, .int .i64 31], .int .i64 2, .int .i64 1] W fun e w' => e = .returned (rE 0) ∧ Below W.heap.size W w' := by
  go_enter Try.func57, Try.ntmps57
  go_wp2_with fail
  refine (phas31 _).mono ?_
  rintro e w1 ⟨rfl, rfl⟩
  go_wp2_with fail
  refine (min2 _).mono ?_
  rintro e w1 ⟨rfl, hb⟩
  have HB := Lib.hid ((alc0 W _).trans (hb.mono (by simp <;> omega)))
  clear hb
  go_wp2_with fail
  go_ret
  exact ⟨rfl, HB.out⟩
/-- What the read leaves: two bytes. -/
def RdPost (W : World) (e : Ending) (w' : World) : Prop :=
  ∃ D, e = .returned (.tuple #[.slice (some ⟨D, 0, none⟩) 2 2, rE 0]) ∧ W.heap.size ≤ D ∧ D < w'.heap.size ∧ w'.cell? ⟨D, 0, none⟩ = some (.int .u8 9) ∧ Below W.heap.size W w'
section
variable {m mb r : Nat} {C : Cf} {md : Nat} {ch : List (Int × Nat)} {rs : List Rf} {W : World}
set_option maxHeartbeats 1600000 in
theorem mread1 (q d kb : Nat) (hin : ((1 : Int), q) ∈ ch) (hq : q < W.heap.size) (hd : d < W.heap.size) (hck : CkAt q d kb 5 9 W) (h : MO m mb r C md ch rs W) : Calls Try.prog 36 #[.pointer (some ⟨m, 0, none⟩), .agg #[.int .i64 1, .int .i64 0, .int .i64 5, .int .i64 0, .int .i64 31], .int .i64 2] W (RdPost W) := by
  have c12 := h.c12
  have hlt := h.lt.1
  have hmbl := h.mp.lt
  have HMP := Lib.hid h.mp
  have hlk : ∀ W, MP mb W ch → (Instr.lookup 59 (.map (some mb)) (.int .i64 1) false).run Try.prog W = .ok (pv q) W := by
    obtain ⟨_, _, _, _, hnd, _⟩ := h.mp
    rcases lookA mb ch hnd 1 (by unfold I64; omega) with ⟨q2, hq2, h2⟩ | ⟨hno, -⟩
    · obtain ⟨i, hi⟩ := List.getElem?_of_mem hin
      obtain ⟨j, hj⟩ := List.getElem?_of_mem hq2
      have e1 : (ch.map Prod.fst)[i]? = some 1 := by rw [List.getElem?_map, hi]; rfl
      have e2 : (ch.map Prod.fst)[j]? = some 1 := by rw [List.getElem?_map, hj]; rfl
      have e3 : i = j := (List.getElem?_inj (List.getElem?_eq_some_iff.1 e1).1 hnd).1 (e1.trans e2.symm)
      subst e3
      rw [hi] at hj
      obtain rfl : q = q2 := by injection hj with hj; injection hj
      exact h2
    · exact absurd hin (hno q)
  have HLK := Lib.hid hlk
  have HCK := Lib.hid hck
  clear h hlk hin hck
  go_enter Try.func36, Try.ntmps36
  go_upto_region 1 with (fail)
  obtain ⟨w1, hw1⟩ : ∃ w1, W.alloc (.cells #[.int .i64 1, .int .i64 0, .int .i64 5, .int .i64 0, .int .i64 31] 52) = w1 := ⟨_, rfl⟩
  have bw1 : Below W.heap.size W w1 := by rw [← hw1]; exact alc0 _ _
  have sw1 : w1.heap.size = W.heap.size + 1 := by rw [← hw1]; simp
  have XX : Hid (BX (W.heap.size) #[.int .i64 1, .int .i64 0, .int .i64 5, .int .i64 0, .int .i64 31] w1) := Lib.hid (by rw [← hw1]; exact bx_new _ _ _)
  rw [hw1]
  clear hw1
  have HB := Lib.hid bw1
  clear bw1
  obtain ⟨cX0, cX1, cX2, cX3, cX4⟩ := XX.out.c5
  go_wp2_with fail
  refine (maccess1 _).mono ?_
  rintro e w2 ⟨rfl, bw2⟩
  clear cX0 cX1 cX2 cX3 cX4
  have sw2 := bw2.size
  replace XX := Lib.hid (XX.out.block (bw2.block (W.heap.size) (by omega)))
  replace HB := Lib.hid (thn HB.out bw2)
  clear bw2
  have hm1 : ∀ W : World, (Instr.makeSlice 37 (.int .i64 2) (.int .i64 2)).run Try.prog W = .ok (.slice (some ⟨W.heap.size, 0, none⟩) 2 2) (W.alloc (.cells (madeCells #[.int .u8 0] 2) 5)) := mkN 2 (by omega)
  go_upto_region 5 with (fail)
  obtain ⟨w3, hw3⟩ : ∃ w3, w2.alloc (.cells (madeCells #[.int .u8 0] 2) 5) = w3 := ⟨_, rfl⟩
  have hb3 : Below w2.heap.size w2 w3 := by rw [← hw3]; exact alc0 _ _
  have hs3 : w2.heap.size + 1 ≤ w3.heap.size := by rw [← hw3]; simp
  have hz3 : ∀ j, j < 2 → w3.cell? ⟨w2.heap.size, j, none⟩ = some (.int .u8 0) ∧ w3.frozen? ⟨w2.heap.size, j, none⟩ = false := fun j hj => by rw [← hw3]; exact ⟨made_cell w2 2 _ j hj, by simp⟩
  rw [hw3]
  clear hw3 hm1
  obtain ⟨⟨R, k0, -, -⟩, kd⟩ := HCK.out
  have HTAKE := Lib.hid (fun (w' : World) (hb : Below w2.heap.size w2 w') => (⟨(World.cell?_of_block (hb.block m (by omega))).trans ((World.cell?_of_block (HB.out.block m hlt)).trans c12), HLK.out w' ((HMP.out.keep (HB.out.block mb hmbl)).keep (hb.block mb (by omega))), (World.cell?_of_block (hb.block q (by omega))).trans ((World.cell?_of_block (HB.out.block q hq)).trans k0), (World.cell?_of_block (hb.block (W.heap.size) (by omega))).trans (XX.out 0 _ rfl).1, (World.cell?_of_block (hb.block (W.heap.size) (by omega))).trans (XX.out 1 _ rfl).1, (World.cell?_of_block (hb.block (W.heap.size) (by omega))).trans (XX.out 2 _ rfl).1, (World.cell?_of_block (hb.block (W.heap.size) (by omega))).trans (XX.out 3 _ rfl).1, (World.cell?_of_block (hb.block (W.heap.size) (by omega))).trans (XX.out 4 _ rfl).1⟩ : w'.cell? ⟨m, 12, none⟩ = some (.map (some mb)) ∧ (Instr.lookup 59 (.map (some mb)) (.int .i64 1) false).run Try.prog w' = .ok (pv q) w' ∧ w'.cell? ⟨q, 0, none⟩ = some (.slice (some ⟨d, 0, none⟩) 5 5) ∧ w'.cell? ⟨W.heap.size, 0, none⟩ = some (.int .i64 1) ∧ w'.cell? ⟨W.heap.size, 1, none⟩ = some (.int .i64 0) ∧ w'.cell? ⟨W.heap.size, 2, none⟩ = some (.int .i64 5) ∧ w'.cell? ⟨W.heap.size, 3, none⟩ = some (.int .i64 0) ∧ w'.cell? ⟨W.heap.size, 4, none⟩ = some (.int .i64 31)))
  have hcp : (Builtin.copy_ #[37, 37] 3 #[.slice (some ⟨w2.heap.size, 0, none⟩) 2 2, .slice (some ⟨d, 0, none⟩) 5 5]).run Try.prog w3.drew = .ok (.int .i64 2) (w3.drew.setCells (w2.heap.size) 0 [.int .u8 9, .int .u8 9]) := by
    refine run_copy_cells w3.drew _ _ _ 5 (w2.heap.size) 0 2 2 ⟨d, 0, none⟩ 5 5 [.int .u8 9, .int .u8 9] Try.underlying37 (by kernel_rfl) rfl (fun j v hj => ?_) (fun j hj => ?_) (fun j hj => ?_) (by simp [Value.oneCell'])
    · rw [addp, Nat.zero_add]
      have e1 : w3.drew.cell? ⟨d, j, none⟩ = w3.cell? ⟨d, j, none⟩ := rfl
      rw [e1, World.cell?_of_block (a := ⟨d, j, none⟩) (hb3.block d (by omega)), World.cell?_of_block (a := ⟨d, j, none⟩) (HB.out.block d hd)]
      rcases j with _ | _ | j
      · simp at hj; subst hj; exact kd 0 (by omega)
      · simp at hj; subst hj; exact kd 1 (by omega)
      · simp at hj
    · have := (hz3 j (by simpa using hj)).1
      rw [Nat.zero_add]
      show (w3.cell? _).isSome = true
      rw [this]; rfl
    · have := (hz3 j (by simpa using hj)).2
      rw [Nat.zero_add]
      exact this
  clear kd k0
  have hw0 : IntKind.i64.wrap 0 = 0 := by decide
  refine wp_region_held_drew (S := fun w' => Below w2.heap.size w2 w') (by kernel_rfl) ?_ (fun hHeld => ?_)
  · exact hb3.drew
  refine wpAnyH_take (i := 0) (v := ?_) rfl (by kernel_rfl) (by kernel_rfl) (by kernel_rfl) (fun _ _ _ h => h) (Or.inl ⟨by kernel_rfl, ?_⟩) (by assumption) ?_
  rotate_left
  · (intro w hSw; (try dsimp only at hSw); (try have hTk := Hid.out HTAKE _ hSw); go_simp)
    try (with_reducible rfl)
  rotate_left
  try simp (maxSteps := 4000000) only [Act.put, List.setIfInBounds_toArray, List.set_cons_zero, List.set_cons_succ, List.getElem_toArray, List.getElem_cons_zero, List.getElem_cons_succ]
  refine wpAnyH_take (i := 1) (v := ?_) rfl (by kernel_rfl) (by kernel_rfl) (by kernel_rfl) (fun _ _ _ h => h) (Or.inl ⟨by kernel_rfl, ?_⟩) (by assumption) ?_
  rotate_left
  · (intro w hSw; (try dsimp only at hSw); (try have hTk := Hid.out HTAKE _ hSw); go_simp)
    try (with_reducible rfl)
  rotate_left
  try simp (maxSteps := 4000000) only [Act.put, List.setIfInBounds_toArray, List.set_cons_zero, List.set_cons_succ, List.getElem_toArray, List.getElem_cons_zero, List.getElem_cons_succ]
  refine wpAnyH_take (i := 2) (v := ?_) rfl (by kernel_rfl) (by kernel_rfl) (by kernel_rfl) (fun _ _ _ h => h) (Or.inl ⟨by kernel_rfl, ?_⟩) (by assumption) ?_
  rotate_left
  · (intro w hSw; (try dsimp only at hSw); (try have hTk := Hid.out HTAKE _ hSw); go_simp)
    try (with_reducible rfl)
  rotate_left
  try simp (maxSteps := 4000000) only [Act.put, List.setIfInBounds_toArray, List.set_cons_zero, List.set_cons_succ, List.getElem_toArray, List.getElem_cons_zero, List.getElem_cons_succ]
  refine wpAnyH_take (i := 3) (v := ?_) rfl (by kernel_rfl) (by kernel_rfl) (by kernel_rfl) (fun _ _ _ h => h) (Or.inl ⟨by kernel_rfl, ?_⟩) (by assumption) ?_
  rotate_left
  · (intro w hSw; (try dsimp only at hSw); (try have hTk := Hid.out HTAKE _ hSw); go_simp)
    try (with_reducible rfl)
  rotate_left
  try simp (maxSteps := 4000000) only [Act.put, List.setIfInBounds_toArray, List.set_cons_zero, List.set_cons_succ, List.getElem_toArray, List.getElem_cons_zero, List.getElem_cons_succ]
  refine wpAnyH_take (i := 4) (v := ?_) rfl (by kernel_rfl) (by kernel_rfl) (by kernel_rfl) (fun _ _ _ h => h) (Or.inl ⟨by kernel_rfl, ?_⟩) (by assumption) ?_
  rotate_left
  · (intro w hSw; (try dsimp only at hSw); (try have hTk := Hid.out HTAKE _ hSw); go_simp)
    try (with_reducible rfl)
  rotate_left
  try simp (maxSteps := 4000000) only [Act.put, List.setIfInBounds_toArray, List.set_cons_zero, List.set_cons_succ, List.getElem_toArray, List.getElem_cons_zero, List.getElem_cons_succ]
  refine wpAnyH_take (i := 5) (v := ?_) rfl (by kernel_rfl) (by kernel_rfl) (by kernel_rfl) (fun _ _ _ h => h) (Or.inl ⟨by kernel_rfl, ?_⟩) (by assumption) ?_
  rotate_left
  · (intro w hSw; (try dsimp only at hSw); (try have hTk := Hid.out HTAKE _ hSw); go_simp)
    try (with_reducible rfl)
  rotate_left
  try simp (maxSteps := 4000000) only [Act.put, List.setIfInBounds_toArray, List.set_cons_zero, List.set_cons_succ, List.getElem_toArray, List.getElem_cons_zero, List.getElem_cons_succ]
  refine wpAnyH_take (i := 6) (v := ?_) rfl (by kernel_rfl) (by kernel_rfl) (by kernel_rfl) (fun _ _ _ h => h) (Or.inl ⟨by kernel_rfl, ?_⟩) (by assumption) ?_
  rotate_left
  · (intro w hSw; (try dsimp only at hSw); (try have hTk := Hid.out HTAKE _ hSw); go_simp)
    try (with_reducible rfl)
  rotate_left
  try simp (maxSteps := 4000000) only [Act.put, List.setIfInBounds_toArray, List.set_cons_zero, List.set_cons_succ, List.getElem_toArray, List.getElem_cons_zero, List.getElem_cons_succ]
  refine wpAnyH_take (i := 7) (v := ?_) rfl (by kernel_rfl) (by kernel_rfl) (by kernel_rfl) (fun _ _ _ h => h) (Or.inl ⟨by kernel_rfl, ?_⟩) (by assumption) ?_
  rotate_left
  · (intro w hSw; (try dsimp only at hSw); (try have hTk := Hid.out HTAKE _ hSw); go_simp)
    try (with_reducible rfl)
  rotate_left
  try simp (maxSteps := 4000000) only [Act.put, List.setIfInBounds_toArray, List.set_cons_zero, List.set_cons_succ, List.getElem_toArray, List.getElem_cons_zero, List.getElem_cons_succ]
  refine wpAnyH_take (i := 8) (v := ?_) rfl (by kernel_rfl) (by kernel_rfl) (by kernel_rfl) (fun _ _ _ h => h) (Or.inl ⟨by kernel_rfl, ?_⟩) (by assumption) ?_
  rotate_left
  · (intro w hSw; (try dsimp only at hSw); (try have hTk := Hid.out HTAKE _ hSw); go_simp)
    try (with_reducible rfl)
  rotate_left
  try simp (maxSteps := 4000000) only [Act.put, List.setIfInBounds_toArray, List.set_cons_zero, List.set_cons_succ, List.getElem_toArray, List.getElem_cons_zero, List.getElem_cons_succ]
  refine wpAnyH_take (i := 9) (v := ?_) rfl (by kernel_rfl) (by kernel_rfl) (by kernel_rfl) (fun _ _ _ h => h) (Or.inl ⟨by kernel_rfl, ?_⟩) (by assumption) ?_
  rotate_left
  · (intro w hSw; (try dsimp only at hSw); (try have hTk := Hid.out HTAKE _ hSw); go_simp)
    try (with_reducible rfl)
  rotate_left
  try simp (maxSteps := 4000000) only [Act.put, List.setIfInBounds_toArray, List.set_cons_zero, List.set_cons_succ, List.getElem_toArray, List.getElem_cons_zero, List.getElem_cons_succ]
  refine wpAnyH_take (i := 10) (v := ?_) rfl (by kernel_rfl) (by kernel_rfl) (by kernel_rfl) (fun _ _ _ h => h) (Or.inl ⟨by kernel_rfl, ?_⟩) (by assumption) ?_
  rotate_left
  · (intro w hSw; (try dsimp only at hSw); (try have hTk := Hid.out HTAKE _ hSw); go_simp)
    try (with_reducible rfl)
  rotate_left
  try simp (maxSteps := 4000000) only [Act.put, List.setIfInBounds_toArray, List.set_cons_zero, List.set_cons_succ, List.getElem_toArray, List.getElem_cons_zero, List.getElem_cons_succ]
  refine wpAnyH_take (i := 11) (v := ?_) rfl (by kernel_rfl) (by kernel_rfl) (by kernel_rfl) (fun _ _ _ h => h) (Or.inl ⟨by kernel_rfl, ?_⟩) (by assumption) ?_
  rotate_left
  · (intro w hSw; (try dsimp only at hSw); (try have hTk := Hid.out HTAKE _ hSw); go_simp)
    try (with_reducible rfl)
  rotate_left
  try simp (maxSteps := 4000000) only [Act.put, List.setIfInBounds_toArray, List.set_cons_zero, List.set_cons_succ, List.getElem_toArray, List.getElem_cons_zero, List.getElem_cons_succ]
  refine wpAnyH_take (i := 12) (v := ?_) rfl (by kernel_rfl) (by kernel_rfl) (by kernel_rfl) (fun _ _ _ h => h) (Or.inl ⟨by kernel_rfl, ?_⟩) (by assumption) ?_
  rotate_left
  · (intro w hSw; (try dsimp only at hSw); (try have hTk := Hid.out HTAKE _ hSw); go_simp)
    try (with_reducible rfl)
  rotate_left
  try simp (maxSteps := 4000000) only [Act.put, List.setIfInBounds_toArray, List.set_cons_zero, List.set_cons_succ, List.getElem_toArray, List.getElem_cons_zero, List.getElem_cons_succ]
  refine wpAnyH_take (i := 13) (v := ?_) rfl (by kernel_rfl) (by kernel_rfl) (by kernel_rfl) (fun _ _ _ h => h) (Or.inl ⟨by kernel_rfl, ?_⟩) (by assumption) ?_
  rotate_left
  · (intro w hSw; (try dsimp only at hSw); (try have hTk := Hid.out HTAKE _ hSw); go_simp)
    try (with_reducible rfl)
  rotate_left
  try simp (maxSteps := 4000000) only [Act.put, List.setIfInBounds_toArray, List.set_cons_zero, List.set_cons_succ, List.getElem_toArray, List.getElem_cons_zero, List.getElem_cons_succ]
  refine wpAnyH_take (i := 14) (v := ?_) rfl (by kernel_rfl) (by kernel_rfl) (by kernel_rfl) (fun _ _ _ h => h) (Or.inl ⟨by kernel_rfl, ?_⟩) (by assumption) ?_
  rotate_left
  · (intro w hSw; (try dsimp only at hSw); (try have hTk := Hid.out HTAKE _ hSw); go_simp)
    try (with_reducible rfl)
  rotate_left
  try simp (maxSteps := 4000000) only [Act.put, List.setIfInBounds_toArray, List.set_cons_zero, List.set_cons_succ, List.getElem_toArray, List.getElem_cons_zero, List.getElem_cons_succ]
  refine wpAnyH_take (i := 15) (v := ?_) rfl (by kernel_rfl) (by kernel_rfl) (by kernel_rfl) (fun _ _ _ h => h) (Or.inl ⟨by kernel_rfl, ?_⟩) (by assumption) ?_
  rotate_left
  · (intro w hSw; (try dsimp only at hSw); (try have hTk := Hid.out HTAKE _ hSw); go_simp)
    try (with_reducible rfl)
  rotate_left
  try simp (maxSteps := 4000000) only [Act.put, List.setIfInBounds_toArray, List.set_cons_zero, List.set_cons_succ, List.getElem_toArray, List.getElem_cons_zero, List.getElem_cons_succ]
  refine wpAnyH_take (i := 16) (v := ?_) rfl (by kernel_rfl) (by kernel_rfl) (by kernel_rfl) (fun _ _ _ h => h) (Or.inl ⟨by kernel_rfl, ?_⟩) (by assumption) ?_
  rotate_left
  · (intro w hSw; (try dsimp only at hSw); (try have hTk := Hid.out HTAKE _ hSw); go_simp)
    try (with_reducible rfl)
  rotate_left
  try simp (maxSteps := 4000000) only [Act.put, List.setIfInBounds_toArray, List.set_cons_zero, List.set_cons_succ, List.getElem_toArray, List.getElem_cons_zero, List.getElem_cons_succ]
  refine wpAnyH_ready (rs := [17]) (by kernel_rfl) (by simp) ?_
  refine AllReadyH.cons rfl (fun K2 hK2 => ?_) AllReadyH.nil
  go_simp
  obtain ⟨w4, hw4⟩ : ∃ w4, w4 = w3.drew.setCells (w2.heap.size) 0 [.int .u8 9, .int .u8 9] := ⟨_, rfl⟩
  rw [← hw4]
  have hb4 : Below w2.heap.size w2 w4 := by rw [hw4]; exact setCells_below _ _ (Nat.le_refl _) _ _ _ _ hb3.drew
  have hs4 : w3.heap.size ≤ w4.heap.size := by rw [hw4, setCells_size]; exact Nat.le_refl _
  have h40 : w4.cell? ⟨w2.heap.size, 0, none⟩ = some (.int .u8 9) := by
    rw [hw4]
    exact World.cell?_setCells_in (w2.heap.size) [.int .u8 9, .int .u8 9] 0 w3.drew (fun j hj => by
      have h9 := (hz3 j (by simpa using hj)).1
      rw [Nat.zero_add]
      show (w3.cell? _).isSome = true
      rw [h9]; rfl) 0 (by simp)
  clear hw4 hcp
  refine hK2.out _ _ (hb4) (fun hHeld2 => ?_)
  clear hK2 K2 hHeld
  have hHeld := hHeld2
  clear hHeld2
  try simp (maxSteps := 4000000) only [Act.put, List.setIfInBounds_toArray, List.set_cons_zero, List.set_cons_succ]
  refine wpAnyH_done (by kernel_rfl) ?_ _
  go_wp2_with fail
  refine bodyPost_ret (v := .tuple #[.slice (some ⟨w2.heap.size, 0, none⟩) 2 2, rE 0]) (by simp [results, Try.results36, go_sem]) rfl ⟨_, rfl, by omega, by omega, h40, thn HB.out hb4⟩
/-- What is told of the read. -/
def TlPost (W : World) (e : Ending) (w' : World) : Prop :=
  ∃ D, e = .returned (.agg #[rE 0, .int .i64 0, .slice (some ⟨D, 0, none⟩) 2 2]) ∧ W.heap.size ≤ D ∧ D < w'.heap.size ∧ w'.cell? ⟨D, 0, none⟩ = some (.int .u8 9) ∧ Below W.heap.size W w'
set_option maxHeartbeats 1600000 in
theorem mtell1 (q d kb : Nat) (hin : ((1 : Int), q) ∈ ch) (hr0 : rs[0]? = some ⟨1, 0, 5, 0, 31⟩) (hq : q < W.heap.size) (hd : d < W.heap.size) (hck : CkAt q d kb 5 9 W) (h : MO m mb r C md ch rs W) : Calls Try.prog 23 #[.pointer (some ⟨m, 0, none⟩), opv 11 0 0 0 0 2 0 none 0 0] W (TlPost W) := by
  have H := Lib.hid h
  have HCK := Lib.hid hck
  have HG : Hid (goodR ch ⟨1, 0, 5, 0, 31⟩ = ⟨1, 0, 5, 0, 31⟩) := Lib.hid (goodR_in (q := ⟨1, 0, 5, 0, 31⟩) hin)
  have HR0 := Lib.hid hr0
  have HIN := Lib.hid hin
  clear h hck hr0 hin
  go_enter Try.func23, Try.ntmps23
  go_wp2_with fail
  obtain ⟨w1, hw1⟩ : ∃ w1, ((W.alloc (.cells #[.int .i64 11, .int .i64 0, .int .i64 0, .int .i64 0, .int .i64 0, .int .i64 2, .int .i64 0, .slice none 0 0] 41)).alloc (.cells #[.int .i64 0, .int .i64 0, .slice none 0 0] 39)).alloc (.cells #[.int .i64 0, .int .i64 0, .slice none 0 0] 39) = w1 := ⟨_, rfl⟩
  have bw1 : Below W.heap.size W w1 := by rw [← hw1]; exact alc (alc (alc0 _ _) _) _
  have sw1 : w1.heap.size = W.heap.size + 3 := by rw [← hw1]; simp
  have XO : Hid (BX (W.heap.size) #[.int .i64 11, .int .i64 0, .int .i64 0, .int .i64 0, .int .i64 0, .int .i64 2, .int .i64 0, .slice none 0 0] w1) := Lib.hid (by rw [← hw1]; exact (bx_new _ _ _).block ((alc (alc0 _ _) _).block _ (by simp)))
  have XT : Hid (BX (W.heap.size + 1) #[.int .i64 0, .int .i64 0, .slice none 0 0] w1) := Lib.hid (by rw [← hw1]; exact (bx_at _ _ _ (by simp)).block ((alc0 _ _).block _ (by simp)))
  have XS : Hid (BX (W.heap.size + 1 + 1) #[.int .i64 0, .int .i64 0, .slice none 0 0] w1) := Lib.hid (by rw [← hw1]; exact bx_at _ _ _ (by simp))
  rw [hw1]
  clear hw1
  have HB := Lib.hid bw1
  clear bw1
  refine (mget_yes 0 ⟨1, 0, 5, 0, 31⟩ (H.out.below HB.out) HR0.out).mono ?_
  rintro e w2 ⟨rfl, bw2⟩
  have sw2 := bw2.size
  replace XO := Lib.hid (XO.out.block (bw2.block (W.heap.size) (by omega)))
  replace XT := Lib.hid (XT.out.block (bw2.block (W.heap.size + 1) (by omega)))
  replace XS := Lib.hid (XS.out.block (bw2.block (W.heap.size + 1 + 1) (by omega)))
  replace HB := Lib.hid (thn HB.out bw2)
  clear bw2
  rw [HG.out]
  simp only [Rf.v]
  go_upto_region 3 with (fail)
  obtain ⟨w3, hw3⟩ : ∃ w3, w2.alloc (.cells #[.int .i64 1, .int .i64 0, .int .i64 5, .int .i64 0, .int .i64 31] 52) = w3 := ⟨_, rfl⟩
  have bw3 : Below w2.heap.size w2 w3 := by rw [← hw3]; exact alc0 _ _
  have sw3 : w3.heap.size = w2.heap.size + 1 := by rw [← hw3]; simp
  have XX : Hid (BX (w2.heap.size) #[.int .i64 1, .int .i64 0, .int .i64 5, .int .i64 0, .int .i64 31] w3) := Lib.hid (by rw [← hw3]; exact bx_new _ _ _)
  rw [hw3]
  clear hw3
  replace XO := Lib.hid (XO.out.block (bw3.block (W.heap.size) (by omega)))
  replace XT := Lib.hid (XT.out.block (bw3.block (W.heap.size + 1) (by omega)))
  replace XS := Lib.hid (XS.out.block (bw3.block (W.heap.size + 1 + 1) (by omega)))
  replace HB := Lib.hid (thn HB.out bw3)
  clear bw3
  obtain ⟨cO0, cO1, cO2, cO3, cO4, cO5, cO6, cO7⟩ := XO.out.c8
  obtain ⟨cX0, cX1, cX2, cX3, cX4⟩ := XX.out.c5
  go_wp2_with fail
  refine (mread1 q d kb HIN.out (by omega) (by omega) (HCK.out.keep (HB.out.block q hq) (HB.out.block d hd)) (H.out.below HB.out)).mono ?_
  rintro e w4 ⟨D, rfl, hD1, hD2, hD3, bw4⟩
  clear cO0 cO1 cO2 cO3 cO4 cO5 cO6 cO7 cX0 cX1 cX2 cX3 cX4
  have sw4 := bw4.size
  replace XO := Lib.hid (XO.out.block (bw4.block (W.heap.size) (by omega)))
  replace XT := Lib.hid (XT.out.block (bw4.block (W.heap.size + 1) (by omega)))
  replace XS := Lib.hid (XS.out.block (bw4.block (W.heap.size + 1 + 1) (by omega)))
  replace XX := Lib.hid (XX.out.block (bw4.block (w2.heap.size) (by omega)))
  replace HB := Lib.hid (thn HB.out bw4)
  clear bw4
  have HL := Lib.hid hD3
  clear hD3
  obtain ⟨cS0, cS1, cS2⟩ := XS.out.c3
  obtain ⟨fS0, fS1, fS2⟩ := XS.out.f3
  go_upto_region 14 with (fail)
  obtain ⟨w5, hw5⟩ : ∃ w5, w5 = w4.setCell ⟨W.heap.size + 1 + 1, 2, none⟩ (.slice (some ⟨D, 0, none⟩) 2 2) := ⟨_, rfl⟩
  rw [← hw5]
  obtain ⟨sw5, kw5, lw5, XSn⟩ := XS.out.put1 #[.int .i64 0, .int .i64 0, .slice (some ⟨D, 0, none⟩) 2 2] 2 (.slice (some ⟨D, 0, none⟩) 2 2) rfl (by simp) w5 hw5
  clear hw5
  clear cS0 cS1 cS2 fS0 fS1 fS2
  replace XS := Lib.hid XSn
  clear XSn
  replace XO := Lib.hid (XO.out.block (kw5 (W.heap.size) (by omega)))
  replace XT := Lib.hid (XT.out.block (kw5 (W.heap.size + 1) (by omega)))
  replace XX := Lib.hid (XX.out.block (kw5 (w2.heap.size) (by omega)))
  replace HL := Lib.hid ((World.cell?_of_block (kw5 (D) (by omega))).trans HL.out)
  replace HB := Lib.hid (HB.out.trans (lw5 W.heap.size (by omega)))
  clear kw5 lw5
  obtain ⟨w6, hw6⟩ : ∃ w6, w6 = w5.setCell ⟨W.heap.size + 1 + 1, 0, none⟩ (.int .i64 0) := ⟨_, rfl⟩
  rw [← hw6]
  obtain ⟨sw6, kw6, lw6, XSn⟩ := XS.out.put1 #[.int .i64 0, .int .i64 0, .slice (some ⟨D, 0, none⟩) 2 2] 0 (.int .i64 0) rfl (by simp) w6 hw6
  clear hw6
  replace XS := Lib.hid XSn
  clear XSn
  replace XO := Lib.hid (XO.out.block (kw6 (W.heap.size) (by omega)))
  replace XT := Lib.hid (XT.out.block (kw6 (W.heap.size + 1) (by omega)))
  replace XX := Lib.hid (XX.out.block (kw6 (w2.heap.size) (by omega)))
  replace HL := Lib.hid ((World.cell?_of_block (kw6 (D) (by omega))).trans HL.out)
  replace HB := Lib.hid (HB.out.trans (lw6 W.heap.size (by omega)))
  clear kw6 lw6
  obtain ⟨cS0, cS1, cS2⟩ := XS.out.c3
  obtain ⟨cT0, cT1, cT2⟩ := XT.out.c3
  obtain ⟨fT0, fT1, fT2⟩ := XT.out.f3
  go_wp2_with fail
  obtain ⟨w7, hw7⟩ : ∃ w7, w7 = sets3 w6 (W.heap.size + 1) (.int .i64 0) (.int .i64 0) (.slice (some ⟨D, 0, none⟩) 2 2) := ⟨_, rfl⟩
  obtain ⟨sw7, kw7, lw7, XTn⟩ := XT.out.put3s rfl hw7
  unfold sets3 at hw7
  rw [← hw7]
  clear hw7
  clear cS0 cS1 cS2 cT0 cT1 cT2 fT0 fT1 fT2
  replace XT := Lib.hid XTn
  clear XTn
  replace XO := Lib.hid (XO.out.block (kw7 (W.heap.size) (by omega)))
  replace XS := Lib.hid (XS.out.block (kw7 (W.heap.size + 1 + 1) (by omega)))
  replace XX := Lib.hid (XX.out.block (kw7 (w2.heap.size) (by omega)))
  replace HL := Lib.hid ((World.cell?_of_block (kw7 (D) (by omega))).trans HL.out)
  replace HB := Lib.hid (HB.out.trans (lw7 W.heap.size (by omega)))
  clear kw7 lw7
  obtain ⟨cT0, cT1, cT2⟩ := XT.out.c3
  refine bodyPost_ret (v := .agg #[rE 0, .int .i64 0, .slice (some ⟨D, 0, none⟩) 2 2]) (by simp [results, Try.results23, go_sem, cT0, cT1, cT2]) rfl ⟨D, rfl, by omega, by omega, HL.out, HB.out⟩
set_option maxHeartbeats 1000000 in
theorem mdo_tell2 (k : Int) (t a b v n mm : Int) (P : Option Addr) (ln cp : Nat) (full : Bool) (HK : ∀ W : World, Calls Try.prog 20 #[opv k t a b v n mm P ln cp, .int .i64 (rs.length : Int)] W fun e w' => e = .returned (.int .i64 0) ∧ Below W.heap.size W w') (HQ : ∀ W : World, Calls Try.prog 21 #[opv k t a b v n mm P ln cp] W fun e w' => e = .returned (.bool false) ∧ Below W.heap.size W w') (HC : ∀ W : World, Calls Try.prog 22 #[opv k t a b v n mm P ln cp] W fun e w' => e = .returned (.bool false) ∧ Below W.heap.size W w') (HT : ∀ w : World, Below W.heap.size W w → MO m mb r C md ch rs w → Calls Try.prog 23 #[.pointer (some ⟨m, 0, none⟩), opv k t a b v n mm P ln cp] w (TlPost w)) (h : MO m mb r C md ch rs W) : Calls Try.prog 10 #[.pointer (some ⟨m, 0, none⟩), opv k t a b v n mm P ln cp, .bool full] W (TlPost W) := by
  have hmm := h.mp.lt
  have hr := h.lt.2.1
  have H := Lib.hid h
  have hm := h.lt.1
  clear h
  have HKR := Lib.hid HK
  clear HK
  have HQR := Lib.hid HQ
  clear HQ
  have HCR := Lib.hid HC
  clear HC
  have HTR := Lib.hid HT
  clear HT
  go_enter Try.func10, Try.ntmps10
  go_upto_region 3 with (fail)
  obtain ⟨wa, hwa⟩ : ∃ wa, (W.alloc (.cells #[.int .i64 k, .int .i64 t, .int .i64 a, .int .i64 b, .int .i64 v, .int .i64 n, .int .i64 mm, .slice P ln cp] 41)).alloc (.cells #[.int .i64 0, .int .i64 0, .slice none 0 0] 39) = wa := ⟨_, rfl⟩
  have hba : Below W.heap.size W wa := by rw [← hwa]; exact alc (alc0 _ _) _
  have hoc : OC W.heap.size k t a b v n mm P ln cp wa := by rw [← hwa]; exact (oc_new W _).block ((alc0 _ _).block _ (by simp))
  have hrc : RC (W.heap.size + 1) wa := by
    rw [← hwa]
    have h9 := rc_new (W.alloc (.cells #[.int .i64 k, .int .i64 t, .int .i64 a, .int .i64 b, .int .i64 v, .int .i64 n, .int .i64 mm, .slice P ln cp] 41)) 39
    rwa [World.size_alloc] at h9
  have hsa : wa.heap.size = W.heap.size + 2 := by rw [← hwa]; simp
  rw [hwa]
  clear hwa
  obtain ⟨x0, x1, x2, x3, x4, x5, x6, x7⟩ := hoc
  have HRC := Lib.hid hrc
  have HBA := Lib.hid hba
  have HMA := Lib.hid (H.out.below hba)
  clear hrc hba
  refine wp_region_held_drew (S := fun w' => w'.cell? ⟨W.heap.size, 0, none⟩ = some (.int .i64 k) ∧ w'.cell? ⟨W.heap.size, 1, none⟩ = some (.int .i64 t) ∧ w'.cell? ⟨W.heap.size, 2, none⟩ = some (.int .i64 a) ∧ w'.cell? ⟨W.heap.size, 3, none⟩ = some (.int .i64 b) ∧ w'.cell? ⟨W.heap.size, 4, none⟩ = some (.int .i64 v) ∧ w'.cell? ⟨W.heap.size, 5, none⟩ = some (.int .i64 n) ∧ w'.cell? ⟨W.heap.size, 6, none⟩ = some (.int .i64 mm) ∧ w'.cell? ⟨W.heap.size, 7, none⟩ = some (.slice P ln cp)) (by kernel_rfl) ?_ (fun hHeld => ?_)
  · exact ⟨x0, x1, x2, x3, x4, x5, x6, x7⟩
  refine wpAnyH_take (i := 0) (v := ?_) rfl (by kernel_rfl) (by kernel_rfl) (by kernel_rfl) (fun _ _ _ h => h) (Or.inl ⟨by kernel_rfl, ?_⟩) (by assumption) ?_
  rotate_left
  · (intro w hSw; (try dsimp only at hSw); (try have hTk := Hid.out HTAKE _ hSw); go_simp)
    try (with_reducible rfl)
  rotate_left
  try simp (maxSteps := 4000000) only [Act.put, List.setIfInBounds_toArray, List.set_cons_zero, List.set_cons_succ, List.getElem_toArray, List.getElem_cons_zero, List.getElem_cons_succ]
  refine wpAnyH_take (i := 1) (v := ?_) rfl (by kernel_rfl) (by kernel_rfl) (by kernel_rfl) (fun _ _ _ h => h) (Or.inl ⟨by kernel_rfl, ?_⟩) (by assumption) ?_
  rotate_left
  · (intro w hSw; (try dsimp only at hSw); (try have hTk := Hid.out HTAKE _ hSw); go_simp)
    try (with_reducible rfl)
  rotate_left
  try simp (maxSteps := 4000000) only [Act.put, List.setIfInBounds_toArray, List.set_cons_zero, List.set_cons_succ, List.getElem_toArray, List.getElem_cons_zero, List.getElem_cons_succ]
  refine wpAnyH_ready (rs := [2]) (by kernel_rfl) (by simp) ?_
  refine AllReadyH.cons rfl (fun K2 hK2 => ?_) AllReadyH.nil
  go_simp
  with_reducible refine Calls.mono (mregs (HMA.out.below (Below.refl _ wa).drew)) ?_
  rintro e w3 ⟨rfl, hw3⟩
  have hk9 : ∀ q : Nat, q < wa.heap.size → w3.heap[q]? = wa.heap[q]? := fun q hq => by rw [← hw3]; exact (Below.refl _ wa).drew.block q hq
  have hs3 : w3.heap.size = wa.heap.size := by rw [← hw3]; rfl
  have HB3 := Lib.hid (show Below W.heap.size W w3 from by rw [← hw3]; exact HBA.out.drew)
  have HR3 := Lib.hid (HRC.out.block (hk9 (W.heap.size + 1) (by omega)))
  have s1 : w3.cell? ⟨W.heap.size, 0, none⟩ = some (.int .i64 k) ∧ w3.cell? ⟨W.heap.size, 1, none⟩ = some (.int .i64 t) ∧ w3.cell? ⟨W.heap.size, 2, none⟩ = some (.int .i64 a) ∧ w3.cell? ⟨W.heap.size, 3, none⟩ = some (.int .i64 b) ∧ w3.cell? ⟨W.heap.size, 4, none⟩ = some (.int .i64 v) ∧ w3.cell? ⟨W.heap.size, 5, none⟩ = some (.int .i64 n) ∧ w3.cell? ⟨W.heap.size, 6, none⟩ = some (.int .i64 mm) ∧ w3.cell? ⟨W.heap.size, 7, none⟩ = some (.slice P ln cp) := ⟨(World.cell?_of_block (hk9 W.heap.size (by omega))).trans x0, (World.cell?_of_block (hk9 W.heap.size (by omega))).trans x1, (World.cell?_of_block (hk9 W.heap.size (by omega))).trans x2, (World.cell?_of_block (hk9 W.heap.size (by omega))).trans x3, (World.cell?_of_block (hk9 W.heap.size (by omega))).trans x4, (World.cell?_of_block (hk9 W.heap.size (by omega))).trans x5, (World.cell?_of_block (hk9 W.heap.size (by omega))).trans x6, (World.cell?_of_block (hk9 W.heap.size (by omega))).trans x7⟩
  clear hk9 hw3
  refine hK2.out _ _ (s1) (fun hHeld2 => ?_)
  clear hK2 K2 hHeld
  have hHeld := hHeld2
  clear hHeld2
  try simp (maxSteps := 4000000) only [Act.put, List.setIfInBounds_toArray, List.set_cons_zero, List.set_cons_succ]
  refine wpAnyH_ready (rs := [3]) (by kernel_rfl) (by simp) ?_
  refine AllReadyH.cons rfl (fun K2 hK2 => ?_) AllReadyH.nil
  go_simp
  with_reducible refine Calls.mono (HKR.out _) ?_
  rintro e w4 ⟨rfl, hb4⟩
  have hs4 : w3.heap.size ≤ w4.heap.size := hb4.size
  have s4 : w4.cell? ⟨W.heap.size, 0, none⟩ = some (.int .i64 k) ∧ w4.cell? ⟨W.heap.size, 1, none⟩ = some (.int .i64 t) ∧ w4.cell? ⟨W.heap.size, 2, none⟩ = some (.int .i64 a) ∧ w4.cell? ⟨W.heap.size, 3, none⟩ = some (.int .i64 b) ∧ w4.cell? ⟨W.heap.size, 4, none⟩ = some (.int .i64 v) ∧ w4.cell? ⟨W.heap.size, 5, none⟩ = some (.int .i64 n) ∧ w4.cell? ⟨W.heap.size, 6, none⟩ = some (.int .i64 mm) ∧ w4.cell? ⟨W.heap.size, 7, none⟩ = some (.slice P ln cp) := ⟨(World.cell?_of_block (hb4.block W.heap.size (by omega))).trans s1.1, (World.cell?_of_block (hb4.block W.heap.size (by omega))).trans s1.2.1, (World.cell?_of_block (hb4.block W.heap.size (by omega))).trans s1.2.2.1, (World.cell?_of_block (hb4.block W.heap.size (by omega))).trans s1.2.2.2.1, (World.cell?_of_block (hb4.block W.heap.size (by omega))).trans s1.2.2.2.2.1, (World.cell?_of_block (hb4.block W.heap.size (by omega))).trans s1.2.2.2.2.2.1, (World.cell?_of_block (hb4.block W.heap.size (by omega))).trans s1.2.2.2.2.2.2.1, (World.cell?_of_block (hb4.block W.heap.size (by omega))).trans s1.2.2.2.2.2.2.2⟩
  have HR4 := Lib.hid (HR3.out.block (hb4.block (W.heap.size + 1) (by omega)))
  have HB4 := Lib.hid (thn HB3.out hb4)
  clear hb4 x0 x1 x2 x3 x4 x5 x6 x7
  refine hK2.out _ _ (s4) (fun hHeld2 => ?_)
  clear hK2 K2 hHeld
  have hHeld := hHeld2
  clear hHeld2
  try simp (maxSteps := 4000000) only [Act.put, List.setIfInBounds_toArray, List.set_cons_zero, List.set_cons_succ]
  clear s1
  refine wpAnyH_take (i := 4) (v := ?_) rfl (by kernel_rfl) (by kernel_rfl) (by kernel_rfl) (fun _ _ _ h => h) (Or.inl ⟨by kernel_rfl, ?_⟩) (by assumption) ?_
  rotate_left
  · (intro w hSw; (try dsimp only at hSw); (try have hTk := Hid.out HTAKE _ hSw); go_simp)
    try (with_reducible rfl)
  rotate_left
  try simp (maxSteps := 4000000) only [Act.put, List.setIfInBounds_toArray, List.set_cons_zero, List.set_cons_succ, List.getElem_toArray, List.getElem_cons_zero, List.getElem_cons_succ]
  refine wpAnyH_done (by kernel_rfl) ?_ _
  obtain ⟨x0, x1, x2, x3, x4, x5, x6, x7⟩ := s4
  go_wp2_with fail
  refine (HQR.out _).mono ?_
  rintro e w5 ⟨rfl, hb5⟩
  have hs5 : w4.heap.size ≤ w5.heap.size := hb5.size
  have hx5 : OC W.heap.size k t a b v n mm P ln cp w5 := OC.block (W := w4) ⟨x0, x1, x2, x3, x4, x5, x6, x7⟩ (hb5.block W.heap.size (by omega))
  clear x0 x1 x2 x3 x4 x5 x6 x7
  obtain ⟨x0, x1, x2, x3, x4, x5, x6, x7⟩ := hx5
  have HR5 := Lib.hid (HR4.out.block (hb5.block (W.heap.size + 1) (by omega)))
  have HB5 := Lib.hid (thn HB4.out hb5)
  clear hb5
  go_wp2_with fail
  refine (HCR.out _).mono ?_
  rintro e w6 ⟨rfl, hb6⟩
  have hs6 : w5.heap.size ≤ w6.heap.size := hb6.size
  have hx6 : OC W.heap.size k t a b v n mm P ln cp w6 := OC.block (W := w5) ⟨x0, x1, x2, x3, x4, x5, x6, x7⟩ (hb6.block W.heap.size (by omega))
  clear x0 x1 x2 x3 x4 x5 x6 x7
  obtain ⟨x0, x1, x2, x3, x4, x5, x6, x7⟩ := hx6
  have HR6 := Lib.hid (HR5.out.block (hb6.block (W.heap.size + 1) (by omega)))
  have HB6 := Lib.hid (thn HB5.out hb6)
  clear hb6
  go_wp2_with fail
  refine (HTR.out _ HB6.out (H.out.below HB6.out)).mono ?_
  rintro e w7 ⟨D, rfl, hD1, hD2, hD3, hb7⟩
  have hs7 : w6.heap.size ≤ w7.heap.size := hb7.size
  have hx7 : OC W.heap.size k t a b v n mm P ln cp w7 := OC.block (W := w6) ⟨x0, x1, x2, x3, x4, x5, x6, x7⟩ (hb7.block W.heap.size (by omega))
  clear x0 x1 x2 x3 x4 x5 x6 x7
  obtain ⟨x0, x1, x2, x3, x4, x5, x6, x7⟩ := hx7
  have HR7 := Lib.hid (HR6.out.block (hb7.block (W.heap.size + 1) (by omega)))
  have HB7 := Lib.hid (thn HB6.out hb7)
  clear hb7
  obtain ⟨⟨u0, u1, u2⟩, u3, u4, u5⟩ := HR7.out
  go_wp2_with fail
  refine bodyPost_ret (v := .agg #[rE 0, .int .i64 0, .slice (some ⟨D, 0, none⟩) 2 2]) (by simp [results, Try.results10, go_sem, u0, u1, u2]) rfl ⟨D, rfl, by omega, by simp only [size_set]; omega, ?_, ?_⟩
  · rw [World.cell?_setCell_far _ _ _ _ (by simp; omega), World.cell?_setCell_far _ _ _ _ (by simp; omega), World.cell?_setCell_far _ _ _ _ (by simp; omega)]
    exact hD3
  exact HB7.out |>.setCell (p := ⟨W.heap.size + 1, 0, none⟩) (show W.heap.size ≤ W.heap.size + 1 by omega) _ |>.setCell (p := ⟨W.heap.size + 1, 1, none⟩) (show W.heap.size ≤ W.heap.size + 1 by omega) _ |>.setCell (p := ⟨W.heap.size + 1, 2, none⟩) (show W.heap.size ≤ W.heap.size + 1 by omega) _
theorem mdo1 (q d kb : Nat) (hin : ((1 : Int), q) ∈ ch) (hr0 : rs[0]? = some ⟨1, 0, 5, 0, 31⟩) (hq : q < W.heap.size) (hd : d < W.heap.size) (hck : CkAt q d kb 5 9 W) (h : MO m mb r C md ch rs W) : Calls Try.prog 10 #[.pointer (some ⟨m, 0, none⟩), opv 11 0 0 0 0 2 0 none 0 0, .bool false] W (TlPost W) := by
  have hl : 0 < rs.length := (List.getElem?_eq_some_iff.1 hr0).1
  exact mdo_tell2 11 0 0 0 0 2 0 none 0 0 false (fun W => kref11_ok 0 0 0 0 2 0 none 0 0 W _ ⟨by omega, by omega⟩ (by omega)) (fun W => kquiet11 0 0 0 0 2 0 none 0 0 W) (fun W => kcomes11 0 0 0 0 2 0 none 0 0 W) (fun w hb hw => mtell1 q d kb hin hr0 (by have := hb.size; omega) (by have := hb.size; omega) (hck.keep (hb.block q hq) (hb.block d hd)) hw) h
end
end Go.Proofs.Ytanmmhbnjmglhaa
