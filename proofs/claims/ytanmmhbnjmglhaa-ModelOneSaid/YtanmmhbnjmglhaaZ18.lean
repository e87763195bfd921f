/- MoL. -/
import Derived.Test.YtanmmhbnjmglhaaZ17
import Derived.Deep.RegionHeld3
namespace Go.Proofs.Ytanmmhbnjmglhaa
set_option maxRecDepth 100000
open Go.RowKit Go.ChangeMaps Go.MapKept
set_option linter.unusedVariables false
set_option linter.unusedSimpArgs false
section
variable {m mb r : Nat} {C : Cf} {md : Nat} {rs : List Rf} {W : World}
set_option maxHeartbeats 1000000 in
theorem mtell14 (t a b v n mm : Int) (P : Option Addr) (ln cp : Nat) (h : MO m mb r C md [] rs W) : Calls Try.prog 23 #[.pointer (some ⟨m, 0, none⟩), opv 14 t a b v n mm P ln cp] W fun e w' => e = .returned (.agg #[rE 7, .int .i64 0, .slice none 0 0]) ∧ Below W.heap.size W w' := by
  have H := Lib.hid h
  have hm := h.lt.1
  clear h
  go_enter Try.func23, Try.ntmps23
  go_wp2_with fail
  refine (mgetd b (H.out.below (alc (alc (alc0 W _) _) _))).mono ?_
  rintro e w1 ⟨rfl, hb1⟩
  have hs1 : W.heap.size + 3 ≤ w1.heap.size := by have := hb1.size; simpa using this
  have hoc := (oc_new (k := 14) (t := t) (a := a) (b := b) (v := v) (n := n) (mm := mm) (P := P) (ln := ln) (cp := cp) W 41).block (W' := w1) ((hb1.block _ (by simp <;> omega)).trans ((alc (alc0 _ _) _).block _ (by simp)))
  have hr1 := (rc_new (W.alloc (.cells #[.int .i64 14, .int .i64 t, .int .i64 a, .int .i64 b, .int .i64 v, .int .i64 n, .int .i64 mm, .slice P ln cp] 41)) 39).block (W' := w1) ((hb1.block _ (by simp <;> omega)).trans ((alc0 _ _).block _ (by simp)))
  have hr2 := (rc_new ((W.alloc (.cells #[.int .i64 14, .int .i64 t, .int .i64 a, .int .i64 b, .int .i64 v, .int .i64 n, .int .i64 mm, .slice P ln cp] 41)).alloc (.cells #[.int .i64 0, .int .i64 0, .slice none 0 0] 39)) 39).block (W' := w1) (hb1.block _ (by simp <;> omega))
  rw [World.size_alloc] at hr1
  rw [World.size_alloc, World.size_alloc] at hr2
  have HR1 := Lib.hid hr1
  have HR2 := Lib.hid hr2
  have HOC := Lib.hid hoc
  have HB1 := Lib.hid ((alc (alc (alc0 W _) _) _).trans (hb1.mono (by simp <;> omega)))
  have H1 := Lib.hid (H.out.below HB1.out)
  clear hb1 hr1 hr2 hoc
  go_upto_region 3 with (fail)
  obtain ⟨wb, hwb⟩ : ∃ wb, w1.alloc (.cells #[.int .i64 0, .int .i64 0, .int .i64 0, .int .i64 0, .int .i64 0] 52) = wb := ⟨_, rfl⟩
  have hbb : Below w1.heap.size w1 wb := by rw [← hwb]; exact alc0 _ _
  have hbc : YC w1.heap.size wb := by rw [← hwb]; exact yc_new _ _
  have hsb : wb.heap.size = w1.heap.size + 1 := by rw [← hwb]; exact World.size_alloc _ _
  rw [hwb]
  obtain ⟨x0, x1, x2, x3, x4, x5, x6, x7⟩ := HOC.out.block (hbb.block W.heap.size (by omega))
  have HRA := Lib.hid (HR1.out.block (hbb.block (W.heap.size + 1) (by omega)))
  have HRB := Lib.hid (HR2.out.block (hbb.block (W.heap.size + 1 + 1) (by omega)))
  have HBB := Lib.hid (thn HB1.out hbb)
  have HMB := Lib.hid (H1.out.below hbb)
  obtain ⟨b0, -⟩ := hbc 0 (by decide)
  obtain ⟨b1, -⟩ := hbc 1 (by decide)
  obtain ⟨b2, -⟩ := hbc 2 (by decide)
  obtain ⟨b3, -⟩ := hbc 3 (by decide)
  obtain ⟨b4, -⟩ := hbc 4 (by decide)
  clear hwb hbb hbc HOC HR1 HR2 HB1 H1
  go_upto_region 13 with (fail)
  refine wp_region_held_drew (S := fun w' => w'.cell? ⟨W.heap.size, 4, none⟩ = some (.int .i64 v) ∧ w'.cell? ⟨w1.heap.size, 0, none⟩ = some (.int .i64 0) ∧ w'.cell? ⟨w1.heap.size, 1, none⟩ = some (.int .i64 0) ∧ w'.cell? ⟨w1.heap.size, 2, none⟩ = some (.int .i64 0) ∧ w'.cell? ⟨w1.heap.size, 3, none⟩ = some (.int .i64 0) ∧ w'.cell? ⟨w1.heap.size, 4, none⟩ = some (.int .i64 0)) (by kernel_rfl) ?_ (fun hHeld => ?_)
  · exact ⟨x4, b0, b1, b2, b3, b4⟩
  refine wpAnyH_take (i := 0) (v := ?_) rfl (by kernel_rfl) (by kernel_rfl) (by kernel_rfl) (fun _ _ _ h => h) (Or.inl ⟨by kernel_rfl, ?_⟩) (by assumption) ?_
  rotate_left
  · (intro w hSw; (try dsimp only at hSw); go_simp)
    try (with_reducible rfl)
  rotate_left
  try simp (maxSteps := 4000000) only [Act.put, List.setIfInBounds_toArray, List.set_cons_zero, List.set_cons_succ, List.getElem_toArray, List.getElem_cons_zero, List.getElem_cons_succ]
  refine wpAnyH_take (i := 1) (v := ?_) rfl (by kernel_rfl) (by kernel_rfl) (by kernel_rfl) (fun _ _ _ h => h) (Or.inl ⟨by kernel_rfl, ?_⟩) (by assumption) ?_
  rotate_left
  · (intro w hSw; (try dsimp only at hSw); go_simp)
    try (with_reducible rfl)
  rotate_left
  try simp (maxSteps := 4000000) only [Act.put, List.setIfInBounds_toArray, List.set_cons_zero, List.set_cons_succ, List.getElem_toArray, List.getElem_cons_zero, List.getElem_cons_succ]
  refine wpAnyH_take (i := 2) (v := ?_) rfl (by kernel_rfl) (by kernel_rfl) (by kernel_rfl) (fun _ _ _ h => h) (Or.inl ⟨by kernel_rfl, ?_⟩) (by assumption) ?_
  rotate_left
  · (intro w hSw; (try dsimp only at hSw); go_simp)
    try (with_reducible rfl)
  rotate_left
  try simp (maxSteps := 4000000) only [Act.put, List.setIfInBounds_toArray, List.set_cons_zero, List.set_cons_succ, List.getElem_toArray, List.getElem_cons_zero, List.getElem_cons_succ]
  refine wpAnyH_take (i := 3) (v := ?_) rfl (by kernel_rfl) (by kernel_rfl) (by kernel_rfl) (fun _ _ _ h => h) (Or.inl ⟨by kernel_rfl, ?_⟩) (by assumption) ?_
  rotate_left
  · (intro w hSw; (try dsimp only at hSw); go_simp)
    try (with_reducible rfl)
  rotate_left
  try simp (maxSteps := 4000000) only [Act.put, List.setIfInBounds_toArray, List.set_cons_zero, List.set_cons_succ, List.getElem_toArray, List.getElem_cons_zero, List.getElem_cons_succ]
  refine wpAnyH_take (i := 4) (v := ?_) rfl (by kernel_rfl) (by kernel_rfl) (by kernel_rfl) (fun _ _ _ h => h) (Or.inl ⟨by kernel_rfl, ?_⟩) (by assumption) ?_
  rotate_left
  · (intro w hSw; (try dsimp only at hSw); go_simp)
    try (with_reducible rfl)
  rotate_left
  try simp (maxSteps := 4000000) only [Act.put, List.setIfInBounds_toArray, List.set_cons_zero, List.set_cons_succ, List.getElem_toArray, List.getElem_cons_zero, List.getElem_cons_succ]
  refine wpAnyH_ready (rs := [5]) (by kernel_rfl) (by simp) ?_
  refine AllReadyH.cons rfl (fun K2 hK2 => ?_) AllReadyH.nil
  go_simp
  with_reducible refine Calls.mono (mgetd v (HMB.out.below (Below.refl _ wb).drew)) ?_
  rintro e w3 ⟨rfl, hb3⟩
  have hs3 : wb.heap.size ≤ w3.heap.size := hb3.size
  have hk9 : ∀ q : Nat, q < wb.heap.size → w3.heap[q]? = wb.heap[q]? := fun q hq => hb3.block q (by show q < wb.heap.size; omega)
  have HB3 := Lib.hid (HBB.out.drew.trans (hb3.mono HBB.out.size))
  have HRC := Lib.hid (HRA.out.block (hk9 (W.heap.size + 1) (by omega)))
  have HRD := Lib.hid (HRB.out.block (hk9 (W.heap.size + 1 + 1) (by omega)))
  have s1 : w3.cell? ⟨W.heap.size, 4, none⟩ = some (.int .i64 v) ∧ w3.cell? ⟨w1.heap.size, 0, none⟩ = some (.int .i64 0) ∧ w3.cell? ⟨w1.heap.size, 1, none⟩ = some (.int .i64 0) ∧ w3.cell? ⟨w1.heap.size, 2, none⟩ = some (.int .i64 0) ∧ w3.cell? ⟨w1.heap.size, 3, none⟩ = some (.int .i64 0) ∧ w3.cell? ⟨w1.heap.size, 4, none⟩ = some (.int .i64 0) := ⟨(World.cell?_of_block (hk9 W.heap.size (by omega))).trans x4, (World.cell?_of_block (hk9 w1.heap.size (by omega))).trans b0, (World.cell?_of_block (hk9 w1.heap.size (by omega))).trans b1, (World.cell?_of_block (hk9 w1.heap.size (by omega))).trans b2, (World.cell?_of_block (hk9 w1.heap.size (by omega))).trans b3, (World.cell?_of_block (hk9 w1.heap.size (by omega))).trans b4⟩
  clear hb3 hk9
  refine hK2.out _ _ (s1) (fun hHeld2 => ?_)
  clear hK2 K2 hHeld
  have hHeld := hHeld2
  clear hHeld2
  try simp (maxSteps := 4000000) only [Act.put, List.setIfInBounds_toArray, List.set_cons_zero, List.set_cons_succ]
  refine wpAnyH_ready (rs := [6]) (by kernel_rfl) (by simp) ?_
  refine AllReadyH.cons rfl (fun K2 hK2 => ?_) AllReadyH.nil
  go_simp
  with_reducible refine Calls.mono (mstore0 _ 0 0 0 0 0 _) ?_
  rintro e w4 ⟨rfl, hb4⟩
  have hs4 : w3.heap.size ≤ w4.heap.size := hb4.size
  have hk9 : ∀ q : Nat, q < w3.heap.size → w4.heap[q]? = w3.heap[q]? := fun q hq => hb4.block q (by show q < w3.heap.size; omega)
  have HB4 := Lib.hid (HB3.out.trans (hb4.mono HB3.out.size))
  have HRE := Lib.hid (HRC.out.block (hk9 (W.heap.size + 1) (by omega)))
  obtain ⟨⟨v0, v1, v2⟩, v3, v4, v5⟩ := HRD.out.block (hk9 (W.heap.size + 1 + 1) (by omega))
  have s4 : w4.cell? ⟨W.heap.size, 4, none⟩ = some (.int .i64 v) ∧ w4.cell? ⟨w1.heap.size, 0, none⟩ = some (.int .i64 0) ∧ w4.cell? ⟨w1.heap.size, 1, none⟩ = some (.int .i64 0) ∧ w4.cell? ⟨w1.heap.size, 2, none⟩ = some (.int .i64 0) ∧ w4.cell? ⟨w1.heap.size, 3, none⟩ = some (.int .i64 0) ∧ w4.cell? ⟨w1.heap.size, 4, none⟩ = some (.int .i64 0) := ⟨(World.cell?_of_block (hk9 W.heap.size (by omega))).trans s1.1, (World.cell?_of_block (hk9 w1.heap.size (by omega))).trans s1.2.1, (World.cell?_of_block (hk9 w1.heap.size (by omega))).trans s1.2.2.1, (World.cell?_of_block (hk9 w1.heap.size (by omega))).trans s1.2.2.2.1, (World.cell?_of_block (hk9 w1.heap.size (by omega))).trans s1.2.2.2.2.1, (World.cell?_of_block (hk9 w1.heap.size (by omega))).trans s1.2.2.2.2.2⟩
  clear hb4 hk9
  refine hK2.out _ _ (s4) (fun hHeld2 => ?_)
  clear hK2 K2 hHeld
  have hHeld := hHeld2
  clear hHeld2
  try simp (maxSteps := 4000000) only [Act.put, List.setIfInBounds_toArray, List.set_cons_zero, List.set_cons_succ]
  refine wpAnyH_take (i := 7) (v := ?_) rfl (by kernel_rfl) (by kernel_rfl) (by kernel_rfl) (fun _ _ _ h => h) (Or.inl ⟨by kernel_rfl, ?_⟩) (by assumption) ?_
  rotate_left
  · (intro w hSw; (try dsimp only at hSw); go_simp)
    try (with_reducible rfl)
  rotate_left
  try simp (maxSteps := 4000000) only [Act.put, List.setIfInBounds_toArray, List.set_cons_zero, List.set_cons_succ, List.getElem_toArray, List.getElem_cons_zero, List.getElem_cons_succ]
  refine wpAnyH_ready (rs := [8]) (by kernel_rfl) (by simp) ?_
  refine AllReadyH.cons rfl (fun K2 hK2 => ?_) AllReadyH.nil
  go_simp
  obtain ⟨w5, hw5⟩ : ∃ w5, w5 = w4.setCell ⟨W.heap.size + 1 + 1, 0, none⟩ (rE 7) := ⟨_, rfl⟩
  rw [← hw5]
  have hk9 : ∀ q : Nat, q ≠ W.heap.size + 1 + 1 → w5.heap[q]? = w4.heap[q]? := fun q hq => by rw [hw5]; exact heap_other _ _ _ _ _ hq
  have q0 : w5.cell? ⟨W.heap.size + 1 + 1, 0, none⟩ = some (.int .i64 7) := by rw [hw5]; simp [go_sem, v0, v1, v2]
  have q1 : w5.cell? ⟨W.heap.size + 1 + 1, 1, none⟩ = some (.int .i64 0) := by rw [hw5]; simp [go_sem, v0, v1, v2]
  have q2 : w5.cell? ⟨W.heap.size + 1 + 1, 2, none⟩ = some (.slice none 0 0) := by rw [hw5]; simp [go_sem, v0, v1, v2]
  have HB5 := Lib.hid (show Below W.heap.size W w5 from by rw [hw5]; exact HB4.out |>.setCell (p := ⟨W.heap.size + 1 + 1, 0, none⟩) (show W.heap.size ≤ W.heap.size + 1 + 1 by omega) _)
  obtain ⟨⟨u0, u1, u2⟩, u3, u4, u5⟩ := HRE.out.block (hk9 (W.heap.size + 1) (by omega))
  have s5 : w5.cell? ⟨W.heap.size, 4, none⟩ = some (.int .i64 v) ∧ w5.cell? ⟨w1.heap.size, 0, none⟩ = some (.int .i64 0) ∧ w5.cell? ⟨w1.heap.size, 1, none⟩ = some (.int .i64 0) ∧ w5.cell? ⟨w1.heap.size, 2, none⟩ = some (.int .i64 0) ∧ w5.cell? ⟨w1.heap.size, 3, none⟩ = some (.int .i64 0) ∧ w5.cell? ⟨w1.heap.size, 4, none⟩ = some (.int .i64 0) := ⟨(World.cell?_of_block (hk9 W.heap.size (by omega))).trans s4.1, (World.cell?_of_block (hk9 w1.heap.size (by omega))).trans s4.2.1, (World.cell?_of_block (hk9 w1.heap.size (by omega))).trans s4.2.2.1, (World.cell?_of_block (hk9 w1.heap.size (by omega))).trans s4.2.2.2.1, (World.cell?_of_block (hk9 w1.heap.size (by omega))).trans s4.2.2.2.2.1, (World.cell?_of_block (hk9 w1.heap.size (by omega))).trans s4.2.2.2.2.2⟩
  clear hw5 hk9
  refine hK2.out _ _ (s5) (fun hHeld2 => ?_)
  clear hK2 K2 hHeld
  have hHeld := hHeld2
  clear hHeld2
  try simp (maxSteps := 4000000) only [Act.put, List.setIfInBounds_toArray, List.set_cons_zero, List.set_cons_succ]
  refine wpAnyH_done (by kernel_rfl) ?_ _
  go_wp2_with fail
  refine bodyPost_ret (v := .agg #[rE 7, .int .i64 0, .slice none 0 0]) (by simp [results, Try.results23, go_sem, u0, u1, u2, q0, q1, q2]) rfl ⟨rfl, ?_⟩
  exact HB5.out |>.setCell (p := ⟨W.heap.size + 1, 0, none⟩) (show W.heap.size ≤ W.heap.size + 1 by omega) _ |>.setCell (p := ⟨W.heap.size + 1, 1, none⟩) (show W.heap.size ≤ W.heap.size + 1 by omega) _ |>.setCell (p := ⟨W.heap.size + 1, 2, none⟩) (show W.heap.size ≤ W.heap.size + 1 by omega) _
end
end Go.Proofs.Ytanmmhbnjmglhaa
