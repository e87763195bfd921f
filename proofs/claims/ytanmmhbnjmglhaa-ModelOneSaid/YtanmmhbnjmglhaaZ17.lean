/- MoK. -/
import Derived.Test.YtanmmhbnjmglhaaZ16
import Derived.Deep.RegionHeld3
namespace Go.Proofs.Ytanmmhbnjmglhaa
set_option maxRecDepth 100000
open Go.RowKit Go.ChangeMaps Go.MapKept
set_option linter.unusedVariables false
set_option linter.unusedSimpArgs false
/-- A zero result's box. -/
def RC (B : Nat) (W : World) : Prop := (W.cell? ⟨B, 0, none⟩ = some (.int .i64 0) ∧ W.cell? ⟨B, 1, none⟩ = some (.int .i64 0) ∧ W.cell? ⟨B, 2, none⟩ = some (.slice none 0 0)) ∧ W.frozen? ⟨B, 0, none⟩ = false ∧ W.frozen? ⟨B, 1, none⟩ = false ∧ W.frozen? ⟨B, 2, none⟩ = false
theorem RC.block {B : Nat} {W W' : World} (h : RC B W) (hk : W'.heap[B]? = W.heap[B]?) : RC B W' :=
  ⟨⟨(World.cell?_of_block hk).trans h.1.1, (World.cell?_of_block hk).trans h.1.2.1, (World.cell?_of_block hk).trans h.1.2.2⟩, (World.frozen?_of_block hk).trans h.2.1, (World.frozen?_of_block hk).trans h.2.2.1, (World.frozen?_of_block hk).trans h.2.2.2⟩
theorem rc_new (W : World) (T : TypeId) : RC W.heap.size (W.alloc (.cells #[.int .i64 0, .int .i64 0, .slice none 0 0] T)) := ⟨⟨by simp, by simp, by simp⟩, by simp, by simp, by simp⟩
section
variable {m mb r : Nat} {C : Cf} {md : Nat} {rs : List Rf} {W : World}
theorem mfree0 (t : Int) (h : MO m mb r C md [] rs W) : Calls Try.prog 34 #[.pointer (some ⟨m, 0, none⟩), .int .i64 t, z5] W fun e w' => e = .returned (rE (if t < 0 ∨ C.th ≤ t then 1 else 7)) ∧ Below W.heap.size W w' := by
  by_cases ht : t < 0 ∨ C.th ≤ t
  · rw [if_pos ht]; exact mfree_no t h ht
  · rw [if_neg ht]; exact mfree_dead t h (by omega)
set_option maxHeartbeats 400000 in
theorem mtell4 (t a b v n mm : Int) (P : Option Addr) (ln cp : Nat) (h : MO m mb r C md [] rs W) : Calls Try.prog 23 #[.pointer (some ⟨m, 0, none⟩), opv 4 t a b v n mm P ln cp] W fun e w' => e = .returned (.agg #[rE (if t < 0 ∨ C.th ≤ t then 1 else 7), .int .i64 0, .slice none 0 0]) ∧ Below W.heap.size W w' := by
  obtain ⟨E, hE⟩ : ∃ E : Int, (if t < 0 ∨ C.th ≤ t then 1 else 7) = E := ⟨_, rfl⟩
  rw [hE]
  have H := Lib.hid h
  have hm := h.lt.1
  clear h
  go_enter Try.func23, Try.ntmps23
  go_wp2_with fail
  refine (mgetd b (H.out.below (alc (alc (alc0 W _) _) _))).mono ?_
  rintro e w1 ⟨rfl, hb1⟩
  have hs1 : W.heap.size + 3 ≤ w1.heap.size := by have := hb1.size; simpa using this
  have hoc := (oc_new (k := 4) (t := t) (a := a) (b := b) (v := v) (n := n) (mm := mm) (P := P) (ln := ln) (cp := cp) W 41).block (W' := w1) ((hb1.block _ (by simp <;> omega)).trans ((alc (alc0 _ _) _).block _ (by simp)))
  have hr1 := (rc_new (W.alloc (.cells #[.int .i64 4, .int .i64 t, .int .i64 a, .int .i64 b, .int .i64 v, .int .i64 n, .int .i64 mm, .slice P ln cp] 41)) 39).block (W' := w1) ((hb1.block _ (by simp <;> omega)).trans ((alc0 _ _).block _ (by simp)))
  have hr2 := (rc_new ((W.alloc (.cells #[.int .i64 4, .int .i64 t, .int .i64 a, .int .i64 b, .int .i64 v, .int .i64 n, .int .i64 mm, .slice P ln cp] 41)).alloc (.cells #[.int .i64 0, .int .i64 0, .slice none 0 0] 39)) 39).block (W' := w1) (hb1.block _ (by simp <;> omega))
  rw [World.size_alloc] at hr1
  rw [World.size_alloc, World.size_alloc] at hr2
  have HR1 := Lib.hid hr1
  have HR2 := Lib.hid hr2
  have HOC := Lib.hid hoc
  have HB1 := Lib.hid ((alc (alc (alc0 W _) _) _).trans (hb1.mono (by simp <;> omega)))
  have H1 := Lib.hid (H.out.below HB1.out)
  clear hb1 hr1 hr2 hoc
  go_upto_region 3 with (fail)
  obtain ⟨wb, hwb⟩ : ∃ wb, w1.alloc (.cells #[.int .i64 0, .int .i64 0, .int .i64 0, .int .i64 0, .int .i64 0] 52) = wb := ⟨_, rfl⟩
  have hbb : Below w1.heap.size w1 wb := by rw [← hwb]; exact alc0 _ _
  have hbc : YC w1.heap.size wb := by rw [← hwb]; exact yc_new _ _
  have hsb : wb.heap.size = w1.heap.size + 1 := by rw [← hwb]; exact World.size_alloc _ _
  rw [hwb]
  obtain ⟨x0, x1, x2, x3, x4, x5, x6, x7⟩ := HOC.out.block (hbb.block W.heap.size (by omega))
  have HRA := Lib.hid (HR1.out.block (hbb.block (W.heap.size + 1) (by omega)))
  have HRB := Lib.hid (HR2.out.block (hbb.block (W.heap.size + 1 + 1) (by omega)))
  have HBB := Lib.hid (thn HB1.out hbb)
  have HMB := Lib.hid (H1.out.below hbb)
  obtain ⟨b0, -⟩ := hbc 0 (by decide)
  obtain ⟨b1, -⟩ := hbc 1 (by decide)
  obtain ⟨b2, -⟩ := hbc 2 (by decide)
  obtain ⟨b3, -⟩ := hbc 3 (by decide)
  obtain ⟨b4, -⟩ := hbc 4 (by decide)
  clear hwb hbb hbc HOC HR1 HR2 HB1 H1
  go_wp2_with fail
  refine (mfree0 t HMB.out).mono ?_
  rintro e w3 ⟨rfl, hb3⟩
  rw [hE]
  obtain ⟨⟨u0, u1, u2⟩, u3, u4, u5⟩ := HRA.out.block (W' := w3) (hb3.block (W.heap.size + 1) (by omega))
  obtain ⟨⟨v0, v1, v2⟩, v3, v4, v5⟩ := HRB.out.block (W' := w3) (hb3.block (W.heap.size + 1 + 1) (by omega))
  have HB3 := Lib.hid (thn HBB.out hb3)
  clear hb3
  go_wp2_with fail
  refine bodyPost_ret (v := .agg #[rE E, .int .i64 0, .slice none 0 0]) (by simp [results, Try.results23, go_sem, u0, u1, u2, v0, v1, v2]) rfl ⟨rfl, ?_⟩
  exact HB3.out |>.setCell (p := ⟨W.heap.size + 1 + 1, 0, none⟩) (show W.heap.size ≤ W.heap.size + 1 + 1 by omega) _ |>.setCell (p := ⟨W.heap.size + 1, 0, none⟩) (show W.heap.size ≤ W.heap.size + 1 by omega) _ |>.setCell (p := ⟨W.heap.size + 1, 1, none⟩) (show W.heap.size ≤ W.heap.size + 1 by omega) _ |>.setCell (p := ⟨W.heap.size + 1, 2, none⟩) (show W.heap.size ≤ W.heap.size + 1 by omega) _
set_option maxHeartbeats 400000 in
theorem mtell6 (t a b v n mm : Int) (P : Option Addr) (ln cp : Nat) (h : MO m mb r C md [] rs W) : Calls Try.prog 23 #[.pointer (some ⟨m, 0, none⟩), opv 6 t a b v n mm P ln cp] W fun e w' => e = .returned (.agg #[rE 7, .int .i64 0, .slice none 0 0]) ∧ Below W.heap.size W w' := by
  have H := Lib.hid h
  have hm := h.lt.1
  clear h
  go_enter Try.func23, Try.ntmps23
  go_wp2_with fail
  refine (mgetd b (H.out.below (alc (alc (alc0 W _) _) _))).mono ?_
  rintro e w1 ⟨rfl, hb1⟩
  have hs1 : W.heap.size + 3 ≤ w1.heap.size := by have := hb1.size; simpa using this
  have hoc := (oc_new (k := 6) (t := t) (a := a) (b := b) (v := v) (n := n) (mm := mm) (P := P) (ln := ln) (cp := cp) W 41).block (W' := w1) ((hb1.block _ (by simp <;> omega)).trans ((alc (alc0 _ _) _).block _ (by simp)))
  have hr1 := (rc_new (W.alloc (.cells #[.int .i64 6, .int .i64 t, .int .i64 a, .int .i64 b, .int .i64 v, .int .i64 n, .int .i64 mm, .slice P ln cp] 41)) 39).block (W' := w1) ((hb1.block _ (by simp <;> omega)).trans ((alc0 _ _).block _ (by simp)))
  have hr2 := (rc_new ((W.alloc (.cells #[.int .i64 6, .int .i64 t, .int .i64 a, .int .i64 b, .int .i64 v, .int .i64 n, .int .i64 mm, .slice P ln cp] 41)).alloc (.cells #[.int .i64 0, .int .i64 0, .slice none 0 0] 39)) 39).block (W' := w1) (hb1.block _ (by simp <;> omega))
  rw [World.size_alloc] at hr1
  rw [World.size_alloc, World.size_alloc] at hr2
  have HR1 := Lib.hid hr1
  have HR2 := Lib.hid hr2
  have HOC := Lib.hid hoc
  have HB1 := Lib.hid ((alc (alc (alc0 W _) _) _).trans (hb1.mono (by simp <;> omega)))
  have H1 := Lib.hid (H.out.below HB1.out)
  clear hb1 hr1 hr2 hoc
  go_upto_region 3 with (fail)
  obtain ⟨wb, hwb⟩ : ∃ wb, w1.alloc (.cells #[.int .i64 0, .int .i64 0, .int .i64 0, .int .i64 0, .int .i64 0] 52) = wb := ⟨_, rfl⟩
  have hbb : Below w1.heap.size w1 wb := by rw [← hwb]; exact alc0 _ _
  have hbc : YC w1.heap.size wb := by rw [← hwb]; exact yc_new _ _
  have hsb : wb.heap.size = w1.heap.size + 1 := by rw [← hwb]; exact World.size_alloc _ _
  rw [hwb]
  obtain ⟨x0, x1, x2, x3, x4, x5, x6, x7⟩ := HOC.out.block (hbb.block W.heap.size (by omega))
  have HRA := Lib.hid (HR1.out.block (hbb.block (W.heap.size + 1) (by omega)))
  have HRB := Lib.hid (HR2.out.block (hbb.block (W.heap.size + 1 + 1) (by omega)))
  have HBB := Lib.hid (thn HB1.out hbb)
  have HMB := Lib.hid (H1.out.below hbb)
  obtain ⟨b0, -⟩ := hbc 0 (by decide)
  obtain ⟨b1, -⟩ := hbc 1 (by decide)
  obtain ⟨b2, -⟩ := hbc 2 (by decide)
  obtain ⟨b3, -⟩ := hbc 3 (by decide)
  obtain ⟨b4, -⟩ := hbc 4 (by decide)
  clear hwb hbb hbc HOC HR1 HR2 HB1 H1
  go_wp2_with fail
  refine (musable0 _ _).mono ?_
  rintro e w3 ⟨rfl, hb3⟩
  obtain ⟨⟨u0, u1, u2⟩, u3, u4, u5⟩ := HRA.out.block (W' := w3) (hb3.block (W.heap.size + 1) (by omega))
  obtain ⟨⟨v0, v1, v2⟩, v3, v4, v5⟩ := HRB.out.block (W' := w3) (hb3.block (W.heap.size + 1 + 1) (by omega))
  have HB3 := Lib.hid (thn HBB.out hb3)
  clear hb3
  go_wp2_with fail
  refine bodyPost_ret (v := .agg #[rE 7, .int .i64 0, .slice none 0 0]) (by simp [results, Try.results23, go_sem, u0, u1, u2, v0, v1, v2]) rfl ⟨rfl, ?_⟩
  exact HB3.out |>.setCell (p := ⟨W.heap.size + 1 + 1, 1, none⟩) (show W.heap.size ≤ W.heap.size + 1 + 1 by omega) _ |>.setCell (p := ⟨W.heap.size + 1 + 1, 0, none⟩) (show W.heap.size ≤ W.heap.size + 1 + 1 by omega) _ |>.setCell (p := ⟨W.heap.size + 1, 0, none⟩) (show W.heap.size ≤ W.heap.size + 1 by omega) _ |>.setCell (p := ⟨W.heap.size + 1, 1, none⟩) (show W.heap.size ≤ W.heap.size + 1 by omega) _ |>.setCell (p := ⟨W.heap.size + 1, 2, none⟩) (show W.heap.size ≤ W.heap.size + 1 by omega) _
set_option maxHeartbeats 400000 in
theorem mtell11 (t a b v n mm : Int) (P : Option Addr) (ln cp : Nat) (h : MO m mb r C md [] rs W) : Calls Try.prog 23 #[.pointer (some ⟨m, 0, none⟩), opv 11 t a b v n mm P ln cp] W fun e w' => e = .returned (.agg #[rE 7, .int .i64 0, .slice none 0 0]) ∧ Below W.heap.size W w' := by
  have H := Lib.hid h
  have hm := h.lt.1
  clear h
  go_enter Try.func23, Try.ntmps23
  go_wp2_with fail
  refine (mgetd b (H.out.below (alc (alc (alc0 W _) _) _))).mono ?_
  rintro e w1 ⟨rfl, hb1⟩
  have hs1 : W.heap.size + 3 ≤ w1.heap.size := by have := hb1.size; simpa using this
  have hoc := (oc_new (k := 11) (t := t) (a := a) (b := b) (v := v) (n := n) (mm := mm) (P := P) (ln := ln) (cp := cp) W 41).block (W' := w1) ((hb1.block _ (by simp <;> omega)).trans ((alc (alc0 _ _) _).block _ (by simp)))
  have hr1 := (rc_new (W.alloc (.cells #[.int .i64 11, .int .i64 t, .int .i64 a, .int .i64 b, .int .i64 v, .int .i64 n, .int .i64 mm, .slice P ln cp] 41)) 39).block (W' := w1) ((hb1.block _ (by simp <;> omega)).trans ((alc0 _ _).block _ (by simp)))
  have hr2 := (rc_new ((W.alloc (.cells #[.int .i64 11, .int .i64 t, .int .i64 a, .int .i64 b, .int .i64 v, .int .i64 n, .int .i64 mm, .slice P ln cp] 41)).alloc (.cells #[.int .i64 0, .int .i64 0, .slice none 0 0] 39)) 39).block (W' := w1) (hb1.block _ (by simp <;> omega))
  rw [World.size_alloc] at hr1
  rw [World.size_alloc, World.size_alloc] at hr2
  have HR1 := Lib.hid hr1
  have HR2 := Lib.hid hr2
  have HOC := Lib.hid hoc
  have HB1 := Lib.hid ((alc (alc (alc0 W _) _) _).trans (hb1.mono (by simp <;> omega)))
  have H1 := Lib.hid (H.out.below HB1.out)
  clear hb1 hr1 hr2 hoc
  go_upto_region 3 with (fail)
  obtain ⟨wb, hwb⟩ : ∃ wb, w1.alloc (.cells #[.int .i64 0, .int .i64 0, .int .i64 0, .int .i64 0, .int .i64 0] 52) = wb := ⟨_, rfl⟩
  have hbb : Below w1.heap.size w1 wb := by rw [← hwb]; exact alc0 _ _
  have hbc : YC w1.heap.size wb := by rw [← hwb]; exact yc_new _ _
  have hsb : wb.heap.size = w1.heap.size + 1 := by rw [← hwb]; exact World.size_alloc _ _
  rw [hwb]
  obtain ⟨x0, x1, x2, x3, x4, x5, x6, x7⟩ := HOC.out.block (hbb.block W.heap.size (by omega))
  have HRA := Lib.hid (HR1.out.block (hbb.block (W.heap.size + 1) (by omega)))
  have HRB := Lib.hid (HR2.out.block (hbb.block (W.heap.size + 1 + 1) (by omega)))
  have HBB := Lib.hid (thn HB1.out hbb)
  have HMB := Lib.hid (H1.out.below hbb)
  obtain ⟨b0, -⟩ := hbc 0 (by decide)
  obtain ⟨b1, -⟩ := hbc 1 (by decide)
  obtain ⟨b2, -⟩ := hbc 2 (by decide)
  obtain ⟨b3, -⟩ := hbc 3 (by decide)
  obtain ⟨b4, -⟩ := hbc 4 (by decide)
  clear hwb hbb hbc HOC HR1 HR2 HB1 H1
  go_wp2_with fail
  refine (mread0 _ n _).mono ?_
  rintro e w3 ⟨rfl, hb3⟩
  obtain ⟨⟨u0, u1, u2⟩, u3, u4, u5⟩ := HRA.out.block (W' := w3) (hb3.block (W.heap.size + 1) (by omega))
  obtain ⟨⟨v0, v1, v2⟩, v3, v4, v5⟩ := HRB.out.block (W' := w3) (hb3.block (W.heap.size + 1 + 1) (by omega))
  have HB3 := Lib.hid (thn HBB.out hb3)
  clear hb3
  go_wp2_with fail
  refine bodyPost_ret (v := .agg #[rE 7, .int .i64 0, .slice none 0 0]) (by simp [results, Try.results23, go_sem, u0, u1, u2, v0, v1, v2]) rfl ⟨rfl, ?_⟩
  exact HB3.out |>.setCell (p := ⟨W.heap.size + 1 + 1, 2, none⟩) (show W.heap.size ≤ W.heap.size + 1 + 1 by omega) _ |>.setCell (p := ⟨W.heap.size + 1 + 1, 0, none⟩) (show W.heap.size ≤ W.heap.size + 1 + 1 by omega) _ |>.setCell (p := ⟨W.heap.size + 1, 0, none⟩) (show W.heap.size ≤ W.heap.size + 1 by omega) _ |>.setCell (p := ⟨W.heap.size + 1, 1, none⟩) (show W.heap.size ≤ W.heap.size + 1 by omega) _ |>.setCell (p := ⟨W.heap.size + 1, 2, none⟩) (show W.heap.size ≤ W.heap.size + 1 by omega) _
set_option maxHeartbeats 400000 in
theorem mtell12 (t a b v n mm : Int) (P : Option Addr) (ln cp : Nat) (h : MO m mb r C md [] rs W) : Calls Try.prog 23 #[.pointer (some ⟨m, 0, none⟩), opv 12 t a b v n mm P ln cp] W fun e w' => e = .returned (.agg #[rE 7, .int .i64 0, .slice none 0 0]) ∧ Below W.heap.size W w' := by
  have H := Lib.hid h
  have hm := h.lt.1
  clear h
  go_enter Try.func23, Try.ntmps23
  go_wp2_with fail
  refine (mgetd b (H.out.below (alc (alc (alc0 W _) _) _))).mono ?_
  rintro e w1 ⟨rfl, hb1⟩
  have hs1 : W.heap.size + 3 ≤ w1.heap.size := by have := hb1.size; simpa using this
  have hoc := (oc_new (k := 12) (t := t) (a := a) (b := b) (v := v) (n := n) (mm := mm) (P := P) (ln := ln) (cp := cp) W 41).block (W' := w1) ((hb1.block _ (by simp <;> omega)).trans ((alc (alc0 _ _) _).block _ (by simp)))
  have hr1 := (rc_new (W.alloc (.cells #[.int .i64 12, .int .i64 t, .int .i64 a, .int .i64 b, .int .i64 v, .int .i64 n, .int .i64 mm, .slice P ln cp] 41)) 39).block (W' := w1) ((hb1.block _ (by simp <;> omega)).trans ((alc0 _ _).block _ (by simp)))
  have hr2 := (rc_new ((W.alloc (.cells #[.int .i64 12, .int .i64 t, .int .i64 a, .int .i64 b, .int .i64 v, .int .i64 n, .int .i64 mm, .slice P ln cp] 41)).alloc (.cells #[.int .i64 0, .int .i64 0, .slice none 0 0] 39)) 39).block (W' := w1) (hb1.block _ (by simp <;> omega))
  rw [World.size_alloc] at hr1
  rw [World.size_alloc, World.size_alloc] at hr2
  have HR1 := Lib.hid hr1
  have HR2 := Lib.hid hr2
  have HOC := Lib.hid hoc
  have HB1 := Lib.hid ((alc (alc (alc0 W _) _) _).trans (hb1.mono (by simp <;> omega)))
  have H1 := Lib.hid (H.out.below HB1.out)
  clear hb1 hr1 hr2 hoc
  go_upto_region 3 with (fail)
  obtain ⟨wb, hwb⟩ : ∃ wb, w1.alloc (.cells #[.int .i64 0, .int .i64 0, .int .i64 0, .int .i64 0, .int .i64 0] 52) = wb := ⟨_, rfl⟩
  have hbb : Below w1.heap.size w1 wb := by rw [← hwb]; exact alc0 _ _
  have hbc : YC w1.heap.size wb := by rw [← hwb]; exact yc_new _ _
  have hsb : wb.heap.size = w1.heap.size + 1 := by rw [← hwb]; exact World.size_alloc _ _
  rw [hwb]
  obtain ⟨x0, x1, x2, x3, x4, x5, x6, x7⟩ := HOC.out.block (hbb.block W.heap.size (by omega))
  have HRA := Lib.hid (HR1.out.block (hbb.block (W.heap.size + 1) (by omega)))
  have HRB := Lib.hid (HR2.out.block (hbb.block (W.heap.size + 1 + 1) (by omega)))
  have HBB := Lib.hid (thn HB1.out hbb)
  have HMB := Lib.hid (H1.out.below hbb)
  obtain ⟨b0, -⟩ := hbc 0 (by decide)
  obtain ⟨b1, -⟩ := hbc 1 (by decide)
  obtain ⟨b2, -⟩ := hbc 2 (by decide)
  obtain ⟨b3, -⟩ := hbc 3 (by decide)
  obtain ⟨b4, -⟩ := hbc 4 (by decide)
  clear hwb hbb hbc HOC HR1 HR2 HB1 H1
  go_wp2_with fail
  refine (mwrite0 _ P ln cp _).mono ?_
  rintro e w3 ⟨rfl, hb3⟩
  obtain ⟨⟨u0, u1, u2⟩, u3, u4, u5⟩ := HRA.out.block (W' := w3) (hb3.block (W.heap.size + 1) (by omega))
  obtain ⟨⟨v0, v1, v2⟩, v3, v4, v5⟩ := HRB.out.block (W' := w3) (hb3.block (W.heap.size + 1 + 1) (by omega))
  have HB3 := Lib.hid (thn HBB.out hb3)
  clear hb3
  go_wp2_with fail
  refine bodyPost_ret (v := .agg #[rE 7, .int .i64 0, .slice none 0 0]) (by simp [results, Try.results23, go_sem, u0, u1, u2, v0, v1, v2]) rfl ⟨rfl, ?_⟩
  exact HB3.out |>.setCell (p := ⟨W.heap.size + 1 + 1, 0, none⟩) (show W.heap.size ≤ W.heap.size + 1 + 1 by omega) _ |>.setCell (p := ⟨W.heap.size + 1, 0, none⟩) (show W.heap.size ≤ W.heap.size + 1 by omega) _ |>.setCell (p := ⟨W.heap.size + 1, 1, none⟩) (show W.heap.size ≤ W.heap.size + 1 by omega) _ |>.setCell (p := ⟨W.heap.size + 1, 2, none⟩) (show W.heap.size ≤ W.heap.size + 1 by omega) _
end
end Go.Proofs.Ytanmmhbnjmglhaa
