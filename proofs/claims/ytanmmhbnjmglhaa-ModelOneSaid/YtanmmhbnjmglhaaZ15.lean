/- MoI. -/
import Derived.Test.YtanmmhbnjmglhaaZ14
import Derived.Deep.RegionHeld3
namespace Go.Proofs.Ytanmmhbnjmglhaa
set_option maxRecDepth 100000
open Go.RowKit Go.ChangeMaps Go.MapKept
set_option linter.unusedVariables false
set_option linter.unusedSimpArgs false
theorem u8w {x : Int} (h : 0 ≤ x ∧ x ≤ 255) : IntKind.u8.wrap x = x := by rw [IntKind.wrap_u8]; omega
section
variable {m mb r : Nat} {C : Cf} {md : Nat} {rs : List Rf} {W : World}
set_option maxHeartbeats 1600000 in
theorem mcome1_err (t a b v n mm : Int) (P : Option Addr) (ln cp : Nat) (full : Bool) (he : askE C t n full ≠ 0) (h : MO m mb r C md [] rs W) : Calls Try.prog 24 #[.pointer (some ⟨m, 0, none⟩), opv 1 t a b v n mm P ln cp, .bool full] W fun e w' => e = .returned (.tuple #[z5, rE (askE C t n full)]) ∧ Below W.heap.size W w' := by
  have hmm := h.mp.lt
  have hr := h.lt.2.1
  have hfi := u8w h.ok.1.2.2
  have HE := Lib.hid he
  clear he
  have H := Lib.hid h
  have hm := h.lt.1
  clear h
  go_enter Try.func24, Try.ntmps24
  go_wp2_with fail
  refine (mgetd b (H.out.below (alc (alc0 W _) _))).mono ?_
  rintro e w1 ⟨rfl, hb1⟩
  have hoc := (oc_new (k := 1) (t := t) (a := a) (b := b) (v := v) (n := n) (mm := mm) (P := P) (ln := ln) (cp := cp) W 41).block (W' := w1) ((hb1.block _ (by simp <;> omega)).trans ((alc0 _ _).block _ (by simp)))
  have hyc := (yc_new (W.alloc (.cells #[.int .i64 1, .int .i64 t, .int .i64 a, .int .i64 b, .int .i64 v, .int .i64 n, .int .i64 mm, .slice P ln cp] 41)) 52).below (by simp) hb1
  rw [World.size_alloc] at hyc
  have HYC := Lib.hid hyc
  have HB1 := Lib.hid ((alc (alc0 W _) _).trans (hb1.mono (by simp <;> omega)))
  have H1 := Lib.hid (H.out.below HB1.out)
  have hs1 : W.heap.size + 2 ≤ w1.heap.size := by have := hb1.size; simpa using this
  have HOC := Lib.hid hoc
  clear hb1 hyc hoc
  go_upto_region 2 with (fail)
  obtain ⟨wb, hwb⟩ : ∃ wb, w1.alloc (.cells #[.int .i64 0, .int .i64 0, .int .i64 0, .int .i64 0, .int .i64 0] 52) = wb := ⟨_, rfl⟩
  have hbb : Below w1.heap.size w1 wb := by rw [← hwb]; exact alc0 _ _
  have hbc : YC w1.heap.size wb := by rw [← hwb]; exact yc_new _ _
  have hsb : wb.heap.size = w1.heap.size + 1 := by rw [← hwb]; exact World.size_alloc _ _
  rw [hwb]
  obtain ⟨x0, x1, x2, x3, x4, x5, x6, x7⟩ := HOC.out.block (hbb.block W.heap.size (by omega))
  have HYB := Lib.hid (HYC.out.block (hbb.block (W.heap.size + 1) (by omega)))
  have HBB := Lib.hid (thn HB1.out hbb)
  have HMB := Lib.hid (H1.out.below hbb)
  obtain ⟨b0, -⟩ := hbc 0 (by decide)
  obtain ⟨b1, -⟩ := hbc 1 (by decide)
  obtain ⟨b2, -⟩ := hbc 2 (by decide)
  obtain ⟨b3, -⟩ := hbc 3 (by decide)
  obtain ⟨b4, -⟩ := hbc 4 (by decide)
  clear hwb hbb hbc HOC HYC HB1 H1
  have c9 := HMB.out.cf.2.2.2.2.2.2.2.2.2.1
  go_upto_region 4 with (fail)
  refine wp_region_held_drew (S := fun w' => w'.cell? ⟨W.heap.size, 1, none⟩ = some (.int .i64 t) ∧ w'.cell? ⟨W.heap.size, 5, none⟩ = some (.int .i64 n) ∧ w'.cell? ⟨m, 9, none⟩ = some (.int .i64 C.fi)) (by kernel_rfl) ?_ (fun hHeld => ?_)
  · exact ⟨x1, x5, c9⟩
  refine wpAnyH_take (i := 0) (v := ?_) rfl (by kernel_rfl) (by kernel_rfl) (by kernel_rfl) (fun _ _ _ h => h) (Or.inl ⟨by kernel_rfl, ?_⟩) (by assumption) ?_
  rotate_left
  · (intro w hSw; (try dsimp only at hSw); go_simp)
    try (with_reducible rfl)
  rotate_left
  try simp (maxSteps := 4000000) only [Act.put, List.setIfInBounds_toArray, List.set_cons_zero, List.set_cons_succ, List.getElem_toArray, List.getElem_cons_zero, List.getElem_cons_succ]
  refine wpAnyH_take (i := 1) (v := ?_) rfl (by kernel_rfl) (by kernel_rfl) (by kernel_rfl) (fun _ _ _ h => h) (Or.inl ⟨by kernel_rfl, ?_⟩) (by assumption) ?_
  rotate_left
  · (intro w hSw; (try dsimp only at hSw); go_simp)
    try (with_reducible rfl)
  rotate_left
  try simp (maxSteps := 4000000) only [Act.put, List.setIfInBounds_toArray, List.set_cons_zero, List.set_cons_succ, List.getElem_toArray, List.getElem_cons_zero, List.getElem_cons_succ]
  refine wpAnyH_take (i := 2) (v := ?_) rfl (by kernel_rfl) (by kernel_rfl) (by kernel_rfl) (fun _ _ _ h => h) (Or.inl ⟨by kernel_rfl, ?_⟩) (by assumption) ?_
  rotate_left
  · (intro w hSw; (try dsimp only at hSw); go_simp)
    try (with_reducible rfl)
  rotate_left
  try simp (maxSteps := 4000000) only [Act.put, List.setIfInBounds_toArray, List.set_cons_zero, List.set_cons_succ, List.getElem_toArray, List.getElem_cons_zero, List.getElem_cons_succ]
  refine wpAnyH_take (i := 3) (v := ?_) rfl (by kernel_rfl) (by kernel_rfl) (by kernel_rfl) (fun _ _ _ h => h) (Or.inl ⟨by kernel_rfl, ?_⟩) (by assumption) ?_
  rotate_left
  · (intro w hSw; (try dsimp only at hSw); go_simp)
    try (with_reducible rfl)
  rotate_left
  try simp (maxSteps := 4000000) only [Act.put, List.setIfInBounds_toArray, List.set_cons_zero, List.set_cons_succ, List.getElem_toArray, List.getElem_cons_zero, List.getElem_cons_succ]
  refine wpAnyH_take (i := 4) (v := ?_) rfl (by kernel_rfl) (by kernel_rfl) (by kernel_rfl) (fun _ _ _ h => h) (Or.inl ⟨by kernel_rfl, ?_⟩) (by assumption) ?_
  rotate_left
  · (intro w hSw; (try dsimp only at hSw); go_simp)
    try (with_reducible rfl)
  rotate_left
  try simp (maxSteps := 4000000) only [Act.put, List.setIfInBounds_toArray, List.set_cons_zero, List.set_cons_succ, List.getElem_toArray, List.getElem_cons_zero, List.getElem_cons_succ]
  refine wpAnyH_take (i := 5) (v := ?_) rfl (by kernel_rfl) (by kernel_rfl) (by kernel_rfl) (fun _ _ _ h => h) (Or.inl ⟨by kernel_rfl, ?_⟩) (by assumption) ?_
  rotate_left
  · (intro w hSw; (try dsimp only at hSw); go_simp)
    try (with_reducible rfl)
  rotate_left
  try simp (maxSteps := 4000000) only [Act.put, List.setIfInBounds_toArray, List.set_cons_zero, List.set_cons_succ, List.getElem_toArray, List.getElem_cons_zero, List.getElem_cons_succ]
  refine wpAnyH_take (i := 6) (v := ?_) rfl (by kernel_rfl) (by kernel_rfl) (by kernel_rfl) (fun _ _ _ h => h) (Or.inl ⟨by kernel_rfl, ?_⟩) (by assumption) ?_
  rotate_left
  · (intro w hSw; (try dsimp only at hSw); go_simp)
    try (with_reducible rfl)
  rotate_left
  try simp (maxSteps := 4000000) only [Act.put, List.setIfInBounds_toArray, List.set_cons_zero, List.set_cons_succ, List.getElem_toArray, List.getElem_cons_zero, List.getElem_cons_succ]
  refine wpAnyH_take (i := 7) (v := ?_) rfl (by kernel_rfl) (by kernel_rfl) (by kernel_rfl) (fun _ _ _ h => h) (Or.inl ⟨by kernel_rfl, ?_⟩) (by assumption) ?_
  rotate_left
  · (intro w hSw; (try dsimp only at hSw); go_simp)
    try (with_reducible rfl)
  rotate_left
  try simp (maxSteps := 4000000) only [Act.put, List.setIfInBounds_toArray, List.set_cons_zero, List.set_cons_succ, List.getElem_toArray, List.getElem_cons_zero, List.getElem_cons_succ]
  refine wpAnyH_take (i := 8) (v := ?_) rfl (by kernel_rfl) (by kernel_rfl) (by kernel_rfl) (fun _ _ _ h => h) (Or.inl ⟨by kernel_rfl, ?_⟩) (by assumption) ?_
  rotate_left
  · (intro w hSw; (try dsimp only at hSw); go_simp)
    try (with_reducible rfl)
  rotate_left
  try simp (maxSteps := 4000000) only [Act.put, List.setIfInBounds_toArray, List.set_cons_zero, List.set_cons_succ, List.getElem_toArray, List.getElem_cons_zero, List.getElem_cons_succ]
  refine wpAnyH_take (i := 9) (v := ?_) rfl (by kernel_rfl) (by kernel_rfl) (by kernel_rfl) (fun _ _ _ h => h) (Or.inl ⟨by kernel_rfl, ?_⟩) (by assumption) ?_
  rotate_left
  · (intro w hSw; (try dsimp only at hSw); go_simp)
    try (with_reducible rfl)
  rotate_left
  try simp (maxSteps := 4000000) only [Act.put, List.setIfInBounds_toArray, List.set_cons_zero, List.set_cons_succ, List.getElem_toArray, List.getElem_cons_zero, List.getElem_cons_succ]
  refine wpAnyH_take (i := 10) (v := ?_) rfl (by kernel_rfl) (by kernel_rfl) (by kernel_rfl) (fun _ _ _ h => h) (Or.inl ⟨by kernel_rfl, ?_⟩) (by assumption) ?_
  rotate_left
  · (intro w hSw; (try dsimp only at hSw); go_simp)
    try (with_reducible rfl)
  rotate_left
  try simp (maxSteps := 4000000) only [Act.put, List.setIfInBounds_toArray, List.set_cons_zero, List.set_cons_succ, List.getElem_toArray, List.getElem_cons_zero, List.getElem_cons_succ]
  refine wpAnyH_take (i := 11) (v := ?_) rfl (by kernel_rfl) (by kernel_rfl) (by kernel_rfl) (fun _ _ _ h => h) (Or.inl ⟨by kernel_rfl, ?_⟩) (by assumption) ?_
  rotate_left
  · (intro w hSw; (try dsimp only at hSw); go_simp)
    try (with_reducible rfl)
  rotate_left
  try simp (maxSteps := 4000000) only [Act.put, List.setIfInBounds_toArray, List.set_cons_zero, List.set_cons_succ, List.getElem_toArray, List.getElem_cons_zero, List.getElem_cons_succ]
  refine wpAnyH_ready (rs := [12]) (by kernel_rfl) (by simp) ?_
  refine AllReadyH.cons rfl (fun K2 hK2 => ?_) AllReadyH.nil
  go_simp
  with_reducible refine Calls.mono (mget_err t 1 n C.fi full (HMB.out.below (Below.refl _ wb).drew) malB1 HE.out) ?_
  rintro e w3 ⟨rfl, hb3⟩
  have hyc3 := HYB.out.block (W' := w3) (hb3.block (W.heap.size + 1) (by show W.heap.size + 1 < wb.heap.size; omega))
  have eb := hb3.block W.heap.size (by show W.heap.size < wb.heap.size; omega)
  have em : w3.cell? ⟨m, 9, none⟩ = some (.int .i64 C.fi) := (hb3.cell (p := ⟨m, 9, none⟩) (by show m < wb.heap.size; omega)).trans c9
  have HB3 := Lib.hid (HBB.out.drew.trans (hb3.mono HBB.out.size))
  obtain ⟨y0, z0⟩ := hyc3 0 (by decide)
  obtain ⟨y1, z1⟩ := hyc3 1 (by decide)
  obtain ⟨y2, z2⟩ := hyc3 2 (by decide)
  obtain ⟨y3, z3⟩ := hyc3 3 (by decide)
  obtain ⟨y4, z4⟩ := hyc3 4 (by decide)
  have s1 : w3.cell? ⟨W.heap.size, 1, none⟩ = some (.int .i64 t) ∧ w3.cell? ⟨W.heap.size, 5, none⟩ = some (.int .i64 n) ∧ w3.cell? ⟨m, 9, none⟩ = some (.int .i64 C.fi) := ⟨(World.cell?_of_block eb).trans x1, (World.cell?_of_block eb).trans x5, em⟩
  clear hyc3 hb3
  refine hK2.out _ _ (s1) (fun hHeld2 => ?_)
  clear hK2 K2 hHeld
  have hHeld := hHeld2
  clear hHeld2
  try simp (maxSteps := 4000000) only [Act.put, List.setIfInBounds_toArray, List.set_cons_zero, List.set_cons_succ]
  refine wpAnyH_take (i := 13) (v := ?_) rfl (by kernel_rfl) (by kernel_rfl) (by kernel_rfl) (fun _ _ _ h => h) (Or.inl ⟨by kernel_rfl, ?_⟩) (by assumption) ?_
  rotate_left
  · (intro w hSw; (try dsimp only at hSw); go_simp)
    try (with_reducible rfl)
  rotate_left
  try simp (maxSteps := 4000000) only [Act.put, List.setIfInBounds_toArray, List.set_cons_zero, List.set_cons_succ, List.getElem_toArray, List.getElem_cons_zero, List.getElem_cons_succ]
  refine wpAnyH_take (i := 14) (v := ?_) rfl (by kernel_rfl) (by kernel_rfl) (by kernel_rfl) (fun _ _ _ h => h) (Or.inl ⟨by kernel_rfl, ?_⟩) (by assumption) ?_
  rotate_left
  · (intro w hSw; (try dsimp only at hSw); go_simp)
    try (with_reducible rfl)
  rotate_left
  try simp (maxSteps := 4000000) only [Act.put, List.setIfInBounds_toArray, List.set_cons_zero, List.set_cons_succ, List.getElem_toArray, List.getElem_cons_zero, List.getElem_cons_succ]
  refine wpAnyH_ready (rs := [15]) (by kernel_rfl) (by simp) ?_
  refine AllReadyH.cons rfl (fun K2 hK2 => ?_) AllReadyH.nil
  go_simp
  obtain ⟨w4, hw4⟩ : ∃ w4, w4 = (((((w3.setCell ⟨W.heap.size + 1, 0, none⟩ (.int .i64 0)).setCell ⟨W.heap.size + 1, 1, none⟩ (.int .i64 0)).setCell ⟨W.heap.size + 1, 2, none⟩ (.int .i64 0)).setCell ⟨W.heap.size + 1, 3, none⟩ (.int .i64 0)).setCell ⟨W.heap.size + 1, 4, none⟩ (.int .i64 0)) := ⟨_, rfl⟩
  obtain ⟨g1, g2, g3⟩ := set5 w3 (W.heap.size + 1) (.int .i64 0) (.int .i64 0) (.int .i64 0) (.int .i64 0) (.int .i64 0) w4 hw4
  rw [← hw4]
  have e4 : ∀ q : Nat, q ≠ W.heap.size + 1 → ∀ k o v, w3.cell? ⟨q, k, o⟩ = some v → w4.cell? ⟨q, k, o⟩ = some v := fun q hq k o v hv => (World.cell?_of_block (a := ⟨q, k, o⟩) (g2 q hq)).trans hv
  have s4 : w4.cell? ⟨W.heap.size, 1, none⟩ = some (.int .i64 t) ∧ w4.cell? ⟨W.heap.size, 5, none⟩ = some (.int .i64 n) ∧ w4.cell? ⟨m, 9, none⟩ = some (.int .i64 C.fi) := ⟨e4 W.heap.size (by omega) _ _ _ s1.1, e4 W.heap.size (by omega) _ _ _ s1.2.1, e4 m (by omega) _ _ _ s1.2.2⟩
  have q0 : w4.cell? ⟨W.heap.size + 1, 0, none⟩ = some (.int .i64 0) := by rw [hw4]; simp [go_sem, y0, y1, y2, y3, y4]
  have q1 : w4.cell? ⟨W.heap.size + 1, 1, none⟩ = some (.int .i64 0) := by rw [hw4]; simp [go_sem, y0, y1, y2, y3, y4]
  have q2 : w4.cell? ⟨W.heap.size + 1, 2, none⟩ = some (.int .i64 0) := by rw [hw4]; simp [go_sem, y0, y1, y2, y3, y4]
  have q3 : w4.cell? ⟨W.heap.size + 1, 3, none⟩ = some (.int .i64 0) := by rw [hw4]; simp [go_sem, y0, y1, y2, y3, y4]
  have q4 : w4.cell? ⟨W.heap.size + 1, 4, none⟩ = some (.int .i64 0) := by rw [hw4]; simp [go_sem, y0, y1, y2, y3, y4]
  clear hw4 e4
  refine hK2.out _ _ (s4) (fun hHeld2 => ?_)
  clear hK2 K2 hHeld
  have hHeld := hHeld2
  clear hHeld2
  try simp (maxSteps := 4000000) only [Act.put, List.setIfInBounds_toArray, List.set_cons_zero, List.set_cons_succ]
  refine wpAnyH_take (i := 16) (v := ?_) rfl (by kernel_rfl) (by kernel_rfl) (by kernel_rfl) (fun _ _ _ h => h) (Or.inl ⟨by kernel_rfl, ?_⟩) (by assumption) ?_
  rotate_left
  · (intro w hSw; (try dsimp only at hSw); go_simp)
    try (with_reducible rfl)
  rotate_left
  try simp (maxSteps := 4000000) only [Act.put, List.setIfInBounds_toArray, List.set_cons_zero, List.set_cons_succ, List.getElem_toArray, List.getElem_cons_zero, List.getElem_cons_succ]
  refine wpAnyH_done (by kernel_rfl) ?_ _
  go_wp2_with fail
  refine bodyPost_ret (v := .tuple #[z5, rE (askE C t n full)]) (by simp [results, Try.results24, go_sem, q0, q1, q2, q3, q4]) rfl ⟨rfl, ?_⟩
  exact HB3.out.trans (g3 _ (by omega))
set_option maxHeartbeats 1600000 in
theorem mcome1_ok (t a b v n mm : Int) (P : Option Addr) (ln cp : Nat) (full : Bool) (p : Nat) (hp : n = (p : Int)) (hmd9 : md < 1000) (he : askE C t p false = 0) (hfull : full = false) (h : MO m mb r C md [] rs W) : Calls Try.prog 24 #[.pointer (some ⟨m, 0, none⟩), opv 1 t a b v n mm P ln cp, .bool full] W fun e w' => e = .returned (.tuple #[.agg #[.int .i64 ((md : Int) + 1), .int .i64 0, .int .i64 (p : Int), .int .i64 0, .int .i64 31], rE 0]) ∧ GP m mb r C md [] rs p C.fi W w' := by
  subst hp
  subst hfull
  have hmm := h.mp.lt
  have hr := h.lt.2.1
  have hfi := u8w h.ok.1.2.2
  have HE := Lib.hid he
  clear he
  have H := Lib.hid h
  have hm := h.lt.1
  clear h
  go_enter Try.func24, Try.ntmps24
  go_wp2_with fail
  refine (mgetd b (H.out.below (alc (alc0 W _) _))).mono ?_
  rintro e w1 ⟨rfl, hb1⟩
  have hoc := (oc_new (k := 1) (t := t) (a := a) (b := b) (v := v) (n := (p : Int)) (mm := mm) (P := P) (ln := ln) (cp := cp) W 41).block (W' := w1) ((hb1.block _ (by simp <;> omega)).trans ((alc0 _ _).block _ (by simp)))
  have hyc := (yc_new (W.alloc (.cells #[.int .i64 1, .int .i64 t, .int .i64 a, .int .i64 b, .int .i64 v, .int .i64 (p : Int), .int .i64 mm, .slice P ln cp] 41)) 52).below (by simp) hb1
  rw [World.size_alloc] at hyc
  have HYC := Lib.hid hyc
  have HB1 := Lib.hid ((alc (alc0 W _) _).trans (hb1.mono (by simp <;> omega)))
  have H1 := Lib.hid (H.out.below HB1.out)
  have hs1 : W.heap.size + 2 ≤ w1.heap.size := by have := hb1.size; simpa using this
  have HOC := Lib.hid hoc
  clear hb1 hyc hoc
  go_upto_region 2 with (fail)
  obtain ⟨wb, hwb⟩ : ∃ wb, w1.alloc (.cells #[.int .i64 0, .int .i64 0, .int .i64 0, .int .i64 0, .int .i64 0] 52) = wb := ⟨_, rfl⟩
  have hbb : Below w1.heap.size w1 wb := by rw [← hwb]; exact alc0 _ _
  have hbc : YC w1.heap.size wb := by rw [← hwb]; exact yc_new _ _
  have hsb : wb.heap.size = w1.heap.size + 1 := by rw [← hwb]; exact World.size_alloc _ _
  rw [hwb]
  obtain ⟨x0, x1, x2, x3, x4, x5, x6, x7⟩ := HOC.out.block (hbb.block W.heap.size (by omega))
  have HYB := Lib.hid (HYC.out.block (hbb.block (W.heap.size + 1) (by omega)))
  have HBB := Lib.hid (thn HB1.out hbb)
  have HMB := Lib.hid (H1.out.below hbb)
  obtain ⟨b0, -⟩ := hbc 0 (by decide)
  obtain ⟨b1, -⟩ := hbc 1 (by decide)
  obtain ⟨b2, -⟩ := hbc 2 (by decide)
  obtain ⟨b3, -⟩ := hbc 3 (by decide)
  obtain ⟨b4, -⟩ := hbc 4 (by decide)
  clear hwb hbb hbc HOC HYC HB1 H1
  have c9 := HMB.out.cf.2.2.2.2.2.2.2.2.2.1
  go_upto_region 4 with (fail)
  refine wp_region_held_drew (S := fun w' => w'.cell? ⟨W.heap.size, 1, none⟩ = some (.int .i64 t) ∧ w'.cell? ⟨W.heap.size, 5, none⟩ = some (.int .i64 (p : Int)) ∧ w'.cell? ⟨m, 9, none⟩ = some (.int .i64 C.fi)) (by kernel_rfl) ?_ (fun hHeld => ?_)
  · exact ⟨x1, x5, c9⟩
  refine wpAnyH_take (i := 0) (v := ?_) rfl (by kernel_rfl) (by kernel_rfl) (by kernel_rfl) (fun _ _ _ h => h) (Or.inl ⟨by kernel_rfl, ?_⟩) (by assumption) ?_
  rotate_left
  · (intro w hSw; (try dsimp only at hSw); go_simp)
    try (with_reducible rfl)
  rotate_left
  try simp (maxSteps := 4000000) only [Act.put, List.setIfInBounds_toArray, List.set_cons_zero, List.set_cons_succ, List.getElem_toArray, List.getElem_cons_zero, List.getElem_cons_succ]
  refine wpAnyH_take (i := 1) (v := ?_) rfl (by kernel_rfl) (by kernel_rfl) (by kernel_rfl) (fun _ _ _ h => h) (Or.inl ⟨by kernel_rfl, ?_⟩) (by assumption) ?_
  rotate_left
  · (intro w hSw; (try dsimp only at hSw); go_simp)
    try (with_reducible rfl)
  rotate_left
  try simp (maxSteps := 4000000) only [Act.put, List.setIfInBounds_toArray, List.set_cons_zero, List.set_cons_succ, List.getElem_toArray, List.getElem_cons_zero, List.getElem_cons_succ]
  refine wpAnyH_take (i := 2) (v := ?_) rfl (by kernel_rfl) (by kernel_rfl) (by kernel_rfl) (fun _ _ _ h => h) (Or.inl ⟨by kernel_rfl, ?_⟩) (by assumption) ?_
  rotate_left
  · (intro w hSw; (try dsimp only at hSw); go_simp)
    try (with_reducible rfl)
  rotate_left
  try simp (maxSteps := 4000000) only [Act.put, List.setIfInBounds_toArray, List.set_cons_zero, List.set_cons_succ, List.getElem_toArray, List.getElem_cons_zero, List.getElem_cons_succ]
  refine wpAnyH_take (i := 3) (v := ?_) rfl (by kernel_rfl) (by kernel_rfl) (by kernel_rfl) (fun _ _ _ h => h) (Or.inl ⟨by kernel_rfl, ?_⟩) (by assumption) ?_
  rotate_left
  · (intro w hSw; (try dsimp only at hSw); go_simp)
    try (with_reducible rfl)
  rotate_left
  try simp (maxSteps := 4000000) only [Act.put, List.setIfInBounds_toArray, List.set_cons_zero, List.set_cons_succ, List.getElem_toArray, List.getElem_cons_zero, List.getElem_cons_succ]
  refine wpAnyH_take (i := 4) (v := ?_) rfl (by kernel_rfl) (by kernel_rfl) (by kernel_rfl) (fun _ _ _ h => h) (Or.inl ⟨by kernel_rfl, ?_⟩) (by assumption) ?_
  rotate_left
  · (intro w hSw; (try dsimp only at hSw); go_simp)
    try (with_reducible rfl)
  rotate_left
  try simp (maxSteps := 4000000) only [Act.put, List.setIfInBounds_toArray, List.set_cons_zero, List.set_cons_succ, List.getElem_toArray, List.getElem_cons_zero, List.getElem_cons_succ]
  refine wpAnyH_take (i := 5) (v := ?_) rfl (by kernel_rfl) (by kernel_rfl) (by kernel_rfl) (fun _ _ _ h => h) (Or.inl ⟨by kernel_rfl, ?_⟩) (by assumption) ?_
  rotate_left
  · (intro w hSw; (try dsimp only at hSw); go_simp)
    try (with_reducible rfl)
  rotate_left
  try simp (maxSteps := 4000000) only [Act.put, List.setIfInBounds_toArray, List.set_cons_zero, List.set_cons_succ, List.getElem_toArray, List.getElem_cons_zero, List.getElem_cons_succ]
  refine wpAnyH_take (i := 6) (v := ?_) rfl (by kernel_rfl) (by kernel_rfl) (by kernel_rfl) (fun _ _ _ h => h) (Or.inl ⟨by kernel_rfl, ?_⟩) (by assumption) ?_
  rotate_left
  · (intro w hSw; (try dsimp only at hSw); go_simp)
    try (with_reducible rfl)
  rotate_left
  try simp (maxSteps := 4000000) only [Act.put, List.setIfInBounds_toArray, List.set_cons_zero, List.set_cons_succ, List.getElem_toArray, List.getElem_cons_zero, List.getElem_cons_succ]
  refine wpAnyH_take (i := 7) (v := ?_) rfl (by kernel_rfl) (by kernel_rfl) (by kernel_rfl) (fun _ _ _ h => h) (Or.inl ⟨by kernel_rfl, ?_⟩) (by assumption) ?_
  rotate_left
  · (intro w hSw; (try dsimp only at hSw); go_simp)
    try (with_reducible rfl)
  rotate_left
  try simp (maxSteps := 4000000) only [Act.put, List.setIfInBounds_toArray, List.set_cons_zero, List.set_cons_succ, List.getElem_toArray, List.getElem_cons_zero, List.getElem_cons_succ]
  refine wpAnyH_take (i := 8) (v := ?_) rfl (by kernel_rfl) (by kernel_rfl) (by kernel_rfl) (fun _ _ _ h => h) (Or.inl ⟨by kernel_rfl, ?_⟩) (by assumption) ?_
  rotate_left
  · (intro w hSw; (try dsimp only at hSw); go_simp)
    try (with_reducible rfl)
  rotate_left
  try simp (maxSteps := 4000000) only [Act.put, List.setIfInBounds_toArray, List.set_cons_zero, List.set_cons_succ, List.getElem_toArray, List.getElem_cons_zero, List.getElem_cons_succ]
  refine wpAnyH_take (i := 9) (v := ?_) rfl (by kernel_rfl) (by kernel_rfl) (by kernel_rfl) (fun _ _ _ h => h) (Or.inl ⟨by kernel_rfl, ?_⟩) (by assumption) ?_
  rotate_left
  · (intro w hSw; (try dsimp only at hSw); go_simp)
    try (with_reducible rfl)
  rotate_left
  try simp (maxSteps := 4000000) only [Act.put, List.setIfInBounds_toArray, List.set_cons_zero, List.set_cons_succ, List.getElem_toArray, List.getElem_cons_zero, List.getElem_cons_succ]
  refine wpAnyH_take (i := 10) (v := ?_) rfl (by kernel_rfl) (by kernel_rfl) (by kernel_rfl) (fun _ _ _ h => h) (Or.inl ⟨by kernel_rfl, ?_⟩) (by assumption) ?_
  rotate_left
  · (intro w hSw; (try dsimp only at hSw); go_simp)
    try (with_reducible rfl)
  rotate_left
  try simp (maxSteps := 4000000) only [Act.put, List.setIfInBounds_toArray, List.set_cons_zero, List.set_cons_succ, List.getElem_toArray, List.getElem_cons_zero, List.getElem_cons_succ]
  refine wpAnyH_take (i := 11) (v := ?_) rfl (by kernel_rfl) (by kernel_rfl) (by kernel_rfl) (fun _ _ _ h => h) (Or.inl ⟨by kernel_rfl, ?_⟩) (by assumption) ?_
  rotate_left
  · (intro w hSw; (try dsimp only at hSw); go_simp)
    try (with_reducible rfl)
  rotate_left
  try simp (maxSteps := 4000000) only [Act.put, List.setIfInBounds_toArray, List.set_cons_zero, List.set_cons_succ, List.getElem_toArray, List.getElem_cons_zero, List.getElem_cons_succ]
  refine wpAnyH_ready (rs := [12]) (by kernel_rfl) (by simp) ?_
  refine AllReadyH.cons rfl (fun K2 hK2 => ?_) AllReadyH.nil
  go_simp
  with_reducible refine Calls.mono (mget_ok t 1 C.fi p (HMB.out.below (Below.refl _ wb).drew) (by simp) hmd9 malB1 HE.out) ?_
  rintro e w3 ⟨rfl, hgp⟩
  obtain ⟨hq9, hs9, hk9, hl9⟩ := hgp
  have hyc3 := HYB.out.block (W' := w3) (hk9 (W.heap.size + 1) (by show W.heap.size + 1 < wb.heap.size; omega) (by omega) (by omega))
  have eb := hk9 W.heap.size (by show W.heap.size < wb.heap.size; omega) (by omega) (by omega)
  have em : w3.cell? ⟨m, 9, none⟩ = some (.int .i64 C.fi) := by
    obtain ⟨q, d, kb, h1, -⟩ := hq9
    exact h1.cf.2.2.2.2.2.2.2.2.2.1
  have HGP := Lib.hid (show GP m mb r C md [] rs p C.fi wb.drew w3 from ⟨hq9, hs9, hk9, hl9⟩)
  obtain ⟨y0, z0⟩ := hyc3 0 (by decide)
  obtain ⟨y1, z1⟩ := hyc3 1 (by decide)
  obtain ⟨y2, z2⟩ := hyc3 2 (by decide)
  obtain ⟨y3, z3⟩ := hyc3 3 (by decide)
  obtain ⟨y4, z4⟩ := hyc3 4 (by decide)
  have s1 : w3.cell? ⟨W.heap.size, 1, none⟩ = some (.int .i64 t) ∧ w3.cell? ⟨W.heap.size, 5, none⟩ = some (.int .i64 (p : Int)) ∧ w3.cell? ⟨m, 9, none⟩ = some (.int .i64 C.fi) := ⟨(World.cell?_of_block eb).trans x1, (World.cell?_of_block eb).trans x5, em⟩
  clear hyc3 hq9 hs9 hk9 hl9
  refine hK2.out _ _ (s1) (fun hHeld2 => ?_)
  clear hK2 K2 hHeld
  have hHeld := hHeld2
  clear hHeld2
  try simp (maxSteps := 4000000) only [Act.put, List.setIfInBounds_toArray, List.set_cons_zero, List.set_cons_succ]
  refine wpAnyH_take (i := 13) (v := ?_) rfl (by kernel_rfl) (by kernel_rfl) (by kernel_rfl) (fun _ _ _ h => h) (Or.inl ⟨by kernel_rfl, ?_⟩) (by assumption) ?_
  rotate_left
  · (intro w hSw; (try dsimp only at hSw); go_simp)
    try (with_reducible rfl)
  rotate_left
  try simp (maxSteps := 4000000) only [Act.put, List.setIfInBounds_toArray, List.set_cons_zero, List.set_cons_succ, List.getElem_toArray, List.getElem_cons_zero, List.getElem_cons_succ]
  refine wpAnyH_take (i := 14) (v := ?_) rfl (by kernel_rfl) (by kernel_rfl) (by kernel_rfl) (fun _ _ _ h => h) (Or.inl ⟨by kernel_rfl, ?_⟩) (by assumption) ?_
  rotate_left
  · (intro w hSw; (try dsimp only at hSw); go_simp)
    try (with_reducible rfl)
  rotate_left
  try simp (maxSteps := 4000000) only [Act.put, List.setIfInBounds_toArray, List.set_cons_zero, List.set_cons_succ, List.getElem_toArray, List.getElem_cons_zero, List.getElem_cons_succ]
  refine wpAnyH_ready (rs := [15]) (by kernel_rfl) (by simp) ?_
  refine AllReadyH.cons rfl (fun K2 hK2 => ?_) AllReadyH.nil
  go_simp
  obtain ⟨w4, hw4⟩ : ∃ w4, w4 = (((((w3.setCell ⟨W.heap.size + 1, 0, none⟩ (.int .i64 ((md : Int) + 1))).setCell ⟨W.heap.size + 1, 1, none⟩ (.int .i64 0)).setCell ⟨W.heap.size + 1, 2, none⟩ (.int .i64 (p : Int))).setCell ⟨W.heap.size + 1, 3, none⟩ (.int .i64 0)).setCell ⟨W.heap.size + 1, 4, none⟩ (.int .i64 31)) := ⟨_, rfl⟩
  obtain ⟨g1, g2, g3⟩ := set5 w3 (W.heap.size + 1) (.int .i64 ((md : Int) + 1)) (.int .i64 0) (.int .i64 (p : Int)) (.int .i64 0) (.int .i64 31) w4 hw4
  rw [← hw4]
  have e4 : ∀ q : Nat, q ≠ W.heap.size + 1 → ∀ k o v, w3.cell? ⟨q, k, o⟩ = some v → w4.cell? ⟨q, k, o⟩ = some v := fun q hq k o v hv => (World.cell?_of_block (a := ⟨q, k, o⟩) (g2 q hq)).trans hv
  have s4 : w4.cell? ⟨W.heap.size, 1, none⟩ = some (.int .i64 t) ∧ w4.cell? ⟨W.heap.size, 5, none⟩ = some (.int .i64 (p : Int)) ∧ w4.cell? ⟨m, 9, none⟩ = some (.int .i64 C.fi) := ⟨e4 W.heap.size (by omega) _ _ _ s1.1, e4 W.heap.size (by omega) _ _ _ s1.2.1, e4 m (by omega) _ _ _ s1.2.2⟩
  have q0 : w4.cell? ⟨W.heap.size + 1, 0, none⟩ = some (.int .i64 ((md : Int) + 1)) := by rw [hw4]; simp [go_sem, y0, y1, y2, y3, y4]
  have q1 : w4.cell? ⟨W.heap.size + 1, 1, none⟩ = some (.int .i64 0) := by rw [hw4]; simp [go_sem, y0, y1, y2, y3, y4]
  have q2 : w4.cell? ⟨W.heap.size + 1, 2, none⟩ = some (.int .i64 (p : Int)) := by rw [hw4]; simp [go_sem, y0, y1, y2, y3, y4]
  have q3 : w4.cell? ⟨W.heap.size + 1, 3, none⟩ = some (.int .i64 0) := by rw [hw4]; simp [go_sem, y0, y1, y2, y3, y4]
  have q4 : w4.cell? ⟨W.heap.size + 1, 4, none⟩ = some (.int .i64 31) := by rw [hw4]; simp [go_sem, y0, y1, y2, y3, y4]
  clear hw4 e4
  refine hK2.out _ _ (s4) (fun hHeld2 => ?_)
  clear hK2 K2 hHeld
  have hHeld := hHeld2
  clear hHeld2
  try simp (maxSteps := 4000000) only [Act.put, List.setIfInBounds_toArray, List.set_cons_zero, List.set_cons_succ]
  refine wpAnyH_take (i := 16) (v := ?_) rfl (by kernel_rfl) (by kernel_rfl) (by kernel_rfl) (fun _ _ _ h => h) (Or.inl ⟨by kernel_rfl, ?_⟩) (by assumption) ?_
  rotate_left
  · (intro w hSw; (try dsimp only at hSw); go_simp)
    try (with_reducible rfl)
  rotate_left
  try simp (maxSteps := 4000000) only [Act.put, List.setIfInBounds_toArray, List.set_cons_zero, List.set_cons_succ, List.getElem_toArray, List.getElem_cons_zero, List.getElem_cons_succ]
  refine wpAnyH_done (by kernel_rfl) ?_ _
  go_wp2_with fail
  refine bodyPost_ret (v := .tuple #[.agg #[.int .i64 ((md : Int) + 1), .int .i64 0, .int .i64 (p : Int), .int .i64 0, .int .i64 31], rE 0]) (by simp [results, Try.results24, go_sem, q0, q1, q2, q3, q4]) rfl ⟨rfl, ?_⟩
  exact HGP.out.lift HBB.out.drew ⟨hm, hmm, hr⟩ (by omega) (by show W.heap.size + 1 < wb.heap.size; omega) g1 g2 (g3 _ (by omega))
set_option maxHeartbeats 1600000 in
theorem mcome3_err (t a b v n mm : Int) (P : Option Addr) (ln cp : Nat) (full : Bool) (ha : malB mm = true) (he : askE C t n full ≠ 0) (h : MO m mb r C md [] rs W) : Calls Try.prog 24 #[.pointer (some ⟨m, 0, none⟩), opv 3 t a b v n mm P ln cp, .bool full] W fun e w' => e = .returned (.tuple #[z5, rE (askE C t n full)]) ∧ Below W.heap.size W w' := by
  have hmm := h.mp.lt
  have hr := h.lt.2.1
  have hfi := u8w h.ok.1.2.2
  have HA := Lib.hid ha
  have HE := Lib.hid he
  clear he ha
  have H := Lib.hid h
  have hm := h.lt.1
  clear h
  go_enter Try.func24, Try.ntmps24
  go_wp2_with fail
  refine (mgetd b (H.out.below (alc (alc0 W _) _))).mono ?_
  rintro e w1 ⟨rfl, hb1⟩
  have hoc := (oc_new (k := 3) (t := t) (a := a) (b := b) (v := v) (n := n) (mm := mm) (P := P) (ln := ln) (cp := cp) W 41).block (W' := w1) ((hb1.block _ (by simp <;> omega)).trans ((alc0 _ _).block _ (by simp)))
  have hyc := (yc_new (W.alloc (.cells #[.int .i64 3, .int .i64 t, .int .i64 a, .int .i64 b, .int .i64 v, .int .i64 n, .int .i64 mm, .slice P ln cp] 41)) 52).below (by simp) hb1
  rw [World.size_alloc] at hyc
  have HYC := Lib.hid hyc
  have HB1 := Lib.hid ((alc (alc0 W _) _).trans (hb1.mono (by simp <;> omega)))
  have H1 := Lib.hid (H.out.below HB1.out)
  have hs1 : W.heap.size + 2 ≤ w1.heap.size := by have := hb1.size; simpa using this
  have HOC := Lib.hid hoc
  clear hb1 hyc hoc
  go_upto_region 2 with (fail)
  obtain ⟨wb, hwb⟩ : ∃ wb, w1.alloc (.cells #[.int .i64 0, .int .i64 0, .int .i64 0, .int .i64 0, .int .i64 0] 52) = wb := ⟨_, rfl⟩
  have hbb : Below w1.heap.size w1 wb := by rw [← hwb]; exact alc0 _ _
  have hbc : YC w1.heap.size wb := by rw [← hwb]; exact yc_new _ _
  have hsb : wb.heap.size = w1.heap.size + 1 := by rw [← hwb]; exact World.size_alloc _ _
  rw [hwb]
  obtain ⟨x0, x1, x2, x3, x4, x5, x6, x7⟩ := HOC.out.block (hbb.block W.heap.size (by omega))
  have HYB := Lib.hid (HYC.out.block (hbb.block (W.heap.size + 1) (by omega)))
  have HBB := Lib.hid (thn HB1.out hbb)
  have HMB := Lib.hid (H1.out.below hbb)
  obtain ⟨b0, -⟩ := hbc 0 (by decide)
  obtain ⟨b1, -⟩ := hbc 1 (by decide)
  obtain ⟨b2, -⟩ := hbc 2 (by decide)
  obtain ⟨b3, -⟩ := hbc 3 (by decide)
  obtain ⟨b4, -⟩ := hbc 4 (by decide)
  clear hwb hbb hbc HOC HYC HB1 H1
  have c9 := HMB.out.cf.2.2.2.2.2.2.2.2.2.1
  go_wp2_with fail
  refine (power_any mm wb (by have := pow_list HA.out; omega)).mono ?_
  have hpw : powB mm = true := by
    have h9 := HA.out
    unfold malB at h9
    simp at h9
    exact h9.1
  rw [hpw]
  rintro e wq ⟨rfl, rfl⟩
  have hm256 : ¬ mm > 256 := by have := pow_list HA.out; omega
  go_upto_region 10 with (fail)
  refine wp_region_held_drew (S := fun w' => w'.cell? ⟨W.heap.size, 1, none⟩ = some (.int .i64 t) ∧ w'.cell? ⟨W.heap.size, 5, none⟩ = some (.int .i64 n) ∧ w'.cell? ⟨m, 9, none⟩ = some (.int .i64 C.fi) ∧ w'.cell? ⟨W.heap.size, 6, none⟩ = some (.int .i64 mm)) (by kernel_rfl) ?_ (fun hHeld => ?_)
  · exact ⟨x1, x5, c9, x6⟩
  refine wpAnyH_take (i := 0) (v := ?_) rfl (by kernel_rfl) (by kernel_rfl) (by kernel_rfl) (fun _ _ _ h => h) (Or.inl ⟨by kernel_rfl, ?_⟩) (by assumption) ?_
  rotate_left
  · (intro w hSw; (try dsimp only at hSw); go_simp)
    try (with_reducible rfl)
  rotate_left
  try simp (maxSteps := 4000000) only [Act.put, List.setIfInBounds_toArray, List.set_cons_zero, List.set_cons_succ, List.getElem_toArray, List.getElem_cons_zero, List.getElem_cons_succ]
  refine wpAnyH_take (i := 1) (v := ?_) rfl (by kernel_rfl) (by kernel_rfl) (by kernel_rfl) (fun _ _ _ h => h) (Or.inl ⟨by kernel_rfl, ?_⟩) (by assumption) ?_
  rotate_left
  · (intro w hSw; (try dsimp only at hSw); go_simp)
    try (with_reducible rfl)
  rotate_left
  try simp (maxSteps := 4000000) only [Act.put, List.setIfInBounds_toArray, List.set_cons_zero, List.set_cons_succ, List.getElem_toArray, List.getElem_cons_zero, List.getElem_cons_succ]
  refine wpAnyH_take (i := 2) (v := ?_) rfl (by kernel_rfl) (by kernel_rfl) (by kernel_rfl) (fun _ _ _ h => h) (Or.inl ⟨by kernel_rfl, ?_⟩) (by assumption) ?_
  rotate_left
  · (intro w hSw; (try dsimp only at hSw); go_simp)
    try (with_reducible rfl)
  rotate_left
  try simp (maxSteps := 4000000) only [Act.put, List.setIfInBounds_toArray, List.set_cons_zero, List.set_cons_succ, List.getElem_toArray, List.getElem_cons_zero, List.getElem_cons_succ]
  refine wpAnyH_take (i := 3) (v := ?_) rfl (by kernel_rfl) (by kernel_rfl) (by kernel_rfl) (fun _ _ _ h => h) (Or.inl ⟨by kernel_rfl, ?_⟩) (by assumption) ?_
  rotate_left
  · (intro w hSw; (try dsimp only at hSw); go_simp)
    try (with_reducible rfl)
  rotate_left
  try simp (maxSteps := 4000000) only [Act.put, List.setIfInBounds_toArray, List.set_cons_zero, List.set_cons_succ, List.getElem_toArray, List.getElem_cons_zero, List.getElem_cons_succ]
  refine wpAnyH_take (i := 4) (v := ?_) rfl (by kernel_rfl) (by kernel_rfl) (by kernel_rfl) (fun _ _ _ h => h) (Or.inl ⟨by kernel_rfl, ?_⟩) (by assumption) ?_
  rotate_left
  · (intro w hSw; (try dsimp only at hSw); go_simp)
    try (with_reducible rfl)
  rotate_left
  try simp (maxSteps := 4000000) only [Act.put, List.setIfInBounds_toArray, List.set_cons_zero, List.set_cons_succ, List.getElem_toArray, List.getElem_cons_zero, List.getElem_cons_succ]
  refine wpAnyH_take (i := 5) (v := ?_) rfl (by kernel_rfl) (by kernel_rfl) (by kernel_rfl) (fun _ _ _ h => h) (Or.inl ⟨by kernel_rfl, ?_⟩) (by assumption) ?_
  rotate_left
  · (intro w hSw; (try dsimp only at hSw); go_simp)
    try (with_reducible rfl)
  rotate_left
  try simp (maxSteps := 4000000) only [Act.put, List.setIfInBounds_toArray, List.set_cons_zero, List.set_cons_succ, List.getElem_toArray, List.getElem_cons_zero, List.getElem_cons_succ]
  refine wpAnyH_take (i := 6) (v := ?_) rfl (by kernel_rfl) (by kernel_rfl) (by kernel_rfl) (fun _ _ _ h => h) (Or.inl ⟨by kernel_rfl, ?_⟩) (by assumption) ?_
  rotate_left
  · (intro w hSw; (try dsimp only at hSw); go_simp)
    try (with_reducible rfl)
  rotate_left
  try simp (maxSteps := 4000000) only [Act.put, List.setIfInBounds_toArray, List.set_cons_zero, List.set_cons_succ, List.getElem_toArray, List.getElem_cons_zero, List.getElem_cons_succ]
  refine wpAnyH_take (i := 7) (v := ?_) rfl (by kernel_rfl) (by kernel_rfl) (by kernel_rfl) (fun _ _ _ h => h) (Or.inl ⟨by kernel_rfl, ?_⟩) (by assumption) ?_
  rotate_left
  · (intro w hSw; (try dsimp only at hSw); go_simp)
    try (with_reducible rfl)
  rotate_left
  try simp (maxSteps := 4000000) only [Act.put, List.setIfInBounds_toArray, List.set_cons_zero, List.set_cons_succ, List.getElem_toArray, List.getElem_cons_zero, List.getElem_cons_succ]
  refine wpAnyH_take (i := 8) (v := ?_) rfl (by kernel_rfl) (by kernel_rfl) (by kernel_rfl) (fun _ _ _ h => h) (Or.inl ⟨by kernel_rfl, ?_⟩) (by assumption) ?_
  rotate_left
  · (intro w hSw; (try dsimp only at hSw); go_simp)
    try (with_reducible rfl)
  rotate_left
  try simp (maxSteps := 4000000) only [Act.put, List.setIfInBounds_toArray, List.set_cons_zero, List.set_cons_succ, List.getElem_toArray, List.getElem_cons_zero, List.getElem_cons_succ]
  refine wpAnyH_take (i := 9) (v := ?_) rfl (by kernel_rfl) (by kernel_rfl) (by kernel_rfl) (fun _ _ _ h => h) (Or.inl ⟨by kernel_rfl, ?_⟩) (by assumption) ?_
  rotate_left
  · (intro w hSw; (try dsimp only at hSw); go_simp)
    try (with_reducible rfl)
  rotate_left
  try simp (maxSteps := 4000000) only [Act.put, List.setIfInBounds_toArray, List.set_cons_zero, List.set_cons_succ, List.getElem_toArray, List.getElem_cons_zero, List.getElem_cons_succ]
  refine wpAnyH_take (i := 10) (v := ?_) rfl (by kernel_rfl) (by kernel_rfl) (by kernel_rfl) (fun _ _ _ h => h) (Or.inl ⟨by kernel_rfl, ?_⟩) (by assumption) ?_
  rotate_left
  · (intro w hSw; (try dsimp only at hSw); go_simp)
    try (with_reducible rfl)
  rotate_left
  try simp (maxSteps := 4000000) only [Act.put, List.setIfInBounds_toArray, List.set_cons_zero, List.set_cons_succ, List.getElem_toArray, List.getElem_cons_zero, List.getElem_cons_succ]
  refine wpAnyH_take (i := 11) (v := ?_) rfl (by kernel_rfl) (by kernel_rfl) (by kernel_rfl) (fun _ _ _ h => h) (Or.inl ⟨by kernel_rfl, ?_⟩) (by assumption) ?_
  rotate_left
  · (intro w hSw; (try dsimp only at hSw); go_simp)
    try (with_reducible rfl)
  rotate_left
  try simp (maxSteps := 4000000) only [Act.put, List.setIfInBounds_toArray, List.set_cons_zero, List.set_cons_succ, List.getElem_toArray, List.getElem_cons_zero, List.getElem_cons_succ]
  refine wpAnyH_take (i := 12) (v := ?_) rfl (by kernel_rfl) (by kernel_rfl) (by kernel_rfl) (fun _ _ _ h => h) (Or.inl ⟨by kernel_rfl, ?_⟩) (by assumption) ?_
  rotate_left
  · (intro w hSw; (try dsimp only at hSw); go_simp)
    try (with_reducible rfl)
  rotate_left
  try simp (maxSteps := 4000000) only [Act.put, List.setIfInBounds_toArray, List.set_cons_zero, List.set_cons_succ, List.getElem_toArray, List.getElem_cons_zero, List.getElem_cons_succ]
  refine wpAnyH_take (i := 13) (v := ?_) rfl (by kernel_rfl) (by kernel_rfl) (by kernel_rfl) (fun _ _ _ h => h) (Or.inl ⟨by kernel_rfl, ?_⟩) (by assumption) ?_
  rotate_left
  · (intro w hSw; (try dsimp only at hSw); go_simp)
    try (with_reducible rfl)
  rotate_left
  try simp (maxSteps := 4000000) only [Act.put, List.setIfInBounds_toArray, List.set_cons_zero, List.set_cons_succ, List.getElem_toArray, List.getElem_cons_zero, List.getElem_cons_succ]
  refine wpAnyH_ready (rs := [14]) (by kernel_rfl) (by simp) ?_
  refine AllReadyH.cons rfl (fun K2 hK2 => ?_) AllReadyH.nil
  go_simp
  with_reducible refine Calls.mono (mget_err t mm n C.fi full (HMB.out.below (Below.refl _ wb).drew) HA.out HE.out) ?_
  rintro e w3 ⟨rfl, hb3⟩
  have hyc3 := HYB.out.block (W' := w3) (hb3.block (W.heap.size + 1) (by show W.heap.size + 1 < wb.heap.size; omega))
  have eb := hb3.block W.heap.size (by show W.heap.size < wb.heap.size; omega)
  have em : w3.cell? ⟨m, 9, none⟩ = some (.int .i64 C.fi) := (hb3.cell (p := ⟨m, 9, none⟩) (by show m < wb.heap.size; omega)).trans c9
  have HB3 := Lib.hid (HBB.out.drew.trans (hb3.mono HBB.out.size))
  obtain ⟨y0, z0⟩ := hyc3 0 (by decide)
  obtain ⟨y1, z1⟩ := hyc3 1 (by decide)
  obtain ⟨y2, z2⟩ := hyc3 2 (by decide)
  obtain ⟨y3, z3⟩ := hyc3 3 (by decide)
  obtain ⟨y4, z4⟩ := hyc3 4 (by decide)
  have s1 : w3.cell? ⟨W.heap.size, 1, none⟩ = some (.int .i64 t) ∧ w3.cell? ⟨W.heap.size, 5, none⟩ = some (.int .i64 n) ∧ w3.cell? ⟨m, 9, none⟩ = some (.int .i64 C.fi) ∧ w3.cell? ⟨W.heap.size, 6, none⟩ = some (.int .i64 mm) := ⟨(World.cell?_of_block eb).trans x1, (World.cell?_of_block eb).trans x5, em, (World.cell?_of_block eb).trans x6⟩
  clear hyc3 hb3
  refine hK2.out _ _ (s1) (fun hHeld2 => ?_)
  clear hK2 K2 hHeld
  have hHeld := hHeld2
  clear hHeld2
  try simp (maxSteps := 4000000) only [Act.put, List.setIfInBounds_toArray, List.set_cons_zero, List.set_cons_succ]
  refine wpAnyH_take (i := 15) (v := ?_) rfl (by kernel_rfl) (by kernel_rfl) (by kernel_rfl) (fun _ _ _ h => h) (Or.inl ⟨by kernel_rfl, ?_⟩) (by assumption) ?_
  rotate_left
  · (intro w hSw; (try dsimp only at hSw); go_simp)
    try (with_reducible rfl)
  rotate_left
  try simp (maxSteps := 4000000) only [Act.put, List.setIfInBounds_toArray, List.set_cons_zero, List.set_cons_succ, List.getElem_toArray, List.getElem_cons_zero, List.getElem_cons_succ]
  refine wpAnyH_take (i := 16) (v := ?_) rfl (by kernel_rfl) (by kernel_rfl) (by kernel_rfl) (fun _ _ _ h => h) (Or.inl ⟨by kernel_rfl, ?_⟩) (by assumption) ?_
  rotate_left
  · (intro w hSw; (try dsimp only at hSw); go_simp)
    try (with_reducible rfl)
  rotate_left
  try simp (maxSteps := 4000000) only [Act.put, List.setIfInBounds_toArray, List.set_cons_zero, List.set_cons_succ, List.getElem_toArray, List.getElem_cons_zero, List.getElem_cons_succ]
  refine wpAnyH_ready (rs := [17]) (by kernel_rfl) (by simp) ?_
  refine AllReadyH.cons rfl (fun K2 hK2 => ?_) AllReadyH.nil
  go_simp
  obtain ⟨w4, hw4⟩ : ∃ w4, w4 = (((((w3.setCell ⟨W.heap.size + 1, 0, none⟩ (.int .i64 0)).setCell ⟨W.heap.size + 1, 1, none⟩ (.int .i64 0)).setCell ⟨W.heap.size + 1, 2, none⟩ (.int .i64 0)).setCell ⟨W.heap.size + 1, 3, none⟩ (.int .i64 0)).setCell ⟨W.heap.size + 1, 4, none⟩ (.int .i64 0)) := ⟨_, rfl⟩
  obtain ⟨g1, g2, g3⟩ := set5 w3 (W.heap.size + 1) (.int .i64 0) (.int .i64 0) (.int .i64 0) (.int .i64 0) (.int .i64 0) w4 hw4
  rw [← hw4]
  have e4 : ∀ q : Nat, q ≠ W.heap.size + 1 → ∀ k o v, w3.cell? ⟨q, k, o⟩ = some v → w4.cell? ⟨q, k, o⟩ = some v := fun q hq k o v hv => (World.cell?_of_block (a := ⟨q, k, o⟩) (g2 q hq)).trans hv
  have s4 : w4.cell? ⟨W.heap.size, 1, none⟩ = some (.int .i64 t) ∧ w4.cell? ⟨W.heap.size, 5, none⟩ = some (.int .i64 n) ∧ w4.cell? ⟨m, 9, none⟩ = some (.int .i64 C.fi) ∧ w4.cell? ⟨W.heap.size, 6, none⟩ = some (.int .i64 mm) := ⟨e4 W.heap.size (by omega) _ _ _ s1.1, e4 W.heap.size (by omega) _ _ _ s1.2.1, e4 m (by omega) _ _ _ s1.2.2.1, e4 W.heap.size (by omega) _ _ _ s1.2.2.2⟩
  have q0 : w4.cell? ⟨W.heap.size + 1, 0, none⟩ = some (.int .i64 0) := by rw [hw4]; simp [go_sem, y0, y1, y2, y3, y4]
  have q1 : w4.cell? ⟨W.heap.size + 1, 1, none⟩ = some (.int .i64 0) := by rw [hw4]; simp [go_sem, y0, y1, y2, y3, y4]
  have q2 : w4.cell? ⟨W.heap.size + 1, 2, none⟩ = some (.int .i64 0) := by rw [hw4]; simp [go_sem, y0, y1, y2, y3, y4]
  have q3 : w4.cell? ⟨W.heap.size + 1, 3, none⟩ = some (.int .i64 0) := by rw [hw4]; simp [go_sem, y0, y1, y2, y3, y4]
  have q4 : w4.cell? ⟨W.heap.size + 1, 4, none⟩ = some (.int .i64 0) := by rw [hw4]; simp [go_sem, y0, y1, y2, y3, y4]
  clear hw4 e4
  refine hK2.out _ _ (s4) (fun hHeld2 => ?_)
  clear hK2 K2 hHeld
  have hHeld := hHeld2
  clear hHeld2
  try simp (maxSteps := 4000000) only [Act.put, List.setIfInBounds_toArray, List.set_cons_zero, List.set_cons_succ]
  refine wpAnyH_take (i := 18) (v := ?_) rfl (by kernel_rfl) (by kernel_rfl) (by kernel_rfl) (fun _ _ _ h => h) (Or.inl ⟨by kernel_rfl, ?_⟩) (by assumption) ?_
  rotate_left
  · (intro w hSw; (try dsimp only at hSw); go_simp)
    try (with_reducible rfl)
  rotate_left
  try simp (maxSteps := 4000000) only [Act.put, List.setIfInBounds_toArray, List.set_cons_zero, List.set_cons_succ, List.getElem_toArray, List.getElem_cons_zero, List.getElem_cons_succ]
  refine wpAnyH_done (by kernel_rfl) ?_ _
  go_wp2_with fail
  refine bodyPost_ret (v := .tuple #[z5, rE (askE C t n full)]) (by simp [results, Try.results24, go_sem, q0, q1, q2, q3, q4]) rfl ⟨rfl, ?_⟩
  exact HB3.out.trans (g3 _ (by omega))
set_option maxHeartbeats 1600000 in
theorem mcome3_ok (t a b v n mm : Int) (P : Option Addr) (ln cp : Nat) (full : Bool) (p : Nat) (hp : n = (p : Int)) (ha : malB mm = true) (hmd9 : md < 1000) (he : askE C t p false = 0) (hfull : full = false) (h : MO m mb r C md [] rs W) : Calls Try.prog 24 #[.pointer (some ⟨m, 0, none⟩), opv 3 t a b v n mm P ln cp, .bool full] W fun e w' => e = .returned (.tuple #[.agg #[.int .i64 ((md : Int) + 1), .int .i64 0, .int .i64 (p : Int), .int .i64 0, .int .i64 31], rE 0]) ∧ GP m mb r C md [] rs p C.fi W w' := by
  subst hp
  subst hfull
  have hmm := h.mp.lt
  have hr := h.lt.2.1
  have hfi := u8w h.ok.1.2.2
  have HA := Lib.hid ha
  have HE := Lib.hid he
  clear he ha
  have H := Lib.hid h
  have hm := h.lt.1
  clear h
  go_enter Try.func24, Try.ntmps24
  go_wp2_with fail
  refine (mgetd b (H.out.below (alc (alc0 W _) _))).mono ?_
  rintro e w1 ⟨rfl, hb1⟩
  have hoc := (oc_new (k := 3) (t := t) (a := a) (b := b) (v := v) (n := (p : Int)) (mm := mm) (P := P) (ln := ln) (cp := cp) W 41).block (W' := w1) ((hb1.block _ (by simp <;> omega)).trans ((alc0 _ _).block _ (by simp)))
  have hyc := (yc_new (W.alloc (.cells #[.int .i64 3, .int .i64 t, .int .i64 a, .int .i64 b, .int .i64 v, .int .i64 (p : Int), .int .i64 mm, .slice P ln cp] 41)) 52).below (by simp) hb1
  rw [World.size_alloc] at hyc
  have HYC := Lib.hid hyc
  have HB1 := Lib.hid ((alc (alc0 W _) _).trans (hb1.mono (by simp <;> omega)))
  have H1 := Lib.hid (H.out.below HB1.out)
  have hs1 : W.heap.size + 2 ≤ w1.heap.size := by have := hb1.size; simpa using this
  have HOC := Lib.hid hoc
  clear hb1 hyc hoc
  go_upto_region 2 with (fail)
  obtain ⟨wb, hwb⟩ : ∃ wb, w1.alloc (.cells #[.int .i64 0, .int .i64 0, .int .i64 0, .int .i64 0, .int .i64 0] 52) = wb := ⟨_, rfl⟩
  have hbb : Below w1.heap.size w1 wb := by rw [← hwb]; exact alc0 _ _
  have hbc : YC w1.heap.size wb := by rw [← hwb]; exact yc_new _ _
  have hsb : wb.heap.size = w1.heap.size + 1 := by rw [← hwb]; exact World.size_alloc _ _
  rw [hwb]
  obtain ⟨x0, x1, x2, x3, x4, x5, x6, x7⟩ := HOC.out.block (hbb.block W.heap.size (by omega))
  have HYB := Lib.hid (HYC.out.block (hbb.block (W.heap.size + 1) (by omega)))
  have HBB := Lib.hid (thn HB1.out hbb)
  have HMB := Lib.hid (H1.out.below hbb)
  obtain ⟨b0, -⟩ := hbc 0 (by decide)
  obtain ⟨b1, -⟩ := hbc 1 (by decide)
  obtain ⟨b2, -⟩ := hbc 2 (by decide)
  obtain ⟨b3, -⟩ := hbc 3 (by decide)
  obtain ⟨b4, -⟩ := hbc 4 (by decide)
  clear hwb hbb hbc HOC HYC HB1 H1
  have c9 := HMB.out.cf.2.2.2.2.2.2.2.2.2.1
  go_wp2_with fail
  refine (power_any mm wb (by have := pow_list HA.out; omega)).mono ?_
  have hpw : powB mm = true := by
    have h9 := HA.out
    unfold malB at h9
    simp at h9
    exact h9.1
  rw [hpw]
  rintro e wq ⟨rfl, rfl⟩
  have hm256 : ¬ mm > 256 := by have := pow_list HA.out; omega
  go_upto_region 10 with (fail)
  refine wp_region_held_drew (S := fun w' => w'.cell? ⟨W.heap.size, 1, none⟩ = some (.int .i64 t) ∧ w'.cell? ⟨W.heap.size, 5, none⟩ = some (.int .i64 (p : Int)) ∧ w'.cell? ⟨m, 9, none⟩ = some (.int .i64 C.fi) ∧ w'.cell? ⟨W.heap.size, 6, none⟩ = some (.int .i64 mm)) (by kernel_rfl) ?_ (fun hHeld => ?_)
  · exact ⟨x1, x5, c9, x6⟩
  refine wpAnyH_take (i := 0) (v := ?_) rfl (by kernel_rfl) (by kernel_rfl) (by kernel_rfl) (fun _ _ _ h => h) (Or.inl ⟨by kernel_rfl, ?_⟩) (by assumption) ?_
  rotate_left
  · (intro w hSw; (try dsimp only at hSw); go_simp)
    try (with_reducible rfl)
  rotate_left
  try simp (maxSteps := 4000000) only [Act.put, List.setIfInBounds_toArray, List.set_cons_zero, List.set_cons_succ, List.getElem_toArray, List.getElem_cons_zero, List.getElem_cons_succ]
  refine wpAnyH_take (i := 1) (v := ?_) rfl (by kernel_rfl) (by kernel_rfl) (by kernel_rfl) (fun _ _ _ h => h) (Or.inl ⟨by kernel_rfl, ?_⟩) (by assumption) ?_
  rotate_left
  · (intro w hSw; (try dsimp only at hSw); go_simp)
    try (with_reducible rfl)
  rotate_left
  try simp (maxSteps := 4000000) only [Act.put, List.setIfInBounds_toArray, List.set_cons_zero, List.set_cons_succ, List.getElem_toArray, List.getElem_cons_zero, List.getElem_cons_succ]
  refine wpAnyH_take (i := 2) (v := ?_) rfl (by kernel_rfl) (by kernel_rfl) (by kernel_rfl) (fun _ _ _ h => h) (Or.inl ⟨by kernel_rfl, ?_⟩) (by assumption) ?_
  rotate_left
  · (intro w hSw; (try dsimp only at hSw); go_simp)
    try (with_reducible rfl)
  rotate_left
  try simp (maxSteps := 4000000) only [Act.put, List.setIfInBounds_toArray, List.set_cons_zero, List.set_cons_succ, List.getElem_toArray, List.getElem_cons_zero, List.getElem_cons_succ]
  refine wpAnyH_take (i := 3) (v := ?_) rfl (by kernel_rfl) (by kernel_rfl) (by kernel_rfl) (fun _ _ _ h => h) (Or.inl ⟨by kernel_rfl, ?_⟩) (by assumption) ?_
  rotate_left
  · (intro w hSw; (try dsimp only at hSw); go_simp)
    try (with_reducible rfl)
  rotate_left
  try simp (maxSteps := 4000000) only [Act.put, List.setIfInBounds_toArray, List.set_cons_zero, List.set_cons_succ, List.getElem_toArray, List.getElem_cons_zero, List.getElem_cons_succ]
  refine wpAnyH_take (i := 4) (v := ?_) rfl (by kernel_rfl) (by kernel_rfl) (by kernel_rfl) (fun _ _ _ h => h) (Or.inl ⟨by kernel_rfl, ?_⟩) (by assumption) ?_
  rotate_left
  · (intro w hSw; (try dsimp only at hSw); go_simp)
    try (with_reducible rfl)
  rotate_left
  try simp (maxSteps := 4000000) only [Act.put, List.setIfInBounds_toArray, List.set_cons_zero, List.set_cons_succ, List.getElem_toArray, List.getElem_cons_zero, List.getElem_cons_succ]
  refine wpAnyH_take (i := 5) (v := ?_) rfl (by kernel_rfl) (by kernel_rfl) (by kernel_rfl) (fun _ _ _ h => h) (Or.inl ⟨by kernel_rfl, ?_⟩) (by assumption) ?_
  rotate_left
  · (intro w hSw; (try dsimp only at hSw); go_simp)
    try (with_reducible rfl)
  rotate_left
  try simp (maxSteps := 4000000) only [Act.put, List.setIfInBounds_toArray, List.set_cons_zero, List.set_cons_succ, List.getElem_toArray, List.getElem_cons_zero, List.getElem_cons_succ]
  refine wpAnyH_take (i := 6) (v := ?_) rfl (by kernel_rfl) (by kernel_rfl) (by kernel_rfl) (fun _ _ _ h => h) (Or.inl ⟨by kernel_rfl, ?_⟩) (by assumption) ?_
  rotate_left
  · (intro w hSw; (try dsimp only at hSw); go_simp)
    try (with_reducible rfl)
  rotate_left
  try simp (maxSteps := 4000000) only [Act.put, List.setIfInBounds_toArray, List.set_cons_zero, List.set_cons_succ, List.getElem_toArray, List.getElem_cons_zero, List.getElem_cons_succ]
  refine wpAnyH_take (i := 7) (v := ?_) rfl (by kernel_rfl) (by kernel_rfl) (by kernel_rfl) (fun _ _ _ h => h) (Or.inl ⟨by kernel_rfl, ?_⟩) (by assumption) ?_
  rotate_left
  · (intro w hSw; (try dsimp only at hSw); go_simp)
    try (with_reducible rfl)
  rotate_left
  try simp (maxSteps := 4000000) only [Act.put, List.setIfInBounds_toArray, List.set_cons_zero, List.set_cons_succ, List.getElem_toArray, List.getElem_cons_zero, List.getElem_cons_succ]
  refine wpAnyH_take (i := 8) (v := ?_) rfl (by kernel_rfl) (by kernel_rfl) (by kernel_rfl) (fun _ _ _ h => h) (Or.inl ⟨by kernel_rfl, ?_⟩) (by assumption) ?_
  rotate_left
  · (intro w hSw; (try dsimp only at hSw); go_simp)
    try (with_reducible rfl)
  rotate_left
  try simp (maxSteps := 4000000) only [Act.put, List.setIfInBounds_toArray, List.set_cons_zero, List.set_cons_succ, List.getElem_toArray, List.getElem_cons_zero, List.getElem_cons_succ]
  refine wpAnyH_take (i := 9) (v := ?_) rfl (by kernel_rfl) (by kernel_rfl) (by kernel_rfl) (fun _ _ _ h => h) (Or.inl ⟨by kernel_rfl, ?_⟩) (by assumption) ?_
  rotate_left
  · (intro w hSw; (try dsimp only at hSw); go_simp)
    try (with_reducible rfl)
  rotate_left
  try simp (maxSteps := 4000000) only [Act.put, List.setIfInBounds_toArray, List.set_cons_zero, List.set_cons_succ, List.getElem_toArray, List.getElem_cons_zero, List.getElem_cons_succ]
  refine wpAnyH_take (i := 10) (v := ?_) rfl (by kernel_rfl) (by kernel_rfl) (by kernel_rfl) (fun _ _ _ h => h) (Or.inl ⟨by kernel_rfl, ?_⟩) (by assumption) ?_
  rotate_left
  · (intro w hSw; (try dsimp only at hSw); go_simp)
    try (with_reducible rfl)
  rotate_left
  try simp (maxSteps := 4000000) only [Act.put, List.setIfInBounds_toArray, List.set_cons_zero, List.set_cons_succ, List.getElem_toArray, List.getElem_cons_zero, List.getElem_cons_succ]
  refine wpAnyH_take (i := 11) (v := ?_) rfl (by kernel_rfl) (by kernel_rfl) (by kernel_rfl) (fun _ _ _ h => h) (Or.inl ⟨by kernel_rfl, ?_⟩) (by assumption) ?_
  rotate_left
  · (intro w hSw; (try dsimp only at hSw); go_simp)
    try (with_reducible rfl)
  rotate_left
  try simp (maxSteps := 4000000) only [Act.put, List.setIfInBounds_toArray, List.set_cons_zero, List.set_cons_succ, List.getElem_toArray, List.getElem_cons_zero, List.getElem_cons_succ]
  refine wpAnyH_take (i := 12) (v := ?_) rfl (by kernel_rfl) (by kernel_rfl) (by kernel_rfl) (fun _ _ _ h => h) (Or.inl ⟨by kernel_rfl, ?_⟩) (by assumption) ?_
  rotate_left
  · (intro w hSw; (try dsimp only at hSw); go_simp)
    try (with_reducible rfl)
  rotate_left
  try simp (maxSteps := 4000000) only [Act.put, List.setIfInBounds_toArray, List.set_cons_zero, List.set_cons_succ, List.getElem_toArray, List.getElem_cons_zero, List.getElem_cons_succ]
  refine wpAnyH_take (i := 13) (v := ?_) rfl (by kernel_rfl) (by kernel_rfl) (by kernel_rfl) (fun _ _ _ h => h) (Or.inl ⟨by kernel_rfl, ?_⟩) (by assumption) ?_
  rotate_left
  · (intro w hSw; (try dsimp only at hSw); go_simp)
    try (with_reducible rfl)
  rotate_left
  try simp (maxSteps := 4000000) only [Act.put, List.setIfInBounds_toArray, List.set_cons_zero, List.set_cons_succ, List.getElem_toArray, List.getElem_cons_zero, List.getElem_cons_succ]
  refine wpAnyH_ready (rs := [14]) (by kernel_rfl) (by simp) ?_
  refine AllReadyH.cons rfl (fun K2 hK2 => ?_) AllReadyH.nil
  go_simp
  with_reducible refine Calls.mono (mget_ok t mm C.fi p (HMB.out.below (Below.refl _ wb).drew) (by simp) hmd9 HA.out HE.out) ?_
  rintro e w3 ⟨rfl, hgp⟩
  obtain ⟨hq9, hs9, hk9, hl9⟩ := hgp
  have hyc3 := HYB.out.block (W' := w3) (hk9 (W.heap.size + 1) (by show W.heap.size + 1 < wb.heap.size; omega) (by omega) (by omega))
  have eb := hk9 W.heap.size (by show W.heap.size < wb.heap.size; omega) (by omega) (by omega)
  have em : w3.cell? ⟨m, 9, none⟩ = some (.int .i64 C.fi) := by
    obtain ⟨q, d, kb, h1, -⟩ := hq9
    exact h1.cf.2.2.2.2.2.2.2.2.2.1
  have HGP := Lib.hid (show GP m mb r C md [] rs p C.fi wb.drew w3 from ⟨hq9, hs9, hk9, hl9⟩)
  obtain ⟨y0, z0⟩ := hyc3 0 (by decide)
  obtain ⟨y1, z1⟩ := hyc3 1 (by decide)
  obtain ⟨y2, z2⟩ := hyc3 2 (by decide)
  obtain ⟨y3, z3⟩ := hyc3 3 (by decide)
  obtain ⟨y4, z4⟩ := hyc3 4 (by decide)
  have s1 : w3.cell? ⟨W.heap.size, 1, none⟩ = some (.int .i64 t) ∧ w3.cell? ⟨W.heap.size, 5, none⟩ = some (.int .i64 (p : Int)) ∧ w3.cell? ⟨m, 9, none⟩ = some (.int .i64 C.fi) ∧ w3.cell? ⟨W.heap.size, 6, none⟩ = some (.int .i64 mm) := ⟨(World.cell?_of_block eb).trans x1, (World.cell?_of_block eb).trans x5, em, (World.cell?_of_block eb).trans x6⟩
  clear hyc3 hq9 hs9 hk9 hl9
  refine hK2.out _ _ (s1) (fun hHeld2 => ?_)
  clear hK2 K2 hHeld
  have hHeld := hHeld2
  clear hHeld2
  try simp (maxSteps := 4000000) only [Act.put, List.setIfInBounds_toArray, List.set_cons_zero, List.set_cons_succ]
  refine wpAnyH_take (i := 15) (v := ?_) rfl (by kernel_rfl) (by kernel_rfl) (by kernel_rfl) (fun _ _ _ h => h) (Or.inl ⟨by kernel_rfl, ?_⟩) (by assumption) ?_
  rotate_left
  · (intro w hSw; (try dsimp only at hSw); go_simp)
    try (with_reducible rfl)
  rotate_left
  try simp (maxSteps := 4000000) only [Act.put, List.setIfInBounds_toArray, List.set_cons_zero, List.set_cons_succ, List.getElem_toArray, List.getElem_cons_zero, List.getElem_cons_succ]
  refine wpAnyH_take (i := 16) (v := ?_) rfl (by kernel_rfl) (by kernel_rfl) (by kernel_rfl) (fun _ _ _ h => h) (Or.inl ⟨by kernel_rfl, ?_⟩) (by assumption) ?_
  rotate_left
  · (intro w hSw; (try dsimp only at hSw); go_simp)
    try (with_reducible rfl)
  rotate_left
  try simp (maxSteps := 4000000) only [Act.put, List.setIfInBounds_toArray, List.set_cons_zero, List.set_cons_succ, List.getElem_toArray, List.getElem_cons_zero, List.getElem_cons_succ]
  refine wpAnyH_ready (rs := [17]) (by kernel_rfl) (by simp) ?_
  refine AllReadyH.cons rfl (fun K2 hK2 => ?_) AllReadyH.nil
  go_simp
  obtain ⟨w4, hw4⟩ : ∃ w4, w4 = (((((w3.setCell ⟨W.heap.size + 1, 0, none⟩ (.int .i64 ((md : Int) + 1))).setCell ⟨W.heap.size + 1, 1, none⟩ (.int .i64 0)).setCell ⟨W.heap.size + 1, 2, none⟩ (.int .i64 (p : Int))).setCell ⟨W.heap.size + 1, 3, none⟩ (.int .i64 0)).setCell ⟨W.heap.size + 1, 4, none⟩ (.int .i64 31)) := ⟨_, rfl⟩
  obtain ⟨g1, g2, g3⟩ := set5 w3 (W.heap.size + 1) (.int .i64 ((md : Int) + 1)) (.int .i64 0) (.int .i64 (p : Int)) (.int .i64 0) (.int .i64 31) w4 hw4
  rw [← hw4]
  have e4 : ∀ q : Nat, q ≠ W.heap.size + 1 → ∀ k o v, w3.cell? ⟨q, k, o⟩ = some v → w4.cell? ⟨q, k, o⟩ = some v := fun q hq k o v hv => (World.cell?_of_block (a := ⟨q, k, o⟩) (g2 q hq)).trans hv
  have s4 : w4.cell? ⟨W.heap.size, 1, none⟩ = some (.int .i64 t) ∧ w4.cell? ⟨W.heap.size, 5, none⟩ = some (.int .i64 (p : Int)) ∧ w4.cell? ⟨m, 9, none⟩ = some (.int .i64 C.fi) ∧ w4.cell? ⟨W.heap.size, 6, none⟩ = some (.int .i64 mm) := ⟨e4 W.heap.size (by omega) _ _ _ s1.1, e4 W.heap.size (by omega) _ _ _ s1.2.1, e4 m (by omega) _ _ _ s1.2.2.1, e4 W.heap.size (by omega) _ _ _ s1.2.2.2⟩
  have q0 : w4.cell? ⟨W.heap.size + 1, 0, none⟩ = some (.int .i64 ((md : Int) + 1)) := by rw [hw4]; simp [go_sem, y0, y1, y2, y3, y4]
  have q1 : w4.cell? ⟨W.heap.size + 1, 1, none⟩ = some (.int .i64 0) := by rw [hw4]; simp [go_sem, y0, y1, y2, y3, y4]
  have q2 : w4.cell? ⟨W.heap.size + 1, 2, none⟩ = some (.int .i64 (p : Int)) := by rw [hw4]; simp [go_sem, y0, y1, y2, y3, y4]
  have q3 : w4.cell? ⟨W.heap.size + 1, 3, none⟩ = some (.int .i64 0) := by rw [hw4]; simp [go_sem, y0, y1, y2, y3, y4]
  have q4 : w4.cell? ⟨W.heap.size + 1, 4, none⟩ = some (.int .i64 31) := by rw [hw4]; simp [go_sem, y0, y1, y2, y3, y4]
  clear hw4 e4
  refine hK2.out _ _ (s4) (fun hHeld2 => ?_)
  clear hK2 K2 hHeld
  have hHeld := hHeld2
  clear hHeld2
  try simp (maxSteps := 4000000) only [Act.put, List.setIfInBounds_toArray, List.set_cons_zero, List.set_cons_succ]
  refine wpAnyH_take (i := 18) (v := ?_) rfl (by kernel_rfl) (by kernel_rfl) (by kernel_rfl) (fun _ _ _ h => h) (Or.inl ⟨by kernel_rfl, ?_⟩) (by assumption) ?_
  rotate_left
  · (intro w hSw; (try dsimp only at hSw); go_simp)
    try (with_reducible rfl)
  rotate_left
  try simp (maxSteps := 4000000) only [Act.put, List.setIfInBounds_toArray, List.set_cons_zero, List.set_cons_succ, List.getElem_toArray, List.getElem_cons_zero, List.getElem_cons_succ]
  refine wpAnyH_done (by kernel_rfl) ?_ _
  go_wp2_with fail
  refine bodyPost_ret (v := .tuple #[.agg #[.int .i64 ((md : Int) + 1), .int .i64 0, .int .i64 (p : Int), .int .i64 0, .int .i64 31], rE 0]) (by simp [results, Try.results24, go_sem, q0, q1, q2, q3, q4]) rfl ⟨rfl, ?_⟩
  exact HGP.out.lift HBB.out.drew ⟨hm, hmm, hr⟩ (by omega) (by show W.heap.size + 1 < wb.heap.size; omega) g1 g2 (g3 _ (by omega))
end
end Go.Proofs.Ytanmmhbnjmglhaa
