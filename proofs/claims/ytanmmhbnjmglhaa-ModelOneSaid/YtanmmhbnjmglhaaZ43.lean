/- MpU. -/
import Derived.Test.YtanmmhbnjmglhaaZ42
import Derived.Deep.RegionHeld3
namespace Go.Proofs.Ytanmmhbnjmglhaa
set_option maxRecDepth 100000
open Go.RowKit Go.ChangeMaps Go.MapKept
set_option linter.unusedVariables false
set_option linter.unusedSimpArgs false
section
variable {C : Cf} {L : Option Addr} {r ll lc k kc : Nat} {W : World}
set_option maxHeartbeats 1600000 in
theorem ruse4 (t a b v n mm : Int) (P : Option Addr) (ln cp : Nat) (h1 : ¬ t < 0) (h2 : ¬ t ≥ C.th)  (h : RZ r k W) : Calls Try.prog 30 #[rmv C L ll lc (some ⟨r, 0, none⟩) k kc, opv 4 t a b v n mm P ln cp] W fun e w' => e = .returned (.tuple #[rmv C L ll lc (some ⟨r, 0, none⟩) k kc, .agg #[rE 7, .int .i64 0, .slice none 0 0]]) ∧ Below W.heap.size W w' := by
  have H := Lib.hid h
  clear h
  go_enter Try.func30, Try.ntmps30
  go_wp2_with fail
  obtain ⟨w1, hw1⟩ : ∃ w1, (((W.alloc (.cells #[.int .i64 C.pg, .int .i64 C.rg, .int .i64 C.lg, .int .i64 C.th, .int .i64 C.ca, .int .i64 C.ba, .int .i64 C.sh, .int .i64 C.re, .int .i64 C.mo, .int .i64 C.fi, .int .u64 C.ky, .slice L ll lc, .slice (some ⟨r, 0, none⟩) k kc] 34)).alloc (.cells #[.int .i64 4, .int .i64 t, .int .i64 a, .int .i64 b, .int .i64 v, .int .i64 n, .int .i64 mm, .slice P ln cp] 41)).alloc (.cells #[.int .i64 0, .int .i64 0, .int .i64 0, .int .i64 0, .int .i64 0, .int .i64 0, .int .i64 0, .int .i64 0, .int .i64 0, .int .i64 0, .int .u64 0, .slice none 0 0, .slice none 0 0] 34)).alloc (.cells #[.int .i64 0, .int .i64 0, .slice none 0 0] 39) = w1 := ⟨_, rfl⟩
  have bw1 : Below W.heap.size W w1 := by rw [← hw1]; exact alc (alc (alc (alc0 _ _) _) _) _
  have sw1 : w1.heap.size = W.heap.size + 4 := by rw [← hw1]; simp
  have XM : Hid (BX (W.heap.size) #[.int .i64 C.pg, .int .i64 C.rg, .int .i64 C.lg, .int .i64 C.th, .int .i64 C.ca, .int .i64 C.ba, .int .i64 C.sh, .int .i64 C.re, .int .i64 C.mo, .int .i64 C.fi, .int .u64 C.ky, .slice L ll lc, .slice (some ⟨r, 0, none⟩) k kc] w1) := Lib.hid (by rw [← hw1]; exact (bx_new _ _ _).block ((alc (alc (alc0 _ _) _) _).block _ (by simp)))
  have XO : Hid (BX (W.heap.size + 1) #[.int .i64 4, .int .i64 t, .int .i64 a, .int .i64 b, .int .i64 v, .int .i64 n, .int .i64 mm, .slice P ln cp] w1) := Lib.hid (by rw [← hw1]; exact (bx_at _ _ _ (by simp)).block ((alc (alc0 _ _) _).block _ (by simp)))
  have XZ : Hid (BX (W.heap.size + 1 + 1) #[.int .i64 0, .int .i64 0, .int .i64 0, .int .i64 0, .int .i64 0, .int .i64 0, .int .i64 0, .int .i64 0, .int .i64 0, .int .i64 0, .int .u64 0, .slice none 0 0, .slice none 0 0] w1) := Lib.hid (by rw [← hw1]; exact (bx_at _ _ _ (by simp)).block ((alc0 _ _).block _ (by simp)))
  have XS : Hid (BX (W.heap.size + 1 + 1 + 1) #[.int .i64 0, .int .i64 0, .slice none 0 0] w1) := Lib.hid (by rw [← hw1]; exact bx_at _ _ _ (by simp))
  rw [hw1]
  clear hw1
  have HB := Lib.hid bw1
  clear bw1
  refine (rgetz b (H.out.below HB.out)).mono ?_
  rintro e w2 ⟨rfl, bw2⟩
  have sw2 := bw2.size
  replace XM := Lib.hid (XM.out.block (bw2.block (W.heap.size) (by omega)))
  replace XO := Lib.hid (XO.out.block (bw2.block (W.heap.size + 1) (by omega)))
  replace XZ := Lib.hid (XZ.out.block (bw2.block (W.heap.size + 1 + 1) (by omega)))
  replace XS := Lib.hid (XS.out.block (bw2.block (W.heap.size + 1 + 1 + 1) (by omega)))
  replace HB := Lib.hid (thn HB.out bw2)
  clear bw2
  go_upto_region 3 with (fail)
  obtain ⟨w3, hw3⟩ : ∃ w3, (w2.alloc (.cells #[.int .i64 0, .int .i64 0, .int .i64 0, .int .i64 0, .int .i64 0] 54)).alloc (.cells #[.int .i64 0, .int .i64 0, .slice none 0 0] 39) = w3 := ⟨_, rfl⟩
  have bw3 : Below w2.heap.size w2 w3 := by rw [← hw3]; exact alc (alc0 _ _) _
  have sw3 : w3.heap.size = w2.heap.size + 2 := by rw [← hw3]; simp
  have XX : Hid (BX (w2.heap.size) #[.int .i64 0, .int .i64 0, .int .i64 0, .int .i64 0, .int .i64 0] w3) := Lib.hid (by rw [← hw3]; exact (bx_new _ _ _).block ((alc0 _ _).block _ (by simp)))
  have XT : Hid (BX (w2.heap.size + 1) #[.int .i64 0, .int .i64 0, .slice none 0 0] w3) := Lib.hid (by rw [← hw3]; exact bx_at _ _ _ (by simp))
  rw [hw3]
  clear hw3
  replace XM := Lib.hid (XM.out.block (bw3.block (W.heap.size) (by omega)))
  replace XO := Lib.hid (XO.out.block (bw3.block (W.heap.size + 1) (by omega)))
  replace XZ := Lib.hid (XZ.out.block (bw3.block (W.heap.size + 1 + 1) (by omega)))
  replace XS := Lib.hid (XS.out.block (bw3.block (W.heap.size + 1 + 1 + 1) (by omega)))
  replace HB := Lib.hid (thn HB.out bw3)
  clear bw3
  obtain ⟨cM0, cM1, cM2, cM3, cM4, cM5, cM6, cM7, cM8, cM9, cM10, cM11, cM12⟩ := XM.out.c13
  obtain ⟨cO0, cO1, cO2, cO3, cO4, cO5, cO6, cO7⟩ := XO.out.c8
  obtain ⟨cX0, cX1, cX2, cX3, cX4⟩ := XX.out.c5
  obtain ⟨cT0, cT1, cT2⟩ := XT.out.c3
  obtain ⟨fT0, fT1, fT2⟩ := XT.out.f3
  go_wp2_with fail
  refine (rwhole0).mono ?_
  rintro e w4 ⟨rfl, bw4⟩
  clear cM0 cM1 cM2 cM3 cM4 cM5 cM6 cM7 cM8 cM9 cM10 cM11 cM12 cO0 cO1 cO2 cO3 cO4 cO5 cO6 cO7 cX0 cX1 cX2 cX3 cX4 cT0 cT1 cT2 fT0 fT1 fT2
  have sw4 := bw4.size
  replace XM := Lib.hid (XM.out.block (bw4.block (W.heap.size) (by omega)))
  replace XO := Lib.hid (XO.out.block (bw4.block (W.heap.size + 1) (by omega)))
  replace XZ := Lib.hid (XZ.out.block (bw4.block (W.heap.size + 1 + 1) (by omega)))
  replace XS := Lib.hid (XS.out.block (bw4.block (W.heap.size + 1 + 1 + 1) (by omega)))
  replace XX := Lib.hid (XX.out.block (bw4.block (w2.heap.size) (by omega)))
  replace XT := Lib.hid (XT.out.block (bw4.block (w2.heap.size + 1) (by omega)))
  replace HB := Lib.hid (thn HB.out bw4)
  clear bw4
  obtain ⟨cM0, cM1, cM2, cM3, cM4, cM5, cM6, cM7, cM8, cM9, cM10, cM11, cM12⟩ := XM.out.c13
  obtain ⟨cO0, cO1, cO2, cO3, cO4, cO5, cO6, cO7⟩ := XO.out.c8
  obtain ⟨cT0, cT1, cT2⟩ := XT.out.c3
  obtain ⟨fT0, fT1, fT2⟩ := XT.out.f3
  go_wp2_with fail
  obtain ⟨w5, hw5⟩ : ∃ w5, w5 = w4.setCell ⟨w2.heap.size + 1, 0, none⟩ (.int .i64 7) := ⟨_, rfl⟩
  rw [← hw5]
  obtain ⟨sw5, kw5, lw5, XTn⟩ := XT.out.put1 #[.int .i64 7, .int .i64 0, .slice none 0 0] 0 (.int .i64 7) rfl (by simp) w5 hw5
  clear hw5
  clear cM0 cM1 cM2 cM3 cM4 cM5 cM6 cM7 cM8 cM9 cM10 cM11 cM12 cO0 cO1 cO2 cO3 cO4 cO5 cO6 cO7 cT0 cT1 cT2 fT0 fT1 fT2
  replace XT := Lib.hid XTn
  clear XTn
  replace XM := Lib.hid (XM.out.block (kw5 (W.heap.size) (by omega)))
  replace XO := Lib.hid (XO.out.block (kw5 (W.heap.size + 1) (by omega)))
  replace XZ := Lib.hid (XZ.out.block (kw5 (W.heap.size + 1 + 1) (by omega)))
  replace XS := Lib.hid (XS.out.block (kw5 (W.heap.size + 1 + 1 + 1) (by omega)))
  replace XX := Lib.hid (XX.out.block (kw5 (w2.heap.size) (by omega)))
  replace HB := Lib.hid (HB.out.trans (lw5 W.heap.size (by omega)))
  clear kw5 lw5
  obtain ⟨cM0, cM1, cM2, cM3, cM4, cM5, cM6, cM7, cM8, cM9, cM10, cM11, cM12⟩ := XM.out.c13
  obtain ⟨cT0, cT1, cT2⟩ := XT.out.c3
  refine wp_region_held_drew (S := fun w' => w'.cell? ⟨W.heap.size, 0, none⟩ = some (.int .i64 C.pg) ∧ w'.cell? ⟨W.heap.size, 1, none⟩ = some (.int .i64 C.rg) ∧ w'.cell? ⟨W.heap.size, 2, none⟩ = some (.int .i64 C.lg) ∧ w'.cell? ⟨W.heap.size, 3, none⟩ = some (.int .i64 C.th) ∧ w'.cell? ⟨W.heap.size, 4, none⟩ = some (.int .i64 C.ca) ∧ w'.cell? ⟨W.heap.size, 5, none⟩ = some (.int .i64 C.ba) ∧ w'.cell? ⟨W.heap.size, 6, none⟩ = some (.int .i64 C.sh) ∧ w'.cell? ⟨W.heap.size, 7, none⟩ = some (.int .i64 C.re) ∧ w'.cell? ⟨W.heap.size, 8, none⟩ = some (.int .i64 C.mo) ∧ w'.cell? ⟨W.heap.size, 9, none⟩ = some (.int .i64 C.fi) ∧ w'.cell? ⟨W.heap.size, 10, none⟩ = some (.int .u64 C.ky) ∧ w'.cell? ⟨W.heap.size, 11, none⟩ = some (.slice L ll lc) ∧ w'.cell? ⟨W.heap.size, 12, none⟩ = some (.slice (some ⟨r, 0, none⟩) k kc) ∧ w'.cell? ⟨w2.heap.size + 1, 0, none⟩ = some (.int .i64 7) ∧ w'.cell? ⟨w2.heap.size + 1, 1, none⟩ = some (.int .i64 0) ∧ w'.cell? ⟨w2.heap.size + 1, 2, none⟩ = some (.slice none 0 0)) (by kernel_rfl) ?_ (fun hHeld => ?_)
  · exact ⟨cM0, cM1, cM2, cM3, cM4, cM5, cM6, cM7, cM8, cM9, cM10, cM11, cM12, cT0, cT1, cT2⟩
  obtain ⟨cZ0, cZ1, cZ2, cZ3, cZ4, cZ5, cZ6, cZ7, cZ8, cZ9, cZ10, cZ11, cZ12⟩ := XZ.out.c13
  obtain ⟨cS0, cS1, cS2⟩ := XS.out.c3
  obtain ⟨fZ0, fZ1, fZ2, fZ3, fZ4, fZ5, fZ6, fZ7, fZ8, fZ9, fZ10, fZ11, fZ12⟩ := XZ.out.f13
  obtain ⟨fS0, fS1, fS2⟩ := XS.out.f3
  refine wpAnyH_take (i := 0) (v := ?_) rfl (by kernel_rfl) (by kernel_rfl) (by kernel_rfl) (fun _ _ _ h => h) (Or.inl ⟨by kernel_rfl, ?_⟩) (by assumption) ?_
  rotate_left
  · (intro w hSw; (try dsimp only at hSw); go_simp)
    try (with_reducible rfl)
  rotate_left
  try simp (maxSteps := 4000000) only [Act.put, List.setIfInBounds_toArray, List.set_cons_zero, List.set_cons_succ, List.getElem_toArray, List.getElem_cons_zero, List.getElem_cons_succ]
  refine wpAnyH_take (i := 1) (v := ?_) rfl (by kernel_rfl) (by kernel_rfl) (by kernel_rfl) (fun _ _ _ h => h) (Or.inl ⟨by kernel_rfl, ?_⟩) (by assumption) ?_
  rotate_left
  · (intro w hSw; (try dsimp only at hSw); go_simp)
    try (with_reducible rfl)
  rotate_left
  try simp (maxSteps := 4000000) only [Act.put, List.setIfInBounds_toArray, List.set_cons_zero, List.set_cons_succ, List.getElem_toArray, List.getElem_cons_zero, List.getElem_cons_succ]
  refine wpAnyH_ready (rs := [2]) (by kernel_rfl) (by simp) ?_
  refine AllReadyH.cons rfl (fun K2 hK2 => ?_) AllReadyH.nil
  go_simp
  obtain ⟨w6, hw6⟩ : ∃ w6, w6 = sets13 w5 (W.heap.size + 1 + 1) (.int .i64 C.pg) (.int .i64 C.rg) (.int .i64 C.lg) (.int .i64 C.th) (.int .i64 C.ca) (.int .i64 C.ba) (.int .i64 C.sh) (.int .i64 C.re) (.int .i64 C.mo) (.int .i64 C.fi) (.int .u64 C.ky) (.slice L ll lc) (.slice (some ⟨r, 0, none⟩) k kc) := ⟨_, rfl⟩
  obtain ⟨sw6, kw6, lw6, XZn⟩ := XZ.out.put13s rfl hw6
  unfold sets13 at hw6
  rw [← hw6]
  clear hw6
  clear cM0 cM1 cM2 cM3 cM4 cM5 cM6 cM7 cM8 cM9 cM10 cM11 cM12 cT0 cT1 cT2 cZ0 cZ1 cZ2 cZ3 cZ4 cZ5 cZ6 cZ7 cZ8 cZ9 cZ10 cZ11 cZ12 cS0 cS1 cS2 fZ0 fZ1 fZ2 fZ3 fZ4 fZ5 fZ6 fZ7 fZ8 fZ9 fZ10 fZ11 fZ12 fS0 fS1 fS2
  replace XZ := Lib.hid XZn
  clear XZn
  replace XM := Lib.hid (XM.out.block (kw6 (W.heap.size) (by omega)))
  replace XO := Lib.hid (XO.out.block (kw6 (W.heap.size + 1) (by omega)))
  replace XS := Lib.hid (XS.out.block (kw6 (W.heap.size + 1 + 1 + 1) (by omega)))
  replace XX := Lib.hid (XX.out.block (kw6 (w2.heap.size) (by omega)))
  replace XT := Lib.hid (XT.out.block (kw6 (w2.heap.size + 1) (by omega)))
  replace HB := Lib.hid (HB.out.trans (lw6 W.heap.size (by omega)))
  clear kw6 lw6
  obtain ⟨w7, hw7⟩ : ∃ w7, w6.drew = w7 := ⟨_, rfl⟩
  rw [hw7]
  have bw7 : Below w6.heap.size w6 w7 := by rw [← hw7]; exact (Below.refl _ w6).drew
  have sw7 : w7.heap.size = w6.heap.size := by rw [← hw7]; rfl
  clear hw7
  replace XM := Lib.hid (XM.out.block (bw7.block (W.heap.size) (by omega)))
  replace XO := Lib.hid (XO.out.block (bw7.block (W.heap.size + 1) (by omega)))
  replace XZ := Lib.hid (XZ.out.block (bw7.block (W.heap.size + 1 + 1) (by omega)))
  replace XS := Lib.hid (XS.out.block (bw7.block (W.heap.size + 1 + 1 + 1) (by omega)))
  replace XX := Lib.hid (XX.out.block (bw7.block (w2.heap.size) (by omega)))
  replace XT := Lib.hid (XT.out.block (bw7.block (w2.heap.size + 1) (by omega)))
  replace HB := Lib.hid (thn HB.out bw7)
  clear bw7
  obtain ⟨cM0, cM1, cM2, cM3, cM4, cM5, cM6, cM7, cM8, cM9, cM10, cM11, cM12⟩ := XM.out.c13
  obtain ⟨cZ0, cZ1, cZ2, cZ3, cZ4, cZ5, cZ6, cZ7, cZ8, cZ9, cZ10, cZ11, cZ12⟩ := XZ.out.c13
  obtain ⟨cT0, cT1, cT2⟩ := XT.out.c3
  obtain ⟨cS0, cS1, cS2⟩ := XS.out.c3
  obtain ⟨fS0, fS1, fS2⟩ := XS.out.f3
  refine hK2.out _ _ (⟨cM0, cM1, cM2, cM3, cM4, cM5, cM6, cM7, cM8, cM9, cM10, cM11, cM12, cT0, cT1, cT2⟩) (fun hHeld2 => ?_)
  clear hK2 K2 hHeld
  have hHeld := hHeld2
  clear hHeld2
  try simp (maxSteps := 4000000) only [Act.put, List.setIfInBounds_toArray, List.set_cons_zero, List.set_cons_succ]
  refine wpAnyH_ready (rs := [3]) (by kernel_rfl) (by simp) ?_
  refine AllReadyH.cons rfl (fun K2 hK2 => ?_) AllReadyH.nil
  go_simp
  obtain ⟨w8, hw8⟩ : ∃ w8, w8 = sets3 w7 (W.heap.size + 1 + 1 + 1) (.int .i64 7) (.int .i64 0) (.slice none 0 0) := ⟨_, rfl⟩
  obtain ⟨sw8, kw8, lw8, XSn⟩ := XS.out.put3s rfl hw8
  unfold sets3 at hw8
  rw [← hw8]
  clear hw8
  clear cM0 cM1 cM2 cM3 cM4 cM5 cM6 cM7 cM8 cM9 cM10 cM11 cM12 cZ0 cZ1 cZ2 cZ3 cZ4 cZ5 cZ6 cZ7 cZ8 cZ9 cZ10 cZ11 cZ12 cT0 cT1 cT2 cS0 cS1 cS2 fS0 fS1 fS2
  replace XS := Lib.hid XSn
  clear XSn
  replace XM := Lib.hid (XM.out.block (kw8 (W.heap.size) (by omega)))
  replace XO := Lib.hid (XO.out.block (kw8 (W.heap.size + 1) (by omega)))
  replace XZ := Lib.hid (XZ.out.block (kw8 (W.heap.size + 1 + 1) (by omega)))
  replace XX := Lib.hid (XX.out.block (kw8 (w2.heap.size) (by omega)))
  replace XT := Lib.hid (XT.out.block (kw8 (w2.heap.size + 1) (by omega)))
  replace HB := Lib.hid (HB.out.trans (lw8 W.heap.size (by omega)))
  clear kw8 lw8
  obtain ⟨cM0, cM1, cM2, cM3, cM4, cM5, cM6, cM7, cM8, cM9, cM10, cM11, cM12⟩ := XM.out.c13
  obtain ⟨cT0, cT1, cT2⟩ := XT.out.c3
  obtain ⟨cZ0, cZ1, cZ2, cZ3, cZ4, cZ5, cZ6, cZ7, cZ8, cZ9, cZ10, cZ11, cZ12⟩ := XZ.out.c13
  obtain ⟨cS0, cS1, cS2⟩ := XS.out.c3
  refine hK2.out _ _ (⟨cM0, cM1, cM2, cM3, cM4, cM5, cM6, cM7, cM8, cM9, cM10, cM11, cM12, cT0, cT1, cT2⟩) (fun hHeld2 => ?_)
  clear hK2 K2 hHeld
  have hHeld := hHeld2
  clear hHeld2
  try simp (maxSteps := 4000000) only [Act.put, List.setIfInBounds_toArray, List.set_cons_zero, List.set_cons_succ]
  refine wpAnyH_done (by kernel_rfl) ?_ _
  go_wp2_with fail
  refine bodyPost_ret (v := .tuple #[rmv C L ll lc (some ⟨r, 0, none⟩) k kc, .agg #[rE 7, .int .i64 0, .slice none 0 0]]) (by simp [results, Try.results30, go_sem, cZ0, cZ1, cZ2, cZ3, cZ4, cZ5, cZ6, cZ7, cZ8, cZ9, cZ10, cZ11, cZ12, cS0, cS1, cS2]) rfl ⟨rfl, HB.out⟩
set_option maxHeartbeats 1600000 in
theorem ruse6 (t a b v n mm : Int) (P : Option Addr) (ln cp : Nat)  (h : RZ r k W) : Calls Try.prog 30 #[rmv C L ll lc (some ⟨r, 0, none⟩) k kc, opv 6 t a b v n mm P ln cp] W fun e w' => e = .returned (.tuple #[rmv C L ll lc (some ⟨r, 0, none⟩) k kc, .agg #[rE 7, .int .i64 0, .slice none 0 0]]) ∧ Below W.heap.size W w' := by
  have H := Lib.hid h
  clear h
  go_enter Try.func30, Try.ntmps30
  go_wp2_with fail
  obtain ⟨w1, hw1⟩ : ∃ w1, (((W.alloc (.cells #[.int .i64 C.pg, .int .i64 C.rg, .int .i64 C.lg, .int .i64 C.th, .int .i64 C.ca, .int .i64 C.ba, .int .i64 C.sh, .int .i64 C.re, .int .i64 C.mo, .int .i64 C.fi, .int .u64 C.ky, .slice L ll lc, .slice (some ⟨r, 0, none⟩) k kc] 34)).alloc (.cells #[.int .i64 6, .int .i64 t, .int .i64 a, .int .i64 b, .int .i64 v, .int .i64 n, .int .i64 mm, .slice P ln cp] 41)).alloc (.cells #[.int .i64 0, .int .i64 0, .int .i64 0, .int .i64 0, .int .i64 0, .int .i64 0, .int .i64 0, .int .i64 0, .int .i64 0, .int .i64 0, .int .u64 0, .slice none 0 0, .slice none 0 0] 34)).alloc (.cells #[.int .i64 0, .int .i64 0, .slice none 0 0] 39) = w1 := ⟨_, rfl⟩
  have bw1 : Below W.heap.size W w1 := by rw [← hw1]; exact alc (alc (alc (alc0 _ _) _) _) _
  have sw1 : w1.heap.size = W.heap.size + 4 := by rw [← hw1]; simp
  have XM : Hid (BX (W.heap.size) #[.int .i64 C.pg, .int .i64 C.rg, .int .i64 C.lg, .int .i64 C.th, .int .i64 C.ca, .int .i64 C.ba, .int .i64 C.sh, .int .i64 C.re, .int .i64 C.mo, .int .i64 C.fi, .int .u64 C.ky, .slice L ll lc, .slice (some ⟨r, 0, none⟩) k kc] w1) := Lib.hid (by rw [← hw1]; exact (bx_new _ _ _).block ((alc (alc (alc0 _ _) _) _).block _ (by simp)))
  have XO : Hid (BX (W.heap.size + 1) #[.int .i64 6, .int .i64 t, .int .i64 a, .int .i64 b, .int .i64 v, .int .i64 n, .int .i64 mm, .slice P ln cp] w1) := Lib.hid (by rw [← hw1]; exact (bx_at _ _ _ (by simp)).block ((alc (alc0 _ _) _).block _ (by simp)))
  have XZ : Hid (BX (W.heap.size + 1 + 1) #[.int .i64 0, .int .i64 0, .int .i64 0, .int .i64 0, .int .i64 0, .int .i64 0, .int .i64 0, .int .i64 0, .int .i64 0, .int .i64 0, .int .u64 0, .slice none 0 0, .slice none 0 0] w1) := Lib.hid (by rw [← hw1]; exact (bx_at _ _ _ (by simp)).block ((alc0 _ _).block _ (by simp)))
  have XS : Hid (BX (W.heap.size + 1 + 1 + 1) #[.int .i64 0, .int .i64 0, .slice none 0 0] w1) := Lib.hid (by rw [← hw1]; exact bx_at _ _ _ (by simp))
  rw [hw1]
  clear hw1
  have HB := Lib.hid bw1
  clear bw1
  refine (rgetz b (H.out.below HB.out)).mono ?_
  rintro e w2 ⟨rfl, bw2⟩
  have sw2 := bw2.size
  replace XM := Lib.hid (XM.out.block (bw2.block (W.heap.size) (by omega)))
  replace XO := Lib.hid (XO.out.block (bw2.block (W.heap.size + 1) (by omega)))
  replace XZ := Lib.hid (XZ.out.block (bw2.block (W.heap.size + 1 + 1) (by omega)))
  replace XS := Lib.hid (XS.out.block (bw2.block (W.heap.size + 1 + 1 + 1) (by omega)))
  replace HB := Lib.hid (thn HB.out bw2)
  clear bw2
  go_upto_region 3 with (fail)
  obtain ⟨w3, hw3⟩ : ∃ w3, (w2.alloc (.cells #[.int .i64 0, .int .i64 0, .int .i64 0, .int .i64 0, .int .i64 0] 54)).alloc (.cells #[.int .i64 0, .int .i64 0, .slice none 0 0] 39) = w3 := ⟨_, rfl⟩
  have bw3 : Below w2.heap.size w2 w3 := by rw [← hw3]; exact alc (alc0 _ _) _
  have sw3 : w3.heap.size = w2.heap.size + 2 := by rw [← hw3]; simp
  have XX : Hid (BX (w2.heap.size) #[.int .i64 0, .int .i64 0, .int .i64 0, .int .i64 0, .int .i64 0] w3) := Lib.hid (by rw [← hw3]; exact (bx_new _ _ _).block ((alc0 _ _).block _ (by simp)))
  have XT : Hid (BX (w2.heap.size + 1) #[.int .i64 0, .int .i64 0, .slice none 0 0] w3) := Lib.hid (by rw [← hw3]; exact bx_at _ _ _ (by simp))
  rw [hw3]
  clear hw3
  replace XM := Lib.hid (XM.out.block (bw3.block (W.heap.size) (by omega)))
  replace XO := Lib.hid (XO.out.block (bw3.block (W.heap.size + 1) (by omega)))
  replace XZ := Lib.hid (XZ.out.block (bw3.block (W.heap.size + 1 + 1) (by omega)))
  replace XS := Lib.hid (XS.out.block (bw3.block (W.heap.size + 1 + 1 + 1) (by omega)))
  replace HB := Lib.hid (thn HB.out bw3)
  clear bw3
  obtain ⟨cM0, cM1, cM2, cM3, cM4, cM5, cM6, cM7, cM8, cM9, cM10, cM11, cM12⟩ := XM.out.c13
  obtain ⟨cO0, cO1, cO2, cO3, cO4, cO5, cO6, cO7⟩ := XO.out.c8
  obtain ⟨cX0, cX1, cX2, cX3, cX4⟩ := XX.out.c5
  obtain ⟨cT0, cT1, cT2⟩ := XT.out.c3
  obtain ⟨fT0, fT1, fT2⟩ := XT.out.f3
  go_wp2_with fail
  refine (rwhole0).mono ?_
  rintro e w4 ⟨rfl, bw4⟩
  clear cM0 cM1 cM2 cM3 cM4 cM5 cM6 cM7 cM8 cM9 cM10 cM11 cM12 cO0 cO1 cO2 cO3 cO4 cO5 cO6 cO7 cX0 cX1 cX2 cX3 cX4 cT0 cT1 cT2 fT0 fT1 fT2
  have sw4 := bw4.size
  replace XM := Lib.hid (XM.out.block (bw4.block (W.heap.size) (by omega)))
  replace XO := Lib.hid (XO.out.block (bw4.block (W.heap.size + 1) (by omega)))
  replace XZ := Lib.hid (XZ.out.block (bw4.block (W.heap.size + 1 + 1) (by omega)))
  replace XS := Lib.hid (XS.out.block (bw4.block (W.heap.size + 1 + 1 + 1) (by omega)))
  replace XX := Lib.hid (XX.out.block (bw4.block (w2.heap.size) (by omega)))
  replace XT := Lib.hid (XT.out.block (bw4.block (w2.heap.size + 1) (by omega)))
  replace HB := Lib.hid (thn HB.out bw4)
  clear bw4
  obtain ⟨cM0, cM1, cM2, cM3, cM4, cM5, cM6, cM7, cM8, cM9, cM10, cM11, cM12⟩ := XM.out.c13
  obtain ⟨cO0, cO1, cO2, cO3, cO4, cO5, cO6, cO7⟩ := XO.out.c8
  obtain ⟨cT0, cT1, cT2⟩ := XT.out.c3
  obtain ⟨fT0, fT1, fT2⟩ := XT.out.f3
  go_wp2_with fail
  obtain ⟨w5, hw5⟩ : ∃ w5, w5 = w4.setCell ⟨w2.heap.size + 1, 0, none⟩ (.int .i64 7) := ⟨_, rfl⟩
  rw [← hw5]
  obtain ⟨sw5, kw5, lw5, XTn⟩ := XT.out.put1 #[.int .i64 7, .int .i64 0, .slice none 0 0] 0 (.int .i64 7) rfl (by simp) w5 hw5
  clear hw5
  clear cM0 cM1 cM2 cM3 cM4 cM5 cM6 cM7 cM8 cM9 cM10 cM11 cM12 cO0 cO1 cO2 cO3 cO4 cO5 cO6 cO7 cT0 cT1 cT2 fT0 fT1 fT2
  replace XT := Lib.hid XTn
  clear XTn
  replace XM := Lib.hid (XM.out.block (kw5 (W.heap.size) (by omega)))
  replace XO := Lib.hid (XO.out.block (kw5 (W.heap.size + 1) (by omega)))
  replace XZ := Lib.hid (XZ.out.block (kw5 (W.heap.size + 1 + 1) (by omega)))
  replace XS := Lib.hid (XS.out.block (kw5 (W.heap.size + 1 + 1 + 1) (by omega)))
  replace XX := Lib.hid (XX.out.block (kw5 (w2.heap.size) (by omega)))
  replace HB := Lib.hid (HB.out.trans (lw5 W.heap.size (by omega)))
  clear kw5 lw5
  obtain ⟨cM0, cM1, cM2, cM3, cM4, cM5, cM6, cM7, cM8, cM9, cM10, cM11, cM12⟩ := XM.out.c13
  obtain ⟨cT0, cT1, cT2⟩ := XT.out.c3
  refine wp_region_held_drew (S := fun w' => w'.cell? ⟨W.heap.size, 0, none⟩ = some (.int .i64 C.pg) ∧ w'.cell? ⟨W.heap.size, 1, none⟩ = some (.int .i64 C.rg) ∧ w'.cell? ⟨W.heap.size, 2, none⟩ = some (.int .i64 C.lg) ∧ w'.cell? ⟨W.heap.size, 3, none⟩ = some (.int .i64 C.th) ∧ w'.cell? ⟨W.heap.size, 4, none⟩ = some (.int .i64 C.ca) ∧ w'.cell? ⟨W.heap.size, 5, none⟩ = some (.int .i64 C.ba) ∧ w'.cell? ⟨W.heap.size, 6, none⟩ = some (.int .i64 C.sh) ∧ w'.cell? ⟨W.heap.size, 7, none⟩ = some (.int .i64 C.re) ∧ w'.cell? ⟨W.heap.size, 8, none⟩ = some (.int .i64 C.mo) ∧ w'.cell? ⟨W.heap.size, 9, none⟩ = some (.int .i64 C.fi) ∧ w'.cell? ⟨W.heap.size, 10, none⟩ = some (.int .u64 C.ky) ∧ w'.cell? ⟨W.heap.size, 11, none⟩ = some (.slice L ll lc) ∧ w'.cell? ⟨W.heap.size, 12, none⟩ = some (.slice (some ⟨r, 0, none⟩) k kc) ∧ w'.cell? ⟨w2.heap.size + 1, 0, none⟩ = some (.int .i64 7) ∧ w'.cell? ⟨w2.heap.size + 1, 1, none⟩ = some (.int .i64 0) ∧ w'.cell? ⟨w2.heap.size + 1, 2, none⟩ = some (.slice none 0 0)) (by kernel_rfl) ?_ (fun hHeld => ?_)
  · exact ⟨cM0, cM1, cM2, cM3, cM4, cM5, cM6, cM7, cM8, cM9, cM10, cM11, cM12, cT0, cT1, cT2⟩
  obtain ⟨cZ0, cZ1, cZ2, cZ3, cZ4, cZ5, cZ6, cZ7, cZ8, cZ9, cZ10, cZ11, cZ12⟩ := XZ.out.c13
  obtain ⟨cS0, cS1, cS2⟩ := XS.out.c3
  obtain ⟨fZ0, fZ1, fZ2, fZ3, fZ4, fZ5, fZ6, fZ7, fZ8, fZ9, fZ10, fZ11, fZ12⟩ := XZ.out.f13
  obtain ⟨fS0, fS1, fS2⟩ := XS.out.f3
  refine wpAnyH_take (i := 0) (v := ?_) rfl (by kernel_rfl) (by kernel_rfl) (by kernel_rfl) (fun _ _ _ h => h) (Or.inl ⟨by kernel_rfl, ?_⟩) (by assumption) ?_
  rotate_left
  · (intro w hSw; (try dsimp only at hSw); go_simp)
    try (with_reducible rfl)
  rotate_left
  try simp (maxSteps := 4000000) only [Act.put, List.setIfInBounds_toArray, List.set_cons_zero, List.set_cons_succ, List.getElem_toArray, List.getElem_cons_zero, List.getElem_cons_succ]
  refine wpAnyH_take (i := 1) (v := ?_) rfl (by kernel_rfl) (by kernel_rfl) (by kernel_rfl) (fun _ _ _ h => h) (Or.inl ⟨by kernel_rfl, ?_⟩) (by assumption) ?_
  rotate_left
  · (intro w hSw; (try dsimp only at hSw); go_simp)
    try (with_reducible rfl)
  rotate_left
  try simp (maxSteps := 4000000) only [Act.put, List.setIfInBounds_toArray, List.set_cons_zero, List.set_cons_succ, List.getElem_toArray, List.getElem_cons_zero, List.getElem_cons_succ]
  refine wpAnyH_ready (rs := [2]) (by kernel_rfl) (by simp) ?_
  refine AllReadyH.cons rfl (fun K2 hK2 => ?_) AllReadyH.nil
  go_simp
  obtain ⟨w6, hw6⟩ : ∃ w6, w6 = sets13 w5 (W.heap.size + 1 + 1) (.int .i64 C.pg) (.int .i64 C.rg) (.int .i64 C.lg) (.int .i64 C.th) (.int .i64 C.ca) (.int .i64 C.ba) (.int .i64 C.sh) (.int .i64 C.re) (.int .i64 C.mo) (.int .i64 C.fi) (.int .u64 C.ky) (.slice L ll lc) (.slice (some ⟨r, 0, none⟩) k kc) := ⟨_, rfl⟩
  obtain ⟨sw6, kw6, lw6, XZn⟩ := XZ.out.put13s rfl hw6
  unfold sets13 at hw6
  rw [← hw6]
  clear hw6
  clear cM0 cM1 cM2 cM3 cM4 cM5 cM6 cM7 cM8 cM9 cM10 cM11 cM12 cT0 cT1 cT2 cZ0 cZ1 cZ2 cZ3 cZ4 cZ5 cZ6 cZ7 cZ8 cZ9 cZ10 cZ11 cZ12 cS0 cS1 cS2 fZ0 fZ1 fZ2 fZ3 fZ4 fZ5 fZ6 fZ7 fZ8 fZ9 fZ10 fZ11 fZ12 fS0 fS1 fS2
  replace XZ := Lib.hid XZn
  clear XZn
  replace XM := Lib.hid (XM.out.block (kw6 (W.heap.size) (by omega)))
  replace XO := Lib.hid (XO.out.block (kw6 (W.heap.size + 1) (by omega)))
  replace XS := Lib.hid (XS.out.block (kw6 (W.heap.size + 1 + 1 + 1) (by omega)))
  replace XX := Lib.hid (XX.out.block (kw6 (w2.heap.size) (by omega)))
  replace XT := Lib.hid (XT.out.block (kw6 (w2.heap.size + 1) (by omega)))
  replace HB := Lib.hid (HB.out.trans (lw6 W.heap.size (by omega)))
  clear kw6 lw6
  obtain ⟨w7, hw7⟩ : ∃ w7, w6.drew = w7 := ⟨_, rfl⟩
  rw [hw7]
  have bw7 : Below w6.heap.size w6 w7 := by rw [← hw7]; exact (Below.refl _ w6).drew
  have sw7 : w7.heap.size = w6.heap.size := by rw [← hw7]; rfl
  clear hw7
  replace XM := Lib.hid (XM.out.block (bw7.block (W.heap.size) (by omega)))
  replace XO := Lib.hid (XO.out.block (bw7.block (W.heap.size + 1) (by omega)))
  replace XZ := Lib.hid (XZ.out.block (bw7.block (W.heap.size + 1 + 1) (by omega)))
  replace XS := Lib.hid (XS.out.block (bw7.block (W.heap.size + 1 + 1 + 1) (by omega)))
  replace XX := Lib.hid (XX.out.block (bw7.block (w2.heap.size) (by omega)))
  replace XT := Lib.hid (XT.out.block (bw7.block (w2.heap.size + 1) (by omega)))
  replace HB := Lib.hid (thn HB.out bw7)
  clear bw7
  obtain ⟨cM0, cM1, cM2, cM3, cM4, cM5, cM6, cM7, cM8, cM9, cM10, cM11, cM12⟩ := XM.out.c13
  obtain ⟨cZ0, cZ1, cZ2, cZ3, cZ4, cZ5, cZ6, cZ7, cZ8, cZ9, cZ10, cZ11, cZ12⟩ := XZ.out.c13
  obtain ⟨cT0, cT1, cT2⟩ := XT.out.c3
  obtain ⟨cS0, cS1, cS2⟩ := XS.out.c3
  obtain ⟨fS0, fS1, fS2⟩ := XS.out.f3
  refine hK2.out _ _ (⟨cM0, cM1, cM2, cM3, cM4, cM5, cM6, cM7, cM8, cM9, cM10, cM11, cM12, cT0, cT1, cT2⟩) (fun hHeld2 => ?_)
  clear hK2 K2 hHeld
  have hHeld := hHeld2
  clear hHeld2
  try simp (maxSteps := 4000000) only [Act.put, List.setIfInBounds_toArray, List.set_cons_zero, List.set_cons_succ]
  refine wpAnyH_ready (rs := [3]) (by kernel_rfl) (by simp) ?_
  refine AllReadyH.cons rfl (fun K2 hK2 => ?_) AllReadyH.nil
  go_simp
  obtain ⟨w8, hw8⟩ : ∃ w8, w8 = sets3 w7 (W.heap.size + 1 + 1 + 1) (.int .i64 7) (.int .i64 0) (.slice none 0 0) := ⟨_, rfl⟩
  obtain ⟨sw8, kw8, lw8, XSn⟩ := XS.out.put3s rfl hw8
  unfold sets3 at hw8
  rw [← hw8]
  clear hw8
  clear cM0 cM1 cM2 cM3 cM4 cM5 cM6 cM7 cM8 cM9 cM10 cM11 cM12 cZ0 cZ1 cZ2 cZ3 cZ4 cZ5 cZ6 cZ7 cZ8 cZ9 cZ10 cZ11 cZ12 cT0 cT1 cT2 cS0 cS1 cS2 fS0 fS1 fS2
  replace XS := Lib.hid XSn
  clear XSn
  replace XM := Lib.hid (XM.out.block (kw8 (W.heap.size) (by omega)))
  replace XO := Lib.hid (XO.out.block (kw8 (W.heap.size + 1) (by omega)))
  replace XZ := Lib.hid (XZ.out.block (kw8 (W.heap.size + 1 + 1) (by omega)))
  replace XX := Lib.hid (XX.out.block (kw8 (w2.heap.size) (by omega)))
  replace XT := Lib.hid (XT.out.block (kw8 (w2.heap.size + 1) (by omega)))
  replace HB := Lib.hid (HB.out.trans (lw8 W.heap.size (by omega)))
  clear kw8 lw8
  obtain ⟨cM0, cM1, cM2, cM3, cM4, cM5, cM6, cM7, cM8, cM9, cM10, cM11, cM12⟩ := XM.out.c13
  obtain ⟨cT0, cT1, cT2⟩ := XT.out.c3
  obtain ⟨cZ0, cZ1, cZ2, cZ3, cZ4, cZ5, cZ6, cZ7, cZ8, cZ9, cZ10, cZ11, cZ12⟩ := XZ.out.c13
  obtain ⟨cS0, cS1, cS2⟩ := XS.out.c3
  refine hK2.out _ _ (⟨cM0, cM1, cM2, cM3, cM4, cM5, cM6, cM7, cM8, cM9, cM10, cM11, cM12, cT0, cT1, cT2⟩) (fun hHeld2 => ?_)
  clear hK2 K2 hHeld
  have hHeld := hHeld2
  clear hHeld2
  try simp (maxSteps := 4000000) only [Act.put, List.setIfInBounds_toArray, List.set_cons_zero, List.set_cons_succ]
  refine wpAnyH_done (by kernel_rfl) ?_ _
  go_wp2_with fail
  refine bodyPost_ret (v := .tuple #[rmv C L ll lc (some ⟨r, 0, none⟩) k kc, .agg #[rE 7, .int .i64 0, .slice none 0 0]]) (by simp [results, Try.results30, go_sem, cZ0, cZ1, cZ2, cZ3, cZ4, cZ5, cZ6, cZ7, cZ8, cZ9, cZ10, cZ11, cZ12, cS0, cS1, cS2]) rfl ⟨rfl, HB.out⟩
set_option maxHeartbeats 1600000 in
theorem ruse11 (t a b v n mm : Int) (P : Option Addr) (ln cp : Nat) (h1 : ¬ n > 4096)  (h : RZ r k W) : Calls Try.prog 30 #[rmv C L ll lc (some ⟨r, 0, none⟩) k kc, opv 11 t a b v n mm P ln cp] W fun e w' => e = .returned (.tuple #[rmv C L ll lc (some ⟨r, 0, none⟩) k kc, .agg #[rE 7, .int .i64 0, .slice none 0 0]]) ∧ Below W.heap.size W w' := by
  have H := Lib.hid h
  clear h
  go_enter Try.func30, Try.ntmps30
  go_wp2_with fail
  obtain ⟨w1, hw1⟩ : ∃ w1, (((W.alloc (.cells #[.int .i64 C.pg, .int .i64 C.rg, .int .i64 C.lg, .int .i64 C.th, .int .i64 C.ca, .int .i64 C.ba, .int .i64 C.sh, .int .i64 C.re, .int .i64 C.mo, .int .i64 C.fi, .int .u64 C.ky, .slice L ll lc, .slice (some ⟨r, 0, none⟩) k kc] 34)).alloc (.cells #[.int .i64 11, .int .i64 t, .int .i64 a, .int .i64 b, .int .i64 v, .int .i64 n, .int .i64 mm, .slice P ln cp] 41)).alloc (.cells #[.int .i64 0, .int .i64 0, .int .i64 0, .int .i64 0, .int .i64 0, .int .i64 0, .int .i64 0, .int .i64 0, .int .i64 0, .int .i64 0, .int .u64 0, .slice none 0 0, .slice none 0 0] 34)).alloc (.cells #[.int .i64 0, .int .i64 0, .slice none 0 0] 39) = w1 := ⟨_, rfl⟩
  have bw1 : Below W.heap.size W w1 := by rw [← hw1]; exact alc (alc (alc (alc0 _ _) _) _) _
  have sw1 : w1.heap.size = W.heap.size + 4 := by rw [← hw1]; simp
  have XM : Hid (BX (W.heap.size) #[.int .i64 C.pg, .int .i64 C.rg, .int .i64 C.lg, .int .i64 C.th, .int .i64 C.ca, .int .i64 C.ba, .int .i64 C.sh, .int .i64 C.re, .int .i64 C.mo, .int .i64 C.fi, .int .u64 C.ky, .slice L ll lc, .slice (some ⟨r, 0, none⟩) k kc] w1) := Lib.hid (by rw [← hw1]; exact (bx_new _ _ _).block ((alc (alc (alc0 _ _) _) _).block _ (by simp)))
  have XO : Hid (BX (W.heap.size + 1) #[.int .i64 11, .int .i64 t, .int .i64 a, .int .i64 b, .int .i64 v, .int .i64 n, .int .i64 mm, .slice P ln cp] w1) := Lib.hid (by rw [← hw1]; exact (bx_at _ _ _ (by simp)).block ((alc (alc0 _ _) _).block _ (by simp)))
  have XZ : Hid (BX (W.heap.size + 1 + 1) #[.int .i64 0, .int .i64 0, .int .i64 0, .int .i64 0, .int .i64 0, .int .i64 0, .int .i64 0, .int .i64 0, .int .i64 0, .int .i64 0, .int .u64 0, .slice none 0 0, .slice none 0 0] w1) := Lib.hid (by rw [← hw1]; exact (bx_at _ _ _ (by simp)).block ((alc0 _ _).block _ (by simp)))
  have XS : Hid (BX (W.heap.size + 1 + 1 + 1) #[.int .i64 0, .int .i64 0, .slice none 0 0] w1) := Lib.hid (by rw [← hw1]; exact bx_at _ _ _ (by simp))
  rw [hw1]
  clear hw1
  have HB := Lib.hid bw1
  clear bw1
  refine (rgetz b (H.out.below HB.out)).mono ?_
  rintro e w2 ⟨rfl, bw2⟩
  have sw2 := bw2.size
  replace XM := Lib.hid (XM.out.block (bw2.block (W.heap.size) (by omega)))
  replace XO := Lib.hid (XO.out.block (bw2.block (W.heap.size + 1) (by omega)))
  replace XZ := Lib.hid (XZ.out.block (bw2.block (W.heap.size + 1 + 1) (by omega)))
  replace XS := Lib.hid (XS.out.block (bw2.block (W.heap.size + 1 + 1 + 1) (by omega)))
  replace HB := Lib.hid (thn HB.out bw2)
  clear bw2
  go_upto_region 3 with (fail)
  obtain ⟨w3, hw3⟩ : ∃ w3, (w2.alloc (.cells #[.int .i64 0, .int .i64 0, .int .i64 0, .int .i64 0, .int .i64 0] 54)).alloc (.cells #[.int .i64 0, .int .i64 0, .slice none 0 0] 39) = w3 := ⟨_, rfl⟩
  have bw3 : Below w2.heap.size w2 w3 := by rw [← hw3]; exact alc (alc0 _ _) _
  have sw3 : w3.heap.size = w2.heap.size + 2 := by rw [← hw3]; simp
  have XX : Hid (BX (w2.heap.size) #[.int .i64 0, .int .i64 0, .int .i64 0, .int .i64 0, .int .i64 0] w3) := Lib.hid (by rw [← hw3]; exact (bx_new _ _ _).block ((alc0 _ _).block _ (by simp)))
  have XT : Hid (BX (w2.heap.size + 1) #[.int .i64 0, .int .i64 0, .slice none 0 0] w3) := Lib.hid (by rw [← hw3]; exact bx_at _ _ _ (by simp))
  rw [hw3]
  clear hw3
  replace XM := Lib.hid (XM.out.block (bw3.block (W.heap.size) (by omega)))
  replace XO := Lib.hid (XO.out.block (bw3.block (W.heap.size + 1) (by omega)))
  replace XZ := Lib.hid (XZ.out.block (bw3.block (W.heap.size + 1 + 1) (by omega)))
  replace XS := Lib.hid (XS.out.block (bw3.block (W.heap.size + 1 + 1 + 1) (by omega)))
  replace HB := Lib.hid (thn HB.out bw3)
  clear bw3
  obtain ⟨cM0, cM1, cM2, cM3, cM4, cM5, cM6, cM7, cM8, cM9, cM10, cM11, cM12⟩ := XM.out.c13
  obtain ⟨cO0, cO1, cO2, cO3, cO4, cO5, cO6, cO7⟩ := XO.out.c8
  obtain ⟨cX0, cX1, cX2, cX3, cX4⟩ := XX.out.c5
  obtain ⟨cT0, cT1, cT2⟩ := XT.out.c3
  obtain ⟨fT0, fT1, fT2⟩ := XT.out.f3
  go_wp2_with fail
  refine (raccess0 n 1).mono ?_
  rintro e w4 ⟨rfl, bw4⟩
  clear cM0 cM1 cM2 cM3 cM4 cM5 cM6 cM7 cM8 cM9 cM10 cM11 cM12 cO0 cO1 cO2 cO3 cO4 cO5 cO6 cO7 cX0 cX1 cX2 cX3 cX4 cT0 cT1 cT2 fT0 fT1 fT2
  have sw4 := bw4.size
  replace XM := Lib.hid (XM.out.block (bw4.block (W.heap.size) (by omega)))
  replace XO := Lib.hid (XO.out.block (bw4.block (W.heap.size + 1) (by omega)))
  replace XZ := Lib.hid (XZ.out.block (bw4.block (W.heap.size + 1 + 1) (by omega)))
  replace XS := Lib.hid (XS.out.block (bw4.block (W.heap.size + 1 + 1 + 1) (by omega)))
  replace XX := Lib.hid (XX.out.block (bw4.block (w2.heap.size) (by omega)))
  replace XT := Lib.hid (XT.out.block (bw4.block (w2.heap.size + 1) (by omega)))
  replace HB := Lib.hid (thn HB.out bw4)
  clear bw4
  obtain ⟨cM0, cM1, cM2, cM3, cM4, cM5, cM6, cM7, cM8, cM9, cM10, cM11, cM12⟩ := XM.out.c13
  obtain ⟨cO0, cO1, cO2, cO3, cO4, cO5, cO6, cO7⟩ := XO.out.c8
  obtain ⟨cT0, cT1, cT2⟩ := XT.out.c3
  obtain ⟨fT0, fT1, fT2⟩ := XT.out.f3
  go_wp2_with fail
  obtain ⟨w5, hw5⟩ : ∃ w5, w5 = w4.setCell ⟨w2.heap.size + 1, 0, none⟩ (.int .i64 7) := ⟨_, rfl⟩
  rw [← hw5]
  obtain ⟨sw5, kw5, lw5, XTn⟩ := XT.out.put1 #[.int .i64 7, .int .i64 0, .slice none 0 0] 0 (.int .i64 7) rfl (by simp) w5 hw5
  clear hw5
  clear cM0 cM1 cM2 cM3 cM4 cM5 cM6 cM7 cM8 cM9 cM10 cM11 cM12 cO0 cO1 cO2 cO3 cO4 cO5 cO6 cO7 cT0 cT1 cT2 fT0 fT1 fT2
  replace XT := Lib.hid XTn
  clear XTn
  replace XM := Lib.hid (XM.out.block (kw5 (W.heap.size) (by omega)))
  replace XO := Lib.hid (XO.out.block (kw5 (W.heap.size + 1) (by omega)))
  replace XZ := Lib.hid (XZ.out.block (kw5 (W.heap.size + 1 + 1) (by omega)))
  replace XS := Lib.hid (XS.out.block (kw5 (W.heap.size + 1 + 1 + 1) (by omega)))
  replace XX := Lib.hid (XX.out.block (kw5 (w2.heap.size) (by omega)))
  replace HB := Lib.hid (HB.out.trans (lw5 W.heap.size (by omega)))
  clear kw5 lw5
  obtain ⟨cM0, cM1, cM2, cM3, cM4, cM5, cM6, cM7, cM8, cM9, cM10, cM11, cM12⟩ := XM.out.c13
  obtain ⟨cT0, cT1, cT2⟩ := XT.out.c3
  refine wp_region_held_drew (S := fun w' => w'.cell? ⟨W.heap.size, 0, none⟩ = some (.int .i64 C.pg) ∧ w'.cell? ⟨W.heap.size, 1, none⟩ = some (.int .i64 C.rg) ∧ w'.cell? ⟨W.heap.size, 2, none⟩ = some (.int .i64 C.lg) ∧ w'.cell? ⟨W.heap.size, 3, none⟩ = some (.int .i64 C.th) ∧ w'.cell? ⟨W.heap.size, 4, none⟩ = some (.int .i64 C.ca) ∧ w'.cell? ⟨W.heap.size, 5, none⟩ = some (.int .i64 C.ba) ∧ w'.cell? ⟨W.heap.size, 6, none⟩ = some (.int .i64 C.sh) ∧ w'.cell? ⟨W.heap.size, 7, none⟩ = some (.int .i64 C.re) ∧ w'.cell? ⟨W.heap.size, 8, none⟩ = some (.int .i64 C.mo) ∧ w'.cell? ⟨W.heap.size, 9, none⟩ = some (.int .i64 C.fi) ∧ w'.cell? ⟨W.heap.size, 10, none⟩ = some (.int .u64 C.ky) ∧ w'.cell? ⟨W.heap.size, 11, none⟩ = some (.slice L ll lc) ∧ w'.cell? ⟨W.heap.size, 12, none⟩ = some (.slice (some ⟨r, 0, none⟩) k kc) ∧ w'.cell? ⟨w2.heap.size + 1, 0, none⟩ = some (.int .i64 7) ∧ w'.cell? ⟨w2.heap.size + 1, 1, none⟩ = some (.int .i64 0) ∧ w'.cell? ⟨w2.heap.size + 1, 2, none⟩ = some (.slice none 0 0)) (by kernel_rfl) ?_ (fun hHeld => ?_)
  · exact ⟨cM0, cM1, cM2, cM3, cM4, cM5, cM6, cM7, cM8, cM9, cM10, cM11, cM12, cT0, cT1, cT2⟩
  obtain ⟨cZ0, cZ1, cZ2, cZ3, cZ4, cZ5, cZ6, cZ7, cZ8, cZ9, cZ10, cZ11, cZ12⟩ := XZ.out.c13
  obtain ⟨cS0, cS1, cS2⟩ := XS.out.c3
  obtain ⟨fZ0, fZ1, fZ2, fZ3, fZ4, fZ5, fZ6, fZ7, fZ8, fZ9, fZ10, fZ11, fZ12⟩ := XZ.out.f13
  obtain ⟨fS0, fS1, fS2⟩ := XS.out.f3
  refine wpAnyH_take (i := 0) (v := ?_) rfl (by kernel_rfl) (by kernel_rfl) (by kernel_rfl) (fun _ _ _ h => h) (Or.inl ⟨by kernel_rfl, ?_⟩) (by assumption) ?_
  rotate_left
  · (intro w hSw; (try dsimp only at hSw); go_simp)
    try (with_reducible rfl)
  rotate_left
  try simp (maxSteps := 4000000) only [Act.put, List.setIfInBounds_toArray, List.set_cons_zero, List.set_cons_succ, List.getElem_toArray, List.getElem_cons_zero, List.getElem_cons_succ]
  refine wpAnyH_take (i := 1) (v := ?_) rfl (by kernel_rfl) (by kernel_rfl) (by kernel_rfl) (fun _ _ _ h => h) (Or.inl ⟨by kernel_rfl, ?_⟩) (by assumption) ?_
  rotate_left
  · (intro w hSw; (try dsimp only at hSw); go_simp)
    try (with_reducible rfl)
  rotate_left
  try simp (maxSteps := 4000000) only [Act.put, List.setIfInBounds_toArray, List.set_cons_zero, List.set_cons_succ, List.getElem_toArray, List.getElem_cons_zero, List.getElem_cons_succ]
  refine wpAnyH_ready (rs := [2]) (by kernel_rfl) (by simp) ?_
  refine AllReadyH.cons rfl (fun K2 hK2 => ?_) AllReadyH.nil
  go_simp
  obtain ⟨w6, hw6⟩ : ∃ w6, w6 = sets13 w5 (W.heap.size + 1 + 1) (.int .i64 C.pg) (.int .i64 C.rg) (.int .i64 C.lg) (.int .i64 C.th) (.int .i64 C.ca) (.int .i64 C.ba) (.int .i64 C.sh) (.int .i64 C.re) (.int .i64 C.mo) (.int .i64 C.fi) (.int .u64 C.ky) (.slice L ll lc) (.slice (some ⟨r, 0, none⟩) k kc) := ⟨_, rfl⟩
  obtain ⟨sw6, kw6, lw6, XZn⟩ := XZ.out.put13s rfl hw6
  unfold sets13 at hw6
  rw [← hw6]
  clear hw6
  clear cM0 cM1 cM2 cM3 cM4 cM5 cM6 cM7 cM8 cM9 cM10 cM11 cM12 cT0 cT1 cT2 cZ0 cZ1 cZ2 cZ3 cZ4 cZ5 cZ6 cZ7 cZ8 cZ9 cZ10 cZ11 cZ12 cS0 cS1 cS2 fZ0 fZ1 fZ2 fZ3 fZ4 fZ5 fZ6 fZ7 fZ8 fZ9 fZ10 fZ11 fZ12 fS0 fS1 fS2
  replace XZ := Lib.hid XZn
  clear XZn
  replace XM := Lib.hid (XM.out.block (kw6 (W.heap.size) (by omega)))
  replace XO := Lib.hid (XO.out.block (kw6 (W.heap.size + 1) (by omega)))
  replace XS := Lib.hid (XS.out.block (kw6 (W.heap.size + 1 + 1 + 1) (by omega)))
  replace XX := Lib.hid (XX.out.block (kw6 (w2.heap.size) (by omega)))
  replace XT := Lib.hid (XT.out.block (kw6 (w2.heap.size + 1) (by omega)))
  replace HB := Lib.hid (HB.out.trans (lw6 W.heap.size (by omega)))
  clear kw6 lw6
  obtain ⟨w7, hw7⟩ : ∃ w7, w6.drew = w7 := ⟨_, rfl⟩
  rw [hw7]
  have bw7 : Below w6.heap.size w6 w7 := by rw [← hw7]; exact (Below.refl _ w6).drew
  have sw7 : w7.heap.size = w6.heap.size := by rw [← hw7]; rfl
  clear hw7
  replace XM := Lib.hid (XM.out.block (bw7.block (W.heap.size) (by omega)))
  replace XO := Lib.hid (XO.out.block (bw7.block (W.heap.size + 1) (by omega)))
  replace XZ := Lib.hid (XZ.out.block (bw7.block (W.heap.size + 1 + 1) (by omega)))
  replace XS := Lib.hid (XS.out.block (bw7.block (W.heap.size + 1 + 1 + 1) (by omega)))
  replace XX := Lib.hid (XX.out.block (bw7.block (w2.heap.size) (by omega)))
  replace XT := Lib.hid (XT.out.block (bw7.block (w2.heap.size + 1) (by omega)))
  replace HB := Lib.hid (thn HB.out bw7)
  clear bw7
  obtain ⟨cM0, cM1, cM2, cM3, cM4, cM5, cM6, cM7, cM8, cM9, cM10, cM11, cM12⟩ := XM.out.c13
  obtain ⟨cZ0, cZ1, cZ2, cZ3, cZ4, cZ5, cZ6, cZ7, cZ8, cZ9, cZ10, cZ11, cZ12⟩ := XZ.out.c13
  obtain ⟨cT0, cT1, cT2⟩ := XT.out.c3
  obtain ⟨cS0, cS1, cS2⟩ := XS.out.c3
  obtain ⟨fS0, fS1, fS2⟩ := XS.out.f3
  refine hK2.out _ _ (⟨cM0, cM1, cM2, cM3, cM4, cM5, cM6, cM7, cM8, cM9, cM10, cM11, cM12, cT0, cT1, cT2⟩) (fun hHeld2 => ?_)
  clear hK2 K2 hHeld
  have hHeld := hHeld2
  clear hHeld2
  try simp (maxSteps := 4000000) only [Act.put, List.setIfInBounds_toArray, List.set_cons_zero, List.set_cons_succ]
  refine wpAnyH_ready (rs := [3]) (by kernel_rfl) (by simp) ?_
  refine AllReadyH.cons rfl (fun K2 hK2 => ?_) AllReadyH.nil
  go_simp
  obtain ⟨w8, hw8⟩ : ∃ w8, w8 = sets3 w7 (W.heap.size + 1 + 1 + 1) (.int .i64 7) (.int .i64 0) (.slice none 0 0) := ⟨_, rfl⟩
  obtain ⟨sw8, kw8, lw8, XSn⟩ := XS.out.put3s rfl hw8
  unfold sets3 at hw8
  rw [← hw8]
  clear hw8
  clear cM0 cM1 cM2 cM3 cM4 cM5 cM6 cM7 cM8 cM9 cM10 cM11 cM12 cZ0 cZ1 cZ2 cZ3 cZ4 cZ5 cZ6 cZ7 cZ8 cZ9 cZ10 cZ11 cZ12 cT0 cT1 cT2 cS0 cS1 cS2 fS0 fS1 fS2
  replace XS := Lib.hid XSn
  clear XSn
  replace XM := Lib.hid (XM.out.block (kw8 (W.heap.size) (by omega)))
  replace XO := Lib.hid (XO.out.block (kw8 (W.heap.size + 1) (by omega)))
  replace XZ := Lib.hid (XZ.out.block (kw8 (W.heap.size + 1 + 1) (by omega)))
  replace XX := Lib.hid (XX.out.block (kw8 (w2.heap.size) (by omega)))
  replace XT := Lib.hid (XT.out.block (kw8 (w2.heap.size + 1) (by omega)))
  replace HB := Lib.hid (HB.out.trans (lw8 W.heap.size (by omega)))
  clear kw8 lw8
  obtain ⟨cM0, cM1, cM2, cM3, cM4, cM5, cM6, cM7, cM8, cM9, cM10, cM11, cM12⟩ := XM.out.c13
  obtain ⟨cT0, cT1, cT2⟩ := XT.out.c3
  obtain ⟨cZ0, cZ1, cZ2, cZ3, cZ4, cZ5, cZ6, cZ7, cZ8, cZ9, cZ10, cZ11, cZ12⟩ := XZ.out.c13
  obtain ⟨cS0, cS1, cS2⟩ := XS.out.c3
  refine hK2.out _ _ (⟨cM0, cM1, cM2, cM3, cM4, cM5, cM6, cM7, cM8, cM9, cM10, cM11, cM12, cT0, cT1, cT2⟩) (fun hHeld2 => ?_)
  clear hK2 K2 hHeld
  have hHeld := hHeld2
  clear hHeld2
  try simp (maxSteps := 4000000) only [Act.put, List.setIfInBounds_toArray, List.set_cons_zero, List.set_cons_succ]
  refine wpAnyH_done (by kernel_rfl) ?_ _
  go_wp2_with fail
  refine bodyPost_ret (v := .tuple #[rmv C L ll lc (some ⟨r, 0, none⟩) k kc, .agg #[rE 7, .int .i64 0, .slice none 0 0]]) (by simp [results, Try.results30, go_sem, cZ0, cZ1, cZ2, cZ3, cZ4, cZ5, cZ6, cZ7, cZ8, cZ9, cZ10, cZ11, cZ12, cS0, cS1, cS2]) rfl ⟨rfl, HB.out⟩
set_option maxHeartbeats 1600000 in
theorem ruse12 (t a b v n mm : Int) (P : Option Addr) (ln cp : Nat) (h1 : ¬ (ln : Int) > 4096)  (h : RZ r k W) : Calls Try.prog 30 #[rmv C L ll lc (some ⟨r, 0, none⟩) k kc, opv 12 t a b v n mm P ln cp] W fun e w' => e = .returned (.tuple #[rmv C L ll lc (some ⟨r, 0, none⟩) k kc, .agg #[rE 7, .int .i64 0, .slice none 0 0]]) ∧ Below W.heap.size W w' := by
  have H := Lib.hid h
  clear h
  go_enter Try.func30, Try.ntmps30
  go_wp2_with fail
  obtain ⟨w1, hw1⟩ : ∃ w1, (((W.alloc (.cells #[.int .i64 C.pg, .int .i64 C.rg, .int .i64 C.lg, .int .i64 C.th, .int .i64 C.ca, .int .i64 C.ba, .int .i64 C.sh, .int .i64 C.re, .int .i64 C.mo, .int .i64 C.fi, .int .u64 C.ky, .slice L ll lc, .slice (some ⟨r, 0, none⟩) k kc] 34)).alloc (.cells #[.int .i64 12, .int .i64 t, .int .i64 a, .int .i64 b, .int .i64 v, .int .i64 n, .int .i64 mm, .slice P ln cp] 41)).alloc (.cells #[.int .i64 0, .int .i64 0, .int .i64 0, .int .i64 0, .int .i64 0, .int .i64 0, .int .i64 0, .int .i64 0, .int .i64 0, .int .i64 0, .int .u64 0, .slice none 0 0, .slice none 0 0] 34)).alloc (.cells #[.int .i64 0, .int .i64 0, .slice none 0 0] 39) = w1 := ⟨_, rfl⟩
  have bw1 : Below W.heap.size W w1 := by rw [← hw1]; exact alc (alc (alc (alc0 _ _) _) _) _
  have sw1 : w1.heap.size = W.heap.size + 4 := by rw [← hw1]; simp
  have XM : Hid (BX (W.heap.size) #[.int .i64 C.pg, .int .i64 C.rg, .int .i64 C.lg, .int .i64 C.th, .int .i64 C.ca, .int .i64 C.ba, .int .i64 C.sh, .int .i64 C.re, .int .i64 C.mo, .int .i64 C.fi, .int .u64 C.ky, .slice L ll lc, .slice (some ⟨r, 0, none⟩) k kc] w1) := Lib.hid (by rw [← hw1]; exact (bx_new _ _ _).block ((alc (alc (alc0 _ _) _) _).block _ (by simp)))
  have XO : Hid (BX (W.heap.size + 1) #[.int .i64 12, .int .i64 t, .int .i64 a, .int .i64 b, .int .i64 v, .int .i64 n, .int .i64 mm, .slice P ln cp] w1) := Lib.hid (by rw [← hw1]; exact (bx_at _ _ _ (by simp)).block ((alc (alc0 _ _) _).block _ (by simp)))
  have XZ : Hid (BX (W.heap.size + 1 + 1) #[.int .i64 0, .int .i64 0, .int .i64 0, .int .i64 0, .int .i64 0, .int .i64 0, .int .i64 0, .int .i64 0, .int .i64 0, .int .i64 0, .int .u64 0, .slice none 0 0, .slice none 0 0] w1) := Lib.hid (by rw [← hw1]; exact (bx_at _ _ _ (by simp)).block ((alc0 _ _).block _ (by simp)))
  have XS : Hid (BX (W.heap.size + 1 + 1 + 1) #[.int .i64 0, .int .i64 0, .slice none 0 0] w1) := Lib.hid (by rw [← hw1]; exact bx_at _ _ _ (by simp))
  rw [hw1]
  clear hw1
  have HB := Lib.hid bw1
  clear bw1
  refine (rgetz b (H.out.below HB.out)).mono ?_
  rintro e w2 ⟨rfl, bw2⟩
  have sw2 := bw2.size
  replace XM := Lib.hid (XM.out.block (bw2.block (W.heap.size) (by omega)))
  replace XO := Lib.hid (XO.out.block (bw2.block (W.heap.size + 1) (by omega)))
  replace XZ := Lib.hid (XZ.out.block (bw2.block (W.heap.size + 1 + 1) (by omega)))
  replace XS := Lib.hid (XS.out.block (bw2.block (W.heap.size + 1 + 1 + 1) (by omega)))
  replace HB := Lib.hid (thn HB.out bw2)
  clear bw2
  go_upto_region 3 with (fail)
  obtain ⟨w3, hw3⟩ : ∃ w3, (w2.alloc (.cells #[.int .i64 0, .int .i64 0, .int .i64 0, .int .i64 0, .int .i64 0] 54)).alloc (.cells #[.int .i64 0, .int .i64 0, .slice none 0 0] 39) = w3 := ⟨_, rfl⟩
  have bw3 : Below w2.heap.size w2 w3 := by rw [← hw3]; exact alc (alc0 _ _) _
  have sw3 : w3.heap.size = w2.heap.size + 2 := by rw [← hw3]; simp
  have XX : Hid (BX (w2.heap.size) #[.int .i64 0, .int .i64 0, .int .i64 0, .int .i64 0, .int .i64 0] w3) := Lib.hid (by rw [← hw3]; exact (bx_new _ _ _).block ((alc0 _ _).block _ (by simp)))
  have XT : Hid (BX (w2.heap.size + 1) #[.int .i64 0, .int .i64 0, .slice none 0 0] w3) := Lib.hid (by rw [← hw3]; exact bx_at _ _ _ (by simp))
  rw [hw3]
  clear hw3
  replace XM := Lib.hid (XM.out.block (bw3.block (W.heap.size) (by omega)))
  replace XO := Lib.hid (XO.out.block (bw3.block (W.heap.size + 1) (by omega)))
  replace XZ := Lib.hid (XZ.out.block (bw3.block (W.heap.size + 1 + 1) (by omega)))
  replace XS := Lib.hid (XS.out.block (bw3.block (W.heap.size + 1 + 1 + 1) (by omega)))
  replace HB := Lib.hid (thn HB.out bw3)
  clear bw3
  obtain ⟨cM0, cM1, cM2, cM3, cM4, cM5, cM6, cM7, cM8, cM9, cM10, cM11, cM12⟩ := XM.out.c13
  obtain ⟨cO0, cO1, cO2, cO3, cO4, cO5, cO6, cO7⟩ := XO.out.c8
  obtain ⟨cX0, cX1, cX2, cX3, cX4⟩ := XX.out.c5
  obtain ⟨cT0, cT1, cT2⟩ := XT.out.c3
  obtain ⟨fT0, fT1, fT2⟩ := XT.out.f3
  go_wp2_with fail
  refine (raccess0 _ 2).mono ?_
  rintro e w4 ⟨rfl, bw4⟩
  clear cM0 cM1 cM2 cM3 cM4 cM5 cM6 cM7 cM8 cM9 cM10 cM11 cM12 cO0 cO1 cO2 cO3 cO4 cO5 cO6 cO7 cX0 cX1 cX2 cX3 cX4 cT0 cT1 cT2 fT0 fT1 fT2
  have sw4 := bw4.size
  replace XM := Lib.hid (XM.out.block (bw4.block (W.heap.size) (by omega)))
  replace XO := Lib.hid (XO.out.block (bw4.block (W.heap.size + 1) (by omega)))
  replace XZ := Lib.hid (XZ.out.block (bw4.block (W.heap.size + 1 + 1) (by omega)))
  replace XS := Lib.hid (XS.out.block (bw4.block (W.heap.size + 1 + 1 + 1) (by omega)))
  replace XX := Lib.hid (XX.out.block (bw4.block (w2.heap.size) (by omega)))
  replace XT := Lib.hid (XT.out.block (bw4.block (w2.heap.size + 1) (by omega)))
  replace HB := Lib.hid (thn HB.out bw4)
  clear bw4
  obtain ⟨cM0, cM1, cM2, cM3, cM4, cM5, cM6, cM7, cM8, cM9, cM10, cM11, cM12⟩ := XM.out.c13
  obtain ⟨cO0, cO1, cO2, cO3, cO4, cO5, cO6, cO7⟩ := XO.out.c8
  obtain ⟨cT0, cT1, cT2⟩ := XT.out.c3
  obtain ⟨fT0, fT1, fT2⟩ := XT.out.f3
  go_wp2_with fail
  obtain ⟨w5, hw5⟩ : ∃ w5, w5 = w4.setCell ⟨w2.heap.size + 1, 0, none⟩ (.int .i64 7) := ⟨_, rfl⟩
  rw [← hw5]
  obtain ⟨sw5, kw5, lw5, XTn⟩ := XT.out.put1 #[.int .i64 7, .int .i64 0, .slice none 0 0] 0 (.int .i64 7) rfl (by simp) w5 hw5
  clear hw5
  clear cM0 cM1 cM2 cM3 cM4 cM5 cM6 cM7 cM8 cM9 cM10 cM11 cM12 cO0 cO1 cO2 cO3 cO4 cO5 cO6 cO7 cT0 cT1 cT2 fT0 fT1 fT2
  replace XT := Lib.hid XTn
  clear XTn
  replace XM := Lib.hid (XM.out.block (kw5 (W.heap.size) (by omega)))
  replace XO := Lib.hid (XO.out.block (kw5 (W.heap.size + 1) (by omega)))
  replace XZ := Lib.hid (XZ.out.block (kw5 (W.heap.size + 1 + 1) (by omega)))
  replace XS := Lib.hid (XS.out.block (kw5 (W.heap.size + 1 + 1 + 1) (by omega)))
  replace XX := Lib.hid (XX.out.block (kw5 (w2.heap.size) (by omega)))
  replace HB := Lib.hid (HB.out.trans (lw5 W.heap.size (by omega)))
  clear kw5 lw5
  obtain ⟨cM0, cM1, cM2, cM3, cM4, cM5, cM6, cM7, cM8, cM9, cM10, cM11, cM12⟩ := XM.out.c13
  obtain ⟨cT0, cT1, cT2⟩ := XT.out.c3
  refine wp_region_held_drew (S := fun w' => w'.cell? ⟨W.heap.size, 0, none⟩ = some (.int .i64 C.pg) ∧ w'.cell? ⟨W.heap.size, 1, none⟩ = some (.int .i64 C.rg) ∧ w'.cell? ⟨W.heap.size, 2, none⟩ = some (.int .i64 C.lg) ∧ w'.cell? ⟨W.heap.size, 3, none⟩ = some (.int .i64 C.th) ∧ w'.cell? ⟨W.heap.size, 4, none⟩ = some (.int .i64 C.ca) ∧ w'.cell? ⟨W.heap.size, 5, none⟩ = some (.int .i64 C.ba) ∧ w'.cell? ⟨W.heap.size, 6, none⟩ = some (.int .i64 C.sh) ∧ w'.cell? ⟨W.heap.size, 7, none⟩ = some (.int .i64 C.re) ∧ w'.cell? ⟨W.heap.size, 8, none⟩ = some (.int .i64 C.mo) ∧ w'.cell? ⟨W.heap.size, 9, none⟩ = some (.int .i64 C.fi) ∧ w'.cell? ⟨W.heap.size, 10, none⟩ = some (.int .u64 C.ky) ∧ w'.cell? ⟨W.heap.size, 11, none⟩ = some (.slice L ll lc) ∧ w'.cell? ⟨W.heap.size, 12, none⟩ = some (.slice (some ⟨r, 0, none⟩) k kc) ∧ w'.cell? ⟨w2.heap.size + 1, 0, none⟩ = some (.int .i64 7) ∧ w'.cell? ⟨w2.heap.size + 1, 1, none⟩ = some (.int .i64 0) ∧ w'.cell? ⟨w2.heap.size + 1, 2, none⟩ = some (.slice none 0 0)) (by kernel_rfl) ?_ (fun hHeld => ?_)
  · exact ⟨cM0, cM1, cM2, cM3, cM4, cM5, cM6, cM7, cM8, cM9, cM10, cM11, cM12, cT0, cT1, cT2⟩
  obtain ⟨cZ0, cZ1, cZ2, cZ3, cZ4, cZ5, cZ6, cZ7, cZ8, cZ9, cZ10, cZ11, cZ12⟩ := XZ.out.c13
  obtain ⟨cS0, cS1, cS2⟩ := XS.out.c3
  obtain ⟨fZ0, fZ1, fZ2, fZ3, fZ4, fZ5, fZ6, fZ7, fZ8, fZ9, fZ10, fZ11, fZ12⟩ := XZ.out.f13
  obtain ⟨fS0, fS1, fS2⟩ := XS.out.f3
  refine wpAnyH_take (i := 0) (v := ?_) rfl (by kernel_rfl) (by kernel_rfl) (by kernel_rfl) (fun _ _ _ h => h) (Or.inl ⟨by kernel_rfl, ?_⟩) (by assumption) ?_
  rotate_left
  · (intro w hSw; (try dsimp only at hSw); go_simp)
    try (with_reducible rfl)
  rotate_left
  try simp (maxSteps := 4000000) only [Act.put, List.setIfInBounds_toArray, List.set_cons_zero, List.set_cons_succ, List.getElem_toArray, List.getElem_cons_zero, List.getElem_cons_succ]
  refine wpAnyH_take (i := 1) (v := ?_) rfl (by kernel_rfl) (by kernel_rfl) (by kernel_rfl) (fun _ _ _ h => h) (Or.inl ⟨by kernel_rfl, ?_⟩) (by assumption) ?_
  rotate_left
  · (intro w hSw; (try dsimp only at hSw); go_simp)
    try (with_reducible rfl)
  rotate_left
  try simp (maxSteps := 4000000) only [Act.put, List.setIfInBounds_toArray, List.set_cons_zero, List.set_cons_succ, List.getElem_toArray, List.getElem_cons_zero, List.getElem_cons_succ]
  refine wpAnyH_ready (rs := [2]) (by kernel_rfl) (by simp) ?_
  refine AllReadyH.cons rfl (fun K2 hK2 => ?_) AllReadyH.nil
  go_simp
  obtain ⟨w6, hw6⟩ : ∃ w6, w6 = sets13 w5 (W.heap.size + 1 + 1) (.int .i64 C.pg) (.int .i64 C.rg) (.int .i64 C.lg) (.int .i64 C.th) (.int .i64 C.ca) (.int .i64 C.ba) (.int .i64 C.sh) (.int .i64 C.re) (.int .i64 C.mo) (.int .i64 C.fi) (.int .u64 C.ky) (.slice L ll lc) (.slice (some ⟨r, 0, none⟩) k kc) := ⟨_, rfl⟩
  obtain ⟨sw6, kw6, lw6, XZn⟩ := XZ.out.put13s rfl hw6
  unfold sets13 at hw6
  rw [← hw6]
  clear hw6
  clear cM0 cM1 cM2 cM3 cM4 cM5 cM6 cM7 cM8 cM9 cM10 cM11 cM12 cT0 cT1 cT2 cZ0 cZ1 cZ2 cZ3 cZ4 cZ5 cZ6 cZ7 cZ8 cZ9 cZ10 cZ11 cZ12 cS0 cS1 cS2 fZ0 fZ1 fZ2 fZ3 fZ4 fZ5 fZ6 fZ7 fZ8 fZ9 fZ10 fZ11 fZ12 fS0 fS1 fS2
  replace XZ := Lib.hid XZn
  clear XZn
  replace XM := Lib.hid (XM.out.block (kw6 (W.heap.size) (by omega)))
  replace XO := Lib.hid (XO.out.block (kw6 (W.heap.size + 1) (by omega)))
  replace XS := Lib.hid (XS.out.block (kw6 (W.heap.size + 1 + 1 + 1) (by omega)))
  replace XX := Lib.hid (XX.out.block (kw6 (w2.heap.size) (by omega)))
  replace XT := Lib.hid (XT.out.block (kw6 (w2.heap.size + 1) (by omega)))
  replace HB := Lib.hid (HB.out.trans (lw6 W.heap.size (by omega)))
  clear kw6 lw6
  obtain ⟨w7, hw7⟩ : ∃ w7, w6.drew = w7 := ⟨_, rfl⟩
  rw [hw7]
  have bw7 : Below w6.heap.size w6 w7 := by rw [← hw7]; exact (Below.refl _ w6).drew
  have sw7 : w7.heap.size = w6.heap.size := by rw [← hw7]; rfl
  clear hw7
  replace XM := Lib.hid (XM.out.block (bw7.block (W.heap.size) (by omega)))
  replace XO := Lib.hid (XO.out.block (bw7.block (W.heap.size + 1) (by omega)))
  replace XZ := Lib.hid (XZ.out.block (bw7.block (W.heap.size + 1 + 1) (by omega)))
  replace XS := Lib.hid (XS.out.block (bw7.block (W.heap.size + 1 + 1 + 1) (by omega)))
  replace XX := Lib.hid (XX.out.block (bw7.block (w2.heap.size) (by omega)))
  replace XT := Lib.hid (XT.out.block (bw7.block (w2.heap.size + 1) (by omega)))
  replace HB := Lib.hid (thn HB.out bw7)
  clear bw7
  obtain ⟨cM0, cM1, cM2, cM3, cM4, cM5, cM6, cM7, cM8, cM9, cM10, cM11, cM12⟩ := XM.out.c13
  obtain ⟨cZ0, cZ1, cZ2, cZ3, cZ4, cZ5, cZ6, cZ7, cZ8, cZ9, cZ10, cZ11, cZ12⟩ := XZ.out.c13
  obtain ⟨cT0, cT1, cT2⟩ := XT.out.c3
  obtain ⟨cS0, cS1, cS2⟩ := XS.out.c3
  obtain ⟨fS0, fS1, fS2⟩ := XS.out.f3
  refine hK2.out _ _ (⟨cM0, cM1, cM2, cM3, cM4, cM5, cM6, cM7, cM8, cM9, cM10, cM11, cM12, cT0, cT1, cT2⟩) (fun hHeld2 => ?_)
  clear hK2 K2 hHeld
  have hHeld := hHeld2
  clear hHeld2
  try simp (maxSteps := 4000000) only [Act.put, List.setIfInBounds_toArray, List.set_cons_zero, List.set_cons_succ]
  refine wpAnyH_ready (rs := [3]) (by kernel_rfl) (by simp) ?_
  refine AllReadyH.cons rfl (fun K2 hK2 => ?_) AllReadyH.nil
  go_simp
  obtain ⟨w8, hw8⟩ : ∃ w8, w8 = sets3 w7 (W.heap.size + 1 + 1 + 1) (.int .i64 7) (.int .i64 0) (.slice none 0 0) := ⟨_, rfl⟩
  obtain ⟨sw8, kw8, lw8, XSn⟩ := XS.out.put3s rfl hw8
  unfold sets3 at hw8
  rw [← hw8]
  clear hw8
  clear cM0 cM1 cM2 cM3 cM4 cM5 cM6 cM7 cM8 cM9 cM10 cM11 cM12 cZ0 cZ1 cZ2 cZ3 cZ4 cZ5 cZ6 cZ7 cZ8 cZ9 cZ10 cZ11 cZ12 cT0 cT1 cT2 cS0 cS1 cS2 fS0 fS1 fS2
  replace XS := Lib.hid XSn
  clear XSn
  replace XM := Lib.hid (XM.out.block (kw8 (W.heap.size) (by omega)))
  replace XO := Lib.hid (XO.out.block (kw8 (W.heap.size + 1) (by omega)))
  replace XZ := Lib.hid (XZ.out.block (kw8 (W.heap.size + 1 + 1) (by omega)))
  replace XX := Lib.hid (XX.out.block (kw8 (w2.heap.size) (by omega)))
  replace XT := Lib.hid (XT.out.block (kw8 (w2.heap.size + 1) (by omega)))
  replace HB := Lib.hid (HB.out.trans (lw8 W.heap.size (by omega)))
  clear kw8 lw8
  obtain ⟨cM0, cM1, cM2, cM3, cM4, cM5, cM6, cM7, cM8, cM9, cM10, cM11, cM12⟩ := XM.out.c13
  obtain ⟨cT0, cT1, cT2⟩ := XT.out.c3
  obtain ⟨cZ0, cZ1, cZ2, cZ3, cZ4, cZ5, cZ6, cZ7, cZ8, cZ9, cZ10, cZ11, cZ12⟩ := XZ.out.c13
  obtain ⟨cS0, cS1, cS2⟩ := XS.out.c3
  refine hK2.out _ _ (⟨cM0, cM1, cM2, cM3, cM4, cM5, cM6, cM7, cM8, cM9, cM10, cM11, cM12, cT0, cT1, cT2⟩) (fun hHeld2 => ?_)
  clear hK2 K2 hHeld
  have hHeld := hHeld2
  clear hHeld2
  try simp (maxSteps := 4000000) only [Act.put, List.setIfInBounds_toArray, List.set_cons_zero, List.set_cons_succ]
  refine wpAnyH_done (by kernel_rfl) ?_ _
  go_wp2_with fail
  refine bodyPost_ret (v := .tuple #[rmv C L ll lc (some ⟨r, 0, none⟩) k kc, .agg #[rE 7, .int .i64 0, .slice none 0 0]]) (by simp [results, Try.results30, go_sem, cZ0, cZ1, cZ2, cZ3, cZ4, cZ5, cZ6, cZ7, cZ8, cZ9, cZ10, cZ11, cZ12, cS0, cS1, cS2]) rfl ⟨rfl, HB.out⟩
set_option maxHeartbeats 1600000 in
theorem ruse14 (t a b v n mm : Int) (P : Option Addr) (ln cp : Nat)  (h : RZ r k W) : Calls Try.prog 30 #[rmv C L ll lc (some ⟨r, 0, none⟩) k kc, opv 14 t a b v n mm P ln cp] W fun e w' => e = .returned (.tuple #[rmv C L ll lc (some ⟨r, 0, none⟩) k kc, .agg #[rE 7, .int .i64 0, .slice none 0 0]]) ∧ Below W.heap.size W w' := by
  have H := Lib.hid h
  clear h
  go_enter Try.func30, Try.ntmps30
  go_wp2_with fail
  obtain ⟨w1, hw1⟩ : ∃ w1, (((W.alloc (.cells #[.int .i64 C.pg, .int .i64 C.rg, .int .i64 C.lg, .int .i64 C.th, .int .i64 C.ca, .int .i64 C.ba, .int .i64 C.sh, .int .i64 C.re, .int .i64 C.mo, .int .i64 C.fi, .int .u64 C.ky, .slice L ll lc, .slice (some ⟨r, 0, none⟩) k kc] 34)).alloc (.cells #[.int .i64 14, .int .i64 t, .int .i64 a, .int .i64 b, .int .i64 v, .int .i64 n, .int .i64 mm, .slice P ln cp] 41)).alloc (.cells #[.int .i64 0, .int .i64 0, .int .i64 0, .int .i64 0, .int .i64 0, .int .i64 0, .int .i64 0, .int .i64 0, .int .i64 0, .int .i64 0, .int .u64 0, .slice none 0 0, .slice none 0 0] 34)).alloc (.cells #[.int .i64 0, .int .i64 0, .slice none 0 0] 39) = w1 := ⟨_, rfl⟩
  have bw1 : Below W.heap.size W w1 := by rw [← hw1]; exact alc (alc (alc (alc0 _ _) _) _) _
  have sw1 : w1.heap.size = W.heap.size + 4 := by rw [← hw1]; simp
  have XM : Hid (BX (W.heap.size) #[.int .i64 C.pg, .int .i64 C.rg, .int .i64 C.lg, .int .i64 C.th, .int .i64 C.ca, .int .i64 C.ba, .int .i64 C.sh, .int .i64 C.re, .int .i64 C.mo, .int .i64 C.fi, .int .u64 C.ky, .slice L ll lc, .slice (some ⟨r, 0, none⟩) k kc] w1) := Lib.hid (by rw [← hw1]; exact (bx_new _ _ _).block ((alc (alc (alc0 _ _) _) _).block _ (by simp)))
  have XO : Hid (BX (W.heap.size + 1) #[.int .i64 14, .int .i64 t, .int .i64 a, .int .i64 b, .int .i64 v, .int .i64 n, .int .i64 mm, .slice P ln cp] w1) := Lib.hid (by rw [← hw1]; exact (bx_at _ _ _ (by simp)).block ((alc (alc0 _ _) _).block _ (by simp)))
  have XZ : Hid (BX (W.heap.size + 1 + 1) #[.int .i64 0, .int .i64 0, .int .i64 0, .int .i64 0, .int .i64 0, .int .i64 0, .int .i64 0, .int .i64 0, .int .i64 0, .int .i64 0, .int .u64 0, .slice none 0 0, .slice none 0 0] w1) := Lib.hid (by rw [← hw1]; exact (bx_at _ _ _ (by simp)).block ((alc0 _ _).block _ (by simp)))
  have XS : Hid (BX (W.heap.size + 1 + 1 + 1) #[.int .i64 0, .int .i64 0, .slice none 0 0] w1) := Lib.hid (by rw [← hw1]; exact bx_at _ _ _ (by simp))
  rw [hw1]
  clear hw1
  have HB := Lib.hid bw1
  clear bw1
  refine (rgetz b (H.out.below HB.out)).mono ?_
  rintro e w2 ⟨rfl, bw2⟩
  have sw2 := bw2.size
  replace XM := Lib.hid (XM.out.block (bw2.block (W.heap.size) (by omega)))
  replace XO := Lib.hid (XO.out.block (bw2.block (W.heap.size + 1) (by omega)))
  replace XZ := Lib.hid (XZ.out.block (bw2.block (W.heap.size + 1 + 1) (by omega)))
  replace XS := Lib.hid (XS.out.block (bw2.block (W.heap.size + 1 + 1 + 1) (by omega)))
  replace HB := Lib.hid (thn HB.out bw2)
  clear bw2
  go_upto_region 3 with (fail)
  obtain ⟨w3, hw3⟩ : ∃ w3, (w2.alloc (.cells #[.int .i64 0, .int .i64 0, .int .i64 0, .int .i64 0, .int .i64 0] 54)).alloc (.cells #[.int .i64 0, .int .i64 0, .slice none 0 0] 39) = w3 := ⟨_, rfl⟩
  have bw3 : Below w2.heap.size w2 w3 := by rw [← hw3]; exact alc (alc0 _ _) _
  have sw3 : w3.heap.size = w2.heap.size + 2 := by rw [← hw3]; simp
  have XX : Hid (BX (w2.heap.size) #[.int .i64 0, .int .i64 0, .int .i64 0, .int .i64 0, .int .i64 0] w3) := Lib.hid (by rw [← hw3]; exact (bx_new _ _ _).block ((alc0 _ _).block _ (by simp)))
  have XT : Hid (BX (w2.heap.size + 1) #[.int .i64 0, .int .i64 0, .slice none 0 0] w3) := Lib.hid (by rw [← hw3]; exact bx_at _ _ _ (by simp))
  rw [hw3]
  clear hw3
  replace XM := Lib.hid (XM.out.block (bw3.block (W.heap.size) (by omega)))
  replace XO := Lib.hid (XO.out.block (bw3.block (W.heap.size + 1) (by omega)))
  replace XZ := Lib.hid (XZ.out.block (bw3.block (W.heap.size + 1 + 1) (by omega)))
  replace XS := Lib.hid (XS.out.block (bw3.block (W.heap.size + 1 + 1 + 1) (by omega)))
  replace HB := Lib.hid (thn HB.out bw3)
  clear bw3
  obtain ⟨cM0, cM1, cM2, cM3, cM4, cM5, cM6, cM7, cM8, cM9, cM10, cM11, cM12⟩ := XM.out.c13
  obtain ⟨cO0, cO1, cO2, cO3, cO4, cO5, cO6, cO7⟩ := XO.out.c8
  obtain ⟨cX0, cX1, cX2, cX3, cX4⟩ := XX.out.c5
  obtain ⟨cT0, cT1, cT2⟩ := XT.out.c3
  obtain ⟨fT0, fT1, fT2⟩ := XT.out.f3
  go_wp2_with fail
  refine (rslot0 8).mono ?_
  rintro e w4 ⟨rfl, bw4⟩
  clear cM0 cM1 cM2 cM3 cM4 cM5 cM6 cM7 cM8 cM9 cM10 cM11 cM12 cO0 cO1 cO2 cO3 cO4 cO5 cO6 cO7 cX0 cX1 cX2 cX3 cX4 cT0 cT1 cT2 fT0 fT1 fT2
  have sw4 := bw4.size
  replace XM := Lib.hid (XM.out.block (bw4.block (W.heap.size) (by omega)))
  replace XO := Lib.hid (XO.out.block (bw4.block (W.heap.size + 1) (by omega)))
  replace XZ := Lib.hid (XZ.out.block (bw4.block (W.heap.size + 1 + 1) (by omega)))
  replace XS := Lib.hid (XS.out.block (bw4.block (W.heap.size + 1 + 1 + 1) (by omega)))
  replace XX := Lib.hid (XX.out.block (bw4.block (w2.heap.size) (by omega)))
  replace XT := Lib.hid (XT.out.block (bw4.block (w2.heap.size + 1) (by omega)))
  replace HB := Lib.hid (thn HB.out bw4)
  clear bw4
  obtain ⟨cM0, cM1, cM2, cM3, cM4, cM5, cM6, cM7, cM8, cM9, cM10, cM11, cM12⟩ := XM.out.c13
  obtain ⟨cO0, cO1, cO2, cO3, cO4, cO5, cO6, cO7⟩ := XO.out.c8
  obtain ⟨cT0, cT1, cT2⟩ := XT.out.c3
  obtain ⟨fT0, fT1, fT2⟩ := XT.out.f3
  go_wp2_with fail
  obtain ⟨w5, hw5⟩ : ∃ w5, w5 = w4.setCell ⟨w2.heap.size + 1, 0, none⟩ (.int .i64 7) := ⟨_, rfl⟩
  rw [← hw5]
  obtain ⟨sw5, kw5, lw5, XTn⟩ := XT.out.put1 #[.int .i64 7, .int .i64 0, .slice none 0 0] 0 (.int .i64 7) rfl (by simp) w5 hw5
  clear hw5
  clear cM0 cM1 cM2 cM3 cM4 cM5 cM6 cM7 cM8 cM9 cM10 cM11 cM12 cO0 cO1 cO2 cO3 cO4 cO5 cO6 cO7 cT0 cT1 cT2 fT0 fT1 fT2
  replace XT := Lib.hid XTn
  clear XTn
  replace XM := Lib.hid (XM.out.block (kw5 (W.heap.size) (by omega)))
  replace XO := Lib.hid (XO.out.block (kw5 (W.heap.size + 1) (by omega)))
  replace XZ := Lib.hid (XZ.out.block (kw5 (W.heap.size + 1 + 1) (by omega)))
  replace XS := Lib.hid (XS.out.block (kw5 (W.heap.size + 1 + 1 + 1) (by omega)))
  replace XX := Lib.hid (XX.out.block (kw5 (w2.heap.size) (by omega)))
  replace HB := Lib.hid (HB.out.trans (lw5 W.heap.size (by omega)))
  clear kw5 lw5
  obtain ⟨cM0, cM1, cM2, cM3, cM4, cM5, cM6, cM7, cM8, cM9, cM10, cM11, cM12⟩ := XM.out.c13
  obtain ⟨cT0, cT1, cT2⟩ := XT.out.c3
  refine wp_region_held_drew (S := fun w' => w'.cell? ⟨W.heap.size, 0, none⟩ = some (.int .i64 C.pg) ∧ w'.cell? ⟨W.heap.size, 1, none⟩ = some (.int .i64 C.rg) ∧ w'.cell? ⟨W.heap.size, 2, none⟩ = some (.int .i64 C.lg) ∧ w'.cell? ⟨W.heap.size, 3, none⟩ = some (.int .i64 C.th) ∧ w'.cell? ⟨W.heap.size, 4, none⟩ = some (.int .i64 C.ca) ∧ w'.cell? ⟨W.heap.size, 5, none⟩ = some (.int .i64 C.ba) ∧ w'.cell? ⟨W.heap.size, 6, none⟩ = some (.int .i64 C.sh) ∧ w'.cell? ⟨W.heap.size, 7, none⟩ = some (.int .i64 C.re) ∧ w'.cell? ⟨W.heap.size, 8, none⟩ = some (.int .i64 C.mo) ∧ w'.cell? ⟨W.heap.size, 9, none⟩ = some (.int .i64 C.fi) ∧ w'.cell? ⟨W.heap.size, 10, none⟩ = some (.int .u64 C.ky) ∧ w'.cell? ⟨W.heap.size, 11, none⟩ = some (.slice L ll lc) ∧ w'.cell? ⟨W.heap.size, 12, none⟩ = some (.slice (some ⟨r, 0, none⟩) k kc) ∧ w'.cell? ⟨w2.heap.size + 1, 0, none⟩ = some (.int .i64 7) ∧ w'.cell? ⟨w2.heap.size + 1, 1, none⟩ = some (.int .i64 0) ∧ w'.cell? ⟨w2.heap.size + 1, 2, none⟩ = some (.slice none 0 0)) (by kernel_rfl) ?_ (fun hHeld => ?_)
  · exact ⟨cM0, cM1, cM2, cM3, cM4, cM5, cM6, cM7, cM8, cM9, cM10, cM11, cM12, cT0, cT1, cT2⟩
  obtain ⟨cZ0, cZ1, cZ2, cZ3, cZ4, cZ5, cZ6, cZ7, cZ8, cZ9, cZ10, cZ11, cZ12⟩ := XZ.out.c13
  obtain ⟨cS0, cS1, cS2⟩ := XS.out.c3
  obtain ⟨fZ0, fZ1, fZ2, fZ3, fZ4, fZ5, fZ6, fZ7, fZ8, fZ9, fZ10, fZ11, fZ12⟩ := XZ.out.f13
  obtain ⟨fS0, fS1, fS2⟩ := XS.out.f3
  refine wpAnyH_take (i := 0) (v := ?_) rfl (by kernel_rfl) (by kernel_rfl) (by kernel_rfl) (fun _ _ _ h => h) (Or.inl ⟨by kernel_rfl, ?_⟩) (by assumption) ?_
  rotate_left
  · (intro w hSw; (try dsimp only at hSw); go_simp)
    try (with_reducible rfl)
  rotate_left
  try simp (maxSteps := 4000000) only [Act.put, List.setIfInBounds_toArray, List.set_cons_zero, List.set_cons_succ, List.getElem_toArray, List.getElem_cons_zero, List.getElem_cons_succ]
  refine wpAnyH_take (i := 1) (v := ?_) rfl (by kernel_rfl) (by kernel_rfl) (by kernel_rfl) (fun _ _ _ h => h) (Or.inl ⟨by kernel_rfl, ?_⟩) (by assumption) ?_
  rotate_left
  · (intro w hSw; (try dsimp only at hSw); go_simp)
    try (with_reducible rfl)
  rotate_left
  try simp (maxSteps := 4000000) only [Act.put, List.setIfInBounds_toArray, List.set_cons_zero, List.set_cons_succ, List.getElem_toArray, List.getElem_cons_zero, List.getElem_cons_succ]
  refine wpAnyH_ready (rs := [2]) (by kernel_rfl) (by simp) ?_
  refine AllReadyH.cons rfl (fun K2 hK2 => ?_) AllReadyH.nil
  go_simp
  obtain ⟨w6, hw6⟩ : ∃ w6, w6 = sets13 w5 (W.heap.size + 1 + 1) (.int .i64 C.pg) (.int .i64 C.rg) (.int .i64 C.lg) (.int .i64 C.th) (.int .i64 C.ca) (.int .i64 C.ba) (.int .i64 C.sh) (.int .i64 C.re) (.int .i64 C.mo) (.int .i64 C.fi) (.int .u64 C.ky) (.slice L ll lc) (.slice (some ⟨r, 0, none⟩) k kc) := ⟨_, rfl⟩
  obtain ⟨sw6, kw6, lw6, XZn⟩ := XZ.out.put13s rfl hw6
  unfold sets13 at hw6
  rw [← hw6]
  clear hw6
  clear cM0 cM1 cM2 cM3 cM4 cM5 cM6 cM7 cM8 cM9 cM10 cM11 cM12 cT0 cT1 cT2 cZ0 cZ1 cZ2 cZ3 cZ4 cZ5 cZ6 cZ7 cZ8 cZ9 cZ10 cZ11 cZ12 cS0 cS1 cS2 fZ0 fZ1 fZ2 fZ3 fZ4 fZ5 fZ6 fZ7 fZ8 fZ9 fZ10 fZ11 fZ12 fS0 fS1 fS2
  replace XZ := Lib.hid XZn
  clear XZn
  replace XM := Lib.hid (XM.out.block (kw6 (W.heap.size) (by omega)))
  replace XO := Lib.hid (XO.out.block (kw6 (W.heap.size + 1) (by omega)))
  replace XS := Lib.hid (XS.out.block (kw6 (W.heap.size + 1 + 1 + 1) (by omega)))
  replace XX := Lib.hid (XX.out.block (kw6 (w2.heap.size) (by omega)))
  replace XT := Lib.hid (XT.out.block (kw6 (w2.heap.size + 1) (by omega)))
  replace HB := Lib.hid (HB.out.trans (lw6 W.heap.size (by omega)))
  clear kw6 lw6
  obtain ⟨w7, hw7⟩ : ∃ w7, w6.drew = w7 := ⟨_, rfl⟩
  rw [hw7]
  have bw7 : Below w6.heap.size w6 w7 := by rw [← hw7]; exact (Below.refl _ w6).drew
  have sw7 : w7.heap.size = w6.heap.size := by rw [← hw7]; rfl
  clear hw7
  replace XM := Lib.hid (XM.out.block (bw7.block (W.heap.size) (by omega)))
  replace XO := Lib.hid (XO.out.block (bw7.block (W.heap.size + 1) (by omega)))
  replace XZ := Lib.hid (XZ.out.block (bw7.block (W.heap.size + 1 + 1) (by omega)))
  replace XS := Lib.hid (XS.out.block (bw7.block (W.heap.size + 1 + 1 + 1) (by omega)))
  replace XX := Lib.hid (XX.out.block (bw7.block (w2.heap.size) (by omega)))
  replace XT := Lib.hid (XT.out.block (bw7.block (w2.heap.size + 1) (by omega)))
  replace HB := Lib.hid (thn HB.out bw7)
  clear bw7
  obtain ⟨cM0, cM1, cM2, cM3, cM4, cM5, cM6, cM7, cM8, cM9, cM10, cM11, cM12⟩ := XM.out.c13
  obtain ⟨cZ0, cZ1, cZ2, cZ3, cZ4, cZ5, cZ6, cZ7, cZ8, cZ9, cZ10, cZ11, cZ12⟩ := XZ.out.c13
  obtain ⟨cT0, cT1, cT2⟩ := XT.out.c3
  obtain ⟨cS0, cS1, cS2⟩ := XS.out.c3
  obtain ⟨fS0, fS1, fS2⟩ := XS.out.f3
  refine hK2.out _ _ (⟨cM0, cM1, cM2, cM3, cM4, cM5, cM6, cM7, cM8, cM9, cM10, cM11, cM12, cT0, cT1, cT2⟩) (fun hHeld2 => ?_)
  clear hK2 K2 hHeld
  have hHeld := hHeld2
  clear hHeld2
  try simp (maxSteps := 4000000) only [Act.put, List.setIfInBounds_toArray, List.set_cons_zero, List.set_cons_succ]
  refine wpAnyH_ready (rs := [3]) (by kernel_rfl) (by simp) ?_
  refine AllReadyH.cons rfl (fun K2 hK2 => ?_) AllReadyH.nil
  go_simp
  obtain ⟨w8, hw8⟩ : ∃ w8, w8 = sets3 w7 (W.heap.size + 1 + 1 + 1) (.int .i64 7) (.int .i64 0) (.slice none 0 0) := ⟨_, rfl⟩
  obtain ⟨sw8, kw8, lw8, XSn⟩ := XS.out.put3s rfl hw8
  unfold sets3 at hw8
  rw [← hw8]
  clear hw8
  clear cM0 cM1 cM2 cM3 cM4 cM5 cM6 cM7 cM8 cM9 cM10 cM11 cM12 cZ0 cZ1 cZ2 cZ3 cZ4 cZ5 cZ6 cZ7 cZ8 cZ9 cZ10 cZ11 cZ12 cT0 cT1 cT2 cS0 cS1 cS2 fS0 fS1 fS2
  replace XS := Lib.hid XSn
  clear XSn
  replace XM := Lib.hid (XM.out.block (kw8 (W.heap.size) (by omega)))
  replace XO := Lib.hid (XO.out.block (kw8 (W.heap.size + 1) (by omega)))
  replace XZ := Lib.hid (XZ.out.block (kw8 (W.heap.size + 1 + 1) (by omega)))
  replace XX := Lib.hid (XX.out.block (kw8 (w2.heap.size) (by omega)))
  replace XT := Lib.hid (XT.out.block (kw8 (w2.heap.size + 1) (by omega)))
  replace HB := Lib.hid (HB.out.trans (lw8 W.heap.size (by omega)))
  clear kw8 lw8
  obtain ⟨cM0, cM1, cM2, cM3, cM4, cM5, cM6, cM7, cM8, cM9, cM10, cM11, cM12⟩ := XM.out.c13
  obtain ⟨cT0, cT1, cT2⟩ := XT.out.c3
  obtain ⟨cZ0, cZ1, cZ2, cZ3, cZ4, cZ5, cZ6, cZ7, cZ8, cZ9, cZ10, cZ11, cZ12⟩ := XZ.out.c13
  obtain ⟨cS0, cS1, cS2⟩ := XS.out.c3
  refine hK2.out _ _ (⟨cM0, cM1, cM2, cM3, cM4, cM5, cM6, cM7, cM8, cM9, cM10, cM11, cM12, cT0, cT1, cT2⟩) (fun hHeld2 => ?_)
  clear hK2 K2 hHeld
  have hHeld := hHeld2
  clear hHeld2
  try simp (maxSteps := 4000000) only [Act.put, List.setIfInBounds_toArray, List.set_cons_zero, List.set_cons_succ]
  refine wpAnyH_done (by kernel_rfl) ?_ _
  go_wp2_with fail
  refine bodyPost_ret (v := .tuple #[rmv C L ll lc (some ⟨r, 0, none⟩) k kc, .agg #[rE 7, .int .i64 0, .slice none 0 0]]) (by simp [results, Try.results30, go_sem, cZ0, cZ1, cZ2, cZ3, cZ4, cZ5, cZ6, cZ7, cZ8, cZ9, cZ10, cZ11, cZ12, cS0, cS1, cS2]) rfl ⟨rfl, HB.out⟩
end
end Go.Proofs.Ytanmmhbnjmglhaa
