/- MoY. -/
import Derived.Test.YtanmmhbnjmglhaaZ29
import Derived.Deep.RegionHeld3
namespace Go.Proofs.Ytanmmhbnjmglhaa
set_option maxRecDepth 100000
open Go.RowKit Go.ChangeMaps Go.MapKept
set_option linter.unusedVariables false
set_option linter.unusedSimpArgs false
section
variable {C : Cf} {L : Option Addr} {r ll lc k kc : Nat} {W : World}
set_option maxHeartbeats 1600000 in
theorem rder7 (t a b v n mm : Int) (P : Option Addr) (ln cp : Nat) (h : RZ r k W) : Calls Try.prog 28 #[rmv C L ll lc (some ⟨r, 0, none⟩) k kc, opv 7 t a b v n mm P ln cp] W fun e w' => e = .returned (.tuple #[rmv C L ll lc (some ⟨r, 0, none⟩) k kc, rE 7]) ∧ Below W.heap.size W w' := by
  have H := Lib.hid h
  clear h
  go_enter Try.func28, Try.ntmps28
  go_wp2_with fail
  obtain ⟨w1, hw1⟩ : ∃ w1, ((W.alloc (.cells #[.int .i64 C.pg, .int .i64 C.rg, .int .i64 C.lg, .int .i64 C.th, .int .i64 C.ca, .int .i64 C.ba, .int .i64 C.sh, .int .i64 C.re, .int .i64 C.mo, .int .i64 C.fi, .int .u64 C.ky, .slice L ll lc, .slice (some ⟨r, 0, none⟩) k kc] 34)).alloc (.cells #[.int .i64 7, .int .i64 t, .int .i64 a, .int .i64 b, .int .i64 v, .int .i64 n, .int .i64 mm, .slice P ln cp] 41)).alloc (.cells #[.int .i64 0, .int .i64 0, .int .i64 0, .int .i64 0, .int .i64 0, .int .i64 0, .int .i64 0, .int .i64 0, .int .i64 0, .int .i64 0, .int .u64 0, .slice none 0 0, .slice none 0 0] 34) = w1 := ⟨_, rfl⟩
  have bw1 : Below W.heap.size W w1 := by rw [← hw1]; exact alc (alc (alc0 _ _) _) _
  have sw1 : w1.heap.size = W.heap.size + 3 := by rw [← hw1]; simp
  have XM : Hid (BX (W.heap.size) #[.int .i64 C.pg, .int .i64 C.rg, .int .i64 C.lg, .int .i64 C.th, .int .i64 C.ca, .int .i64 C.ba, .int .i64 C.sh, .int .i64 C.re, .int .i64 C.mo, .int .i64 C.fi, .int .u64 C.ky, .slice L ll lc, .slice (some ⟨r, 0, none⟩) k kc] w1) := Lib.hid (by rw [← hw1]; exact (bx_new _ _ _).block ((alc (alc0 _ _) _).block _ (by simp)))
  have XO : Hid (BX (W.heap.size + 1) #[.int .i64 7, .int .i64 t, .int .i64 a, .int .i64 b, .int .i64 v, .int .i64 n, .int .i64 mm, .slice P ln cp] w1) := Lib.hid (by rw [← hw1]; exact (bx_at _ _ _ (by simp)).block ((alc0 _ _).block _ (by simp)))
  have XZ : Hid (BX (W.heap.size + 1 + 1) #[.int .i64 0, .int .i64 0, .int .i64 0, .int .i64 0, .int .i64 0, .int .i64 0, .int .i64 0, .int .i64 0, .int .i64 0, .int .i64 0, .int .u64 0, .slice none 0 0, .slice none 0 0] w1) := Lib.hid (by rw [← hw1]; exact bx_at _ _ _ (by simp))
  rw [hw1]
  clear hw1
  have HB := Lib.hid bw1
  clear bw1
  refine (rgetz b (H.out.below HB.out)).mono ?_
  rintro e w2 ⟨rfl, bw2⟩
  have sw2 := bw2.size
  replace XM := Lib.hid (XM.out.block (bw2.block (W.heap.size) (by omega)))
  replace XO := Lib.hid (XO.out.block (bw2.block (W.heap.size + 1) (by omega)))
  replace XZ := Lib.hid (XZ.out.block (bw2.block (W.heap.size + 1 + 1) (by omega)))
  replace HB := Lib.hid (thn HB.out bw2)
  clear bw2
  go_upto_region 4 with (fail)
  obtain ⟨w3, hw3⟩ : ∃ w3, (w2.alloc (.cells #[.int .i64 0, .int .i64 0, .int .i64 0, .int .i64 0, .int .i64 0] 54)).alloc (.cells #[.int .i64 0, .int .i64 0, .int .i64 0, .int .i64 0, .int .i64 0] 54) = w3 := ⟨_, rfl⟩
  have bw3 : Below w2.heap.size w2 w3 := by rw [← hw3]; exact alc (alc0 _ _) _
  have sw3 : w3.heap.size = w2.heap.size + 2 := by rw [← hw3]; simp
  have XX : Hid (BX (w2.heap.size) #[.int .i64 0, .int .i64 0, .int .i64 0, .int .i64 0, .int .i64 0] w3) := Lib.hid (by rw [← hw3]; exact (bx_new _ _ _).block ((alc0 _ _).block _ (by simp)))
  have XY : Hid (BX (w2.heap.size + 1) #[.int .i64 0, .int .i64 0, .int .i64 0, .int .i64 0, .int .i64 0] w3) := Lib.hid (by rw [← hw3]; exact bx_at _ _ _ (by simp))
  rw [hw3]
  clear hw3
  replace XM := Lib.hid (XM.out.block (bw3.block (W.heap.size) (by omega)))
  replace XO := Lib.hid (XO.out.block (bw3.block (W.heap.size + 1) (by omega)))
  replace XZ := Lib.hid (XZ.out.block (bw3.block (W.heap.size + 1 + 1) (by omega)))
  replace HB := Lib.hid (thn HB.out bw3)
  clear bw3
  obtain ⟨cM0, cM1, cM2, cM3, cM4, cM5, cM6, cM7, cM8, cM9, cM10, cM11, cM12⟩ := XM.out.c13
  obtain ⟨cO0, cO1, cO2, cO3, cO4, cO5, cO6, cO7⟩ := XO.out.c8
  obtain ⟨cZ0, cZ1, cZ2, cZ3, cZ4, cZ5, cZ6, cZ7, cZ8, cZ9, cZ10, cZ11, cZ12⟩ := XZ.out.c13
  obtain ⟨cX0, cX1, cX2, cX3, cX4⟩ := XX.out.c5
  obtain ⟨cY0, cY1, cY2, cY3, cY4⟩ := XY.out.c5
  obtain ⟨fZ0, fZ1, fZ2, fZ3, fZ4, fZ5, fZ6, fZ7, fZ8, fZ9, fZ10, fZ11, fZ12⟩ := XZ.out.f13
  go_wp2_with fail
  obtain ⟨w4, hw4⟩ : ∃ w4, w4 = sets13 w3 (W.heap.size + 1 + 1) (.int .i64 C.pg) (.int .i64 C.rg) (.int .i64 C.lg) (.int .i64 C.th) (.int .i64 C.ca) (.int .i64 C.ba) (.int .i64 C.sh) (.int .i64 C.re) (.int .i64 C.mo) (.int .i64 C.fi) (.int .u64 C.ky) (.slice L ll lc) (.slice (some ⟨r, 0, none⟩) k kc) := ⟨_, rfl⟩
  obtain ⟨sw4, kw4, lw4, XZn⟩ := XZ.out.put13s rfl hw4
  unfold sets13 at hw4
  rw [← hw4]
  clear hw4
  clear cM0 cM1 cM2 cM3 cM4 cM5 cM6 cM7 cM8 cM9 cM10 cM11 cM12 cO0 cO1 cO2 cO3 cO4 cO5 cO6 cO7 cZ0 cZ1 cZ2 cZ3 cZ4 cZ5 cZ6 cZ7 cZ8 cZ9 cZ10 cZ11 cZ12 cX0 cX1 cX2 cX3 cX4 cY0 cY1 cY2 cY3 cY4 fZ0 fZ1 fZ2 fZ3 fZ4 fZ5 fZ6 fZ7 fZ8 fZ9 fZ10 fZ11 fZ12
  replace XZ := Lib.hid XZn
  clear XZn
  replace XM := Lib.hid (XM.out.block (kw4 (W.heap.size) (by omega)))
  replace XO := Lib.hid (XO.out.block (kw4 (W.heap.size + 1) (by omega)))
  replace XX := Lib.hid (XX.out.block (kw4 (w2.heap.size) (by omega)))
  replace XY := Lib.hid (XY.out.block (kw4 (w2.heap.size + 1) (by omega)))
  replace HB := Lib.hid (HB.out.trans (lw4 W.heap.size (by omega)))
  clear kw4 lw4
  obtain ⟨cZ0, cZ1, cZ2, cZ3, cZ4, cZ5, cZ6, cZ7, cZ8, cZ9, cZ10, cZ11, cZ12⟩ := XZ.out.c13
  refine bodyPost_ret (v := .tuple #[rmv C L ll lc (some ⟨r, 0, none⟩) k kc, rE 7]) (by simp [results, Try.results28, go_sem, cZ0, cZ1, cZ2, cZ3, cZ4, cZ5, cZ6, cZ7, cZ8, cZ9, cZ10, cZ11, cZ12]) rfl ⟨rfl, HB.out⟩
set_option maxHeartbeats 1600000 in
theorem rder8 (t a b v n mm : Int) (P : Option Addr) (ln cp : Nat) (h : RZ r k W) : Calls Try.prog 28 #[rmv C L ll lc (some ⟨r, 0, none⟩) k kc, opv 8 t a b v n mm P ln cp] W fun e w' => e = .returned (.tuple #[rmv C L ll lc (some ⟨r, 0, none⟩) k kc, rE 7]) ∧ Below W.heap.size W w' := by
  have H := Lib.hid h
  clear h
  go_enter Try.func28, Try.ntmps28
  go_wp2_with fail
  obtain ⟨w1, hw1⟩ : ∃ w1, ((W.alloc (.cells #[.int .i64 C.pg, .int .i64 C.rg, .int .i64 C.lg, .int .i64 C.th, .int .i64 C.ca, .int .i64 C.ba, .int .i64 C.sh, .int .i64 C.re, .int .i64 C.mo, .int .i64 C.fi, .int .u64 C.ky, .slice L ll lc, .slice (some ⟨r, 0, none⟩) k kc] 34)).alloc (.cells #[.int .i64 8, .int .i64 t, .int .i64 a, .int .i64 b, .int .i64 v, .int .i64 n, .int .i64 mm, .slice P ln cp] 41)).alloc (.cells #[.int .i64 0, .int .i64 0, .int .i64 0, .int .i64 0, .int .i64 0, .int .i64 0, .int .i64 0, .int .i64 0, .int .i64 0, .int .i64 0, .int .u64 0, .slice none 0 0, .slice none 0 0] 34) = w1 := ⟨_, rfl⟩
  have bw1 : Below W.heap.size W w1 := by rw [← hw1]; exact alc (alc (alc0 _ _) _) _
  have sw1 : w1.heap.size = W.heap.size + 3 := by rw [← hw1]; simp
  have XM : Hid (BX (W.heap.size) #[.int .i64 C.pg, .int .i64 C.rg, .int .i64 C.lg, .int .i64 C.th, .int .i64 C.ca, .int .i64 C.ba, .int .i64 C.sh, .int .i64 C.re, .int .i64 C.mo, .int .i64 C.fi, .int .u64 C.ky, .slice L ll lc, .slice (some ⟨r, 0, none⟩) k kc] w1) := Lib.hid (by rw [← hw1]; exact (bx_new _ _ _).block ((alc (alc0 _ _) _).block _ (by simp)))
  have XO : Hid (BX (W.heap.size + 1) #[.int .i64 8, .int .i64 t, .int .i64 a, .int .i64 b, .int .i64 v, .int .i64 n, .int .i64 mm, .slice P ln cp] w1) := Lib.hid (by rw [← hw1]; exact (bx_at _ _ _ (by simp)).block ((alc0 _ _).block _ (by simp)))
  have XZ : Hid (BX (W.heap.size + 1 + 1) #[.int .i64 0, .int .i64 0, .int .i64 0, .int .i64 0, .int .i64 0, .int .i64 0, .int .i64 0, .int .i64 0, .int .i64 0, .int .i64 0, .int .u64 0, .slice none 0 0, .slice none 0 0] w1) := Lib.hid (by rw [← hw1]; exact bx_at _ _ _ (by simp))
  rw [hw1]
  clear hw1
  have HB := Lib.hid bw1
  clear bw1
  refine (rgetz b (H.out.below HB.out)).mono ?_
  rintro e w2 ⟨rfl, bw2⟩
  have sw2 := bw2.size
  replace XM := Lib.hid (XM.out.block (bw2.block (W.heap.size) (by omega)))
  replace XO := Lib.hid (XO.out.block (bw2.block (W.heap.size + 1) (by omega)))
  replace XZ := Lib.hid (XZ.out.block (bw2.block (W.heap.size + 1 + 1) (by omega)))
  replace HB := Lib.hid (thn HB.out bw2)
  clear bw2
  go_upto_region 4 with (fail)
  obtain ⟨w3, hw3⟩ : ∃ w3, (w2.alloc (.cells #[.int .i64 0, .int .i64 0, .int .i64 0, .int .i64 0, .int .i64 0] 54)).alloc (.cells #[.int .i64 0, .int .i64 0, .int .i64 0, .int .i64 0, .int .i64 0] 54) = w3 := ⟨_, rfl⟩
  have bw3 : Below w2.heap.size w2 w3 := by rw [← hw3]; exact alc (alc0 _ _) _
  have sw3 : w3.heap.size = w2.heap.size + 2 := by rw [← hw3]; simp
  have XX : Hid (BX (w2.heap.size) #[.int .i64 0, .int .i64 0, .int .i64 0, .int .i64 0, .int .i64 0] w3) := Lib.hid (by rw [← hw3]; exact (bx_new _ _ _).block ((alc0 _ _).block _ (by simp)))
  have XY : Hid (BX (w2.heap.size + 1) #[.int .i64 0, .int .i64 0, .int .i64 0, .int .i64 0, .int .i64 0] w3) := Lib.hid (by rw [← hw3]; exact bx_at _ _ _ (by simp))
  rw [hw3]
  clear hw3
  replace XM := Lib.hid (XM.out.block (bw3.block (W.heap.size) (by omega)))
  replace XO := Lib.hid (XO.out.block (bw3.block (W.heap.size + 1) (by omega)))
  replace XZ := Lib.hid (XZ.out.block (bw3.block (W.heap.size + 1 + 1) (by omega)))
  replace HB := Lib.hid (thn HB.out bw3)
  clear bw3
  obtain ⟨cM0, cM1, cM2, cM3, cM4, cM5, cM6, cM7, cM8, cM9, cM10, cM11, cM12⟩ := XM.out.c13
  obtain ⟨cO0, cO1, cO2, cO3, cO4, cO5, cO6, cO7⟩ := XO.out.c8
  obtain ⟨cZ0, cZ1, cZ2, cZ3, cZ4, cZ5, cZ6, cZ7, cZ8, cZ9, cZ10, cZ11, cZ12⟩ := XZ.out.c13
  obtain ⟨cX0, cX1, cX2, cX3, cX4⟩ := XX.out.c5
  obtain ⟨cY0, cY1, cY2, cY3, cY4⟩ := XY.out.c5
  obtain ⟨fZ0, fZ1, fZ2, fZ3, fZ4, fZ5, fZ6, fZ7, fZ8, fZ9, fZ10, fZ11, fZ12⟩ := XZ.out.f13
  go_wp2_with fail
  obtain ⟨w4, hw4⟩ : ∃ w4, w4 = sets13 w3 (W.heap.size + 1 + 1) (.int .i64 C.pg) (.int .i64 C.rg) (.int .i64 C.lg) (.int .i64 C.th) (.int .i64 C.ca) (.int .i64 C.ba) (.int .i64 C.sh) (.int .i64 C.re) (.int .i64 C.mo) (.int .i64 C.fi) (.int .u64 C.ky) (.slice L ll lc) (.slice (some ⟨r, 0, none⟩) k kc) := ⟨_, rfl⟩
  obtain ⟨sw4, kw4, lw4, XZn⟩ := XZ.out.put13s rfl hw4
  unfold sets13 at hw4
  rw [← hw4]
  clear hw4
  clear cM0 cM1 cM2 cM3 cM4 cM5 cM6 cM7 cM8 cM9 cM10 cM11 cM12 cO0 cO1 cO2 cO3 cO4 cO5 cO6 cO7 cZ0 cZ1 cZ2 cZ3 cZ4 cZ5 cZ6 cZ7 cZ8 cZ9 cZ10 cZ11 cZ12 cX0 cX1 cX2 cX3 cX4 cY0 cY1 cY2 cY3 cY4 fZ0 fZ1 fZ2 fZ3 fZ4 fZ5 fZ6 fZ7 fZ8 fZ9 fZ10 fZ11 fZ12
  replace XZ := Lib.hid XZn
  clear XZn
  replace XM := Lib.hid (XM.out.block (kw4 (W.heap.size) (by omega)))
  replace XO := Lib.hid (XO.out.block (kw4 (W.heap.size + 1) (by omega)))
  replace XX := Lib.hid (XX.out.block (kw4 (w2.heap.size) (by omega)))
  replace XY := Lib.hid (XY.out.block (kw4 (w2.heap.size + 1) (by omega)))
  replace HB := Lib.hid (HB.out.trans (lw4 W.heap.size (by omega)))
  clear kw4 lw4
  obtain ⟨cZ0, cZ1, cZ2, cZ3, cZ4, cZ5, cZ6, cZ7, cZ8, cZ9, cZ10, cZ11, cZ12⟩ := XZ.out.c13
  refine bodyPost_ret (v := .tuple #[rmv C L ll lc (some ⟨r, 0, none⟩) k kc, rE 7]) (by simp [results, Try.results28, go_sem, cZ0, cZ1, cZ2, cZ3, cZ4, cZ5, cZ6, cZ7, cZ8, cZ9, cZ10, cZ11, cZ12]) rfl ⟨rfl, HB.out⟩
set_option maxHeartbeats 1600000 in
theorem rder9 (t a b v n mm : Int) (P : Option Addr) (ln cp : Nat) (h : RZ r k W) : Calls Try.prog 28 #[rmv C L ll lc (some ⟨r, 0, none⟩) k kc, opv 9 t a b v n mm P ln cp] W fun e w' => e = .returned (.tuple #[rmv C L ll lc (some ⟨r, 0, none⟩) k kc, rE 7]) ∧ Below W.heap.size W w' := by
  have H := Lib.hid h
  clear h
  go_enter Try.func28, Try.ntmps28
  go_wp2_with fail
  obtain ⟨w1, hw1⟩ : ∃ w1, ((W.alloc (.cells #[.int .i64 C.pg, .int .i64 C.rg, .int .i64 C.lg, .int .i64 C.th, .int .i64 C.ca, .int .i64 C.ba, .int .i64 C.sh, .int .i64 C.re, .int .i64 C.mo, .int .i64 C.fi, .int .u64 C.ky, .slice L ll lc, .slice (some ⟨r, 0, none⟩) k kc] 34)).alloc (.cells #[.int .i64 9, .int .i64 t, .int .i64 a, .int .i64 b, .int .i64 v, .int .i64 n, .int .i64 mm, .slice P ln cp] 41)).alloc (.cells #[.int .i64 0, .int .i64 0, .int .i64 0, .int .i64 0, .int .i64 0, .int .i64 0, .int .i64 0, .int .i64 0, .int .i64 0, .int .i64 0, .int .u64 0, .slice none 0 0, .slice none 0 0] 34) = w1 := ⟨_, rfl⟩
  have bw1 : Below W.heap.size W w1 := by rw [← hw1]; exact alc (alc (alc0 _ _) _) _
  have sw1 : w1.heap.size = W.heap.size + 3 := by rw [← hw1]; simp
  have XM : Hid (BX (W.heap.size) #[.int .i64 C.pg, .int .i64 C.rg, .int .i64 C.lg, .int .i64 C.th, .int .i64 C.ca, .int .i64 C.ba, .int .i64 C.sh, .int .i64 C.re, .int .i64 C.mo, .int .i64 C.fi, .int .u64 C.ky, .slice L ll lc, .slice (some ⟨r, 0, none⟩) k kc] w1) := Lib.hid (by rw [← hw1]; exact (bx_new _ _ _).block ((alc (alc0 _ _) _).block _ (by simp)))
  have XO : Hid (BX (W.heap.size + 1) #[.int .i64 9, .int .i64 t, .int .i64 a, .int .i64 b, .int .i64 v, .int .i64 n, .int .i64 mm, .slice P ln cp] w1) := Lib.hid (by rw [← hw1]; exact (bx_at _ _ _ (by simp)).block ((alc0 _ _).block _ (by simp)))
  have XZ : Hid (BX (W.heap.size + 1 + 1) #[.int .i64 0, .int .i64 0, .int .i64 0, .int .i64 0, .int .i64 0, .int .i64 0, .int .i64 0, .int .i64 0, .int .i64 0, .int .i64 0, .int .u64 0, .slice none 0 0, .slice none 0 0] w1) := Lib.hid (by rw [← hw1]; exact bx_at _ _ _ (by simp))
  rw [hw1]
  clear hw1
  have HB := Lib.hid bw1
  clear bw1
  refine (rgetz b (H.out.below HB.out)).mono ?_
  rintro e w2 ⟨rfl, bw2⟩
  have sw2 := bw2.size
  replace XM := Lib.hid (XM.out.block (bw2.block (W.heap.size) (by omega)))
  replace XO := Lib.hid (XO.out.block (bw2.block (W.heap.size + 1) (by omega)))
  replace XZ := Lib.hid (XZ.out.block (bw2.block (W.heap.size + 1 + 1) (by omega)))
  replace HB := Lib.hid (thn HB.out bw2)
  clear bw2
  go_upto_region 4 with (fail)
  obtain ⟨w3, hw3⟩ : ∃ w3, (w2.alloc (.cells #[.int .i64 0, .int .i64 0, .int .i64 0, .int .i64 0, .int .i64 0] 54)).alloc (.cells #[.int .i64 0, .int .i64 0, .int .i64 0, .int .i64 0, .int .i64 0] 54) = w3 := ⟨_, rfl⟩
  have bw3 : Below w2.heap.size w2 w3 := by rw [← hw3]; exact alc (alc0 _ _) _
  have sw3 : w3.heap.size = w2.heap.size + 2 := by rw [← hw3]; simp
  have XX : Hid (BX (w2.heap.size) #[.int .i64 0, .int .i64 0, .int .i64 0, .int .i64 0, .int .i64 0] w3) := Lib.hid (by rw [← hw3]; exact (bx_new _ _ _).block ((alc0 _ _).block _ (by simp)))
  have XY : Hid (BX (w2.heap.size + 1) #[.int .i64 0, .int .i64 0, .int .i64 0, .int .i64 0, .int .i64 0] w3) := Lib.hid (by rw [← hw3]; exact bx_at _ _ _ (by simp))
  rw [hw3]
  clear hw3
  replace XM := Lib.hid (XM.out.block (bw3.block (W.heap.size) (by omega)))
  replace XO := Lib.hid (XO.out.block (bw3.block (W.heap.size + 1) (by omega)))
  replace XZ := Lib.hid (XZ.out.block (bw3.block (W.heap.size + 1 + 1) (by omega)))
  replace HB := Lib.hid (thn HB.out bw3)
  clear bw3
  obtain ⟨cM0, cM1, cM2, cM3, cM4, cM5, cM6, cM7, cM8, cM9, cM10, cM11, cM12⟩ := XM.out.c13
  obtain ⟨cO0, cO1, cO2, cO3, cO4, cO5, cO6, cO7⟩ := XO.out.c8
  obtain ⟨cZ0, cZ1, cZ2, cZ3, cZ4, cZ5, cZ6, cZ7, cZ8, cZ9, cZ10, cZ11, cZ12⟩ := XZ.out.c13
  obtain ⟨cX0, cX1, cX2, cX3, cX4⟩ := XX.out.c5
  obtain ⟨cY0, cY1, cY2, cY3, cY4⟩ := XY.out.c5
  obtain ⟨fZ0, fZ1, fZ2, fZ3, fZ4, fZ5, fZ6, fZ7, fZ8, fZ9, fZ10, fZ11, fZ12⟩ := XZ.out.f13
  go_wp2_with fail
  obtain ⟨w4, hw4⟩ : ∃ w4, w4 = sets13 w3 (W.heap.size + 1 + 1) (.int .i64 C.pg) (.int .i64 C.rg) (.int .i64 C.lg) (.int .i64 C.th) (.int .i64 C.ca) (.int .i64 C.ba) (.int .i64 C.sh) (.int .i64 C.re) (.int .i64 C.mo) (.int .i64 C.fi) (.int .u64 C.ky) (.slice L ll lc) (.slice (some ⟨r, 0, none⟩) k kc) := ⟨_, rfl⟩
  obtain ⟨sw4, kw4, lw4, XZn⟩ := XZ.out.put13s rfl hw4
  unfold sets13 at hw4
  rw [← hw4]
  clear hw4
  clear cM0 cM1 cM2 cM3 cM4 cM5 cM6 cM7 cM8 cM9 cM10 cM11 cM12 cO0 cO1 cO2 cO3 cO4 cO5 cO6 cO7 cZ0 cZ1 cZ2 cZ3 cZ4 cZ5 cZ6 cZ7 cZ8 cZ9 cZ10 cZ11 cZ12 cX0 cX1 cX2 cX3 cX4 cY0 cY1 cY2 cY3 cY4 fZ0 fZ1 fZ2 fZ3 fZ4 fZ5 fZ6 fZ7 fZ8 fZ9 fZ10 fZ11 fZ12
  replace XZ := Lib.hid XZn
  clear XZn
  replace XM := Lib.hid (XM.out.block (kw4 (W.heap.size) (by omega)))
  replace XO := Lib.hid (XO.out.block (kw4 (W.heap.size + 1) (by omega)))
  replace XX := Lib.hid (XX.out.block (kw4 (w2.heap.size) (by omega)))
  replace XY := Lib.hid (XY.out.block (kw4 (w2.heap.size + 1) (by omega)))
  replace HB := Lib.hid (HB.out.trans (lw4 W.heap.size (by omega)))
  clear kw4 lw4
  obtain ⟨cZ0, cZ1, cZ2, cZ3, cZ4, cZ5, cZ6, cZ7, cZ8, cZ9, cZ10, cZ11, cZ12⟩ := XZ.out.c13
  refine bodyPost_ret (v := .tuple #[rmv C L ll lc (some ⟨r, 0, none⟩) k kc, rE 7]) (by simp [results, Try.results28, go_sem, cZ0, cZ1, cZ2, cZ3, cZ4, cZ5, cZ6, cZ7, cZ8, cZ9, cZ10, cZ11, cZ12]) rfl ⟨rfl, HB.out⟩
set_option maxHeartbeats 1600000 in
theorem rder13 (t a b v n mm : Int) (P : Option Addr) (ln cp : Nat) (h : RZ r k W) : Calls Try.prog 28 #[rmv C L ll lc (some ⟨r, 0, none⟩) k kc, opv 13 t a b v n mm P ln cp] W fun e w' => e = .returned (.tuple #[rmv C L ll lc (some ⟨r, 0, none⟩) k kc, rE 7]) ∧ Below W.heap.size W w' := by
  have H := Lib.hid h
  clear h
  go_enter Try.func28, Try.ntmps28
  go_wp2_with fail
  obtain ⟨w1, hw1⟩ : ∃ w1, ((W.alloc (.cells #[.int .i64 C.pg, .int .i64 C.rg, .int .i64 C.lg, .int .i64 C.th, .int .i64 C.ca, .int .i64 C.ba, .int .i64 C.sh, .int .i64 C.re, .int .i64 C.mo, .int .i64 C.fi, .int .u64 C.ky, .slice L ll lc, .slice (some ⟨r, 0, none⟩) k kc] 34)).alloc (.cells #[.int .i64 13, .int .i64 t, .int .i64 a, .int .i64 b, .int .i64 v, .int .i64 n, .int .i64 mm, .slice P ln cp] 41)).alloc (.cells #[.int .i64 0, .int .i64 0, .int .i64 0, .int .i64 0, .int .i64 0, .int .i64 0, .int .i64 0, .int .i64 0, .int .i64 0, .int .i64 0, .int .u64 0, .slice none 0 0, .slice none 0 0] 34) = w1 := ⟨_, rfl⟩
  have bw1 : Below W.heap.size W w1 := by rw [← hw1]; exact alc (alc (alc0 _ _) _) _
  have sw1 : w1.heap.size = W.heap.size + 3 := by rw [← hw1]; simp
  have XM : Hid (BX (W.heap.size) #[.int .i64 C.pg, .int .i64 C.rg, .int .i64 C.lg, .int .i64 C.th, .int .i64 C.ca, .int .i64 C.ba, .int .i64 C.sh, .int .i64 C.re, .int .i64 C.mo, .int .i64 C.fi, .int .u64 C.ky, .slice L ll lc, .slice (some ⟨r, 0, none⟩) k kc] w1) := Lib.hid (by rw [← hw1]; exact (bx_new _ _ _).block ((alc (alc0 _ _) _).block _ (by simp)))
  have XO : Hid (BX (W.heap.size + 1) #[.int .i64 13, .int .i64 t, .int .i64 a, .int .i64 b, .int .i64 v, .int .i64 n, .int .i64 mm, .slice P ln cp] w1) := Lib.hid (by rw [← hw1]; exact (bx_at _ _ _ (by simp)).block ((alc0 _ _).block _ (by simp)))
  have XZ : Hid (BX (W.heap.size + 1 + 1) #[.int .i64 0, .int .i64 0, .int .i64 0, .int .i64 0, .int .i64 0, .int .i64 0, .int .i64 0, .int .i64 0, .int .i64 0, .int .i64 0, .int .u64 0, .slice none 0 0, .slice none 0 0] w1) := Lib.hid (by rw [← hw1]; exact bx_at _ _ _ (by simp))
  rw [hw1]
  clear hw1
  have HB := Lib.hid bw1
  clear bw1
  refine (rgetz b (H.out.below HB.out)).mono ?_
  rintro e w2 ⟨rfl, bw2⟩
  have sw2 := bw2.size
  replace XM := Lib.hid (XM.out.block (bw2.block (W.heap.size) (by omega)))
  replace XO := Lib.hid (XO.out.block (bw2.block (W.heap.size + 1) (by omega)))
  replace XZ := Lib.hid (XZ.out.block (bw2.block (W.heap.size + 1 + 1) (by omega)))
  replace HB := Lib.hid (thn HB.out bw2)
  clear bw2
  go_upto_region 4 with (fail)
  obtain ⟨w3, hw3⟩ : ∃ w3, (w2.alloc (.cells #[.int .i64 0, .int .i64 0, .int .i64 0, .int .i64 0, .int .i64 0] 54)).alloc (.cells #[.int .i64 0, .int .i64 0, .int .i64 0, .int .i64 0, .int .i64 0] 54) = w3 := ⟨_, rfl⟩
  have bw3 : Below w2.heap.size w2 w3 := by rw [← hw3]; exact alc (alc0 _ _) _
  have sw3 : w3.heap.size = w2.heap.size + 2 := by rw [← hw3]; simp
  have XX : Hid (BX (w2.heap.size) #[.int .i64 0, .int .i64 0, .int .i64 0, .int .i64 0, .int .i64 0] w3) := Lib.hid (by rw [← hw3]; exact (bx_new _ _ _).block ((alc0 _ _).block _ (by simp)))
  have XY : Hid (BX (w2.heap.size + 1) #[.int .i64 0, .int .i64 0, .int .i64 0, .int .i64 0, .int .i64 0] w3) := Lib.hid (by rw [← hw3]; exact bx_at _ _ _ (by simp))
  rw [hw3]
  clear hw3
  replace XM := Lib.hid (XM.out.block (bw3.block (W.heap.size) (by omega)))
  replace XO := Lib.hid (XO.out.block (bw3.block (W.heap.size + 1) (by omega)))
  replace XZ := Lib.hid (XZ.out.block (bw3.block (W.heap.size + 1 + 1) (by omega)))
  replace HB := Lib.hid (thn HB.out bw3)
  clear bw3
  obtain ⟨cM0, cM1, cM2, cM3, cM4, cM5, cM6, cM7, cM8, cM9, cM10, cM11, cM12⟩ := XM.out.c13
  obtain ⟨cO0, cO1, cO2, cO3, cO4, cO5, cO6, cO7⟩ := XO.out.c8
  obtain ⟨cZ0, cZ1, cZ2, cZ3, cZ4, cZ5, cZ6, cZ7, cZ8, cZ9, cZ10, cZ11, cZ12⟩ := XZ.out.c13
  obtain ⟨cX0, cX1, cX2, cX3, cX4⟩ := XX.out.c5
  obtain ⟨cY0, cY1, cY2, cY3, cY4⟩ := XY.out.c5
  obtain ⟨fZ0, fZ1, fZ2, fZ3, fZ4, fZ5, fZ6, fZ7, fZ8, fZ9, fZ10, fZ11, fZ12⟩ := XZ.out.f13
  go_wp2_with fail
  refine (rslot0 4).mono ?_
  rintro e w4 ⟨rfl, bw4⟩
  clear cM0 cM1 cM2 cM3 cM4 cM5 cM6 cM7 cM8 cM9 cM10 cM11 cM12 cO0 cO1 cO2 cO3 cO4 cO5 cO6 cO7 cZ0 cZ1 cZ2 cZ3 cZ4 cZ5 cZ6 cZ7 cZ8 cZ9 cZ10 cZ11 cZ12 cX0 cX1 cX2 cX3 cX4 cY0 cY1 cY2 cY3 cY4 fZ0 fZ1 fZ2 fZ3 fZ4 fZ5 fZ6 fZ7 fZ8 fZ9 fZ10 fZ11 fZ12
  have sw4 := bw4.size
  replace XM := Lib.hid (XM.out.block (bw4.block (W.heap.size) (by omega)))
  replace XO := Lib.hid (XO.out.block (bw4.block (W.heap.size + 1) (by omega)))
  replace XZ := Lib.hid (XZ.out.block (bw4.block (W.heap.size + 1 + 1) (by omega)))
  replace XX := Lib.hid (XX.out.block (bw4.block (w2.heap.size) (by omega)))
  replace XY := Lib.hid (XY.out.block (bw4.block (w2.heap.size + 1) (by omega)))
  replace HB := Lib.hid (thn HB.out bw4)
  clear bw4
  obtain ⟨cM0, cM1, cM2, cM3, cM4, cM5, cM6, cM7, cM8, cM9, cM10, cM11, cM12⟩ := XM.out.c13
  obtain ⟨cO0, cO1, cO2, cO3, cO4, cO5, cO6, cO7⟩ := XO.out.c8
  obtain ⟨cZ0, cZ1, cZ2, cZ3, cZ4, cZ5, cZ6, cZ7, cZ8, cZ9, cZ10, cZ11, cZ12⟩ := XZ.out.c13
  obtain ⟨cX0, cX1, cX2, cX3, cX4⟩ := XX.out.c5
  obtain ⟨cY0, cY1, cY2, cY3, cY4⟩ := XY.out.c5
  obtain ⟨fZ0, fZ1, fZ2, fZ3, fZ4, fZ5, fZ6, fZ7, fZ8, fZ9, fZ10, fZ11, fZ12⟩ := XZ.out.f13
  go_wp2_with fail
  obtain ⟨w5, hw5⟩ : ∃ w5, w5 = sets13 w4 (W.heap.size + 1 + 1) (.int .i64 C.pg) (.int .i64 C.rg) (.int .i64 C.lg) (.int .i64 C.th) (.int .i64 C.ca) (.int .i64 C.ba) (.int .i64 C.sh) (.int .i64 C.re) (.int .i64 C.mo) (.int .i64 C.fi) (.int .u64 C.ky) (.slice L ll lc) (.slice (some ⟨r, 0, none⟩) k kc) := ⟨_, rfl⟩
  obtain ⟨sw5, kw5, lw5, XZn⟩ := XZ.out.put13s rfl hw5
  unfold sets13 at hw5
  rw [← hw5]
  clear hw5
  clear cM0 cM1 cM2 cM3 cM4 cM5 cM6 cM7 cM8 cM9 cM10 cM11 cM12 cO0 cO1 cO2 cO3 cO4 cO5 cO6 cO7 cZ0 cZ1 cZ2 cZ3 cZ4 cZ5 cZ6 cZ7 cZ8 cZ9 cZ10 cZ11 cZ12 cX0 cX1 cX2 cX3 cX4 cY0 cY1 cY2 cY3 cY4 fZ0 fZ1 fZ2 fZ3 fZ4 fZ5 fZ6 fZ7 fZ8 fZ9 fZ10 fZ11 fZ12
  replace XZ := Lib.hid XZn
  clear XZn
  replace XM := Lib.hid (XM.out.block (kw5 (W.heap.size) (by omega)))
  replace XO := Lib.hid (XO.out.block (kw5 (W.heap.size + 1) (by omega)))
  replace XX := Lib.hid (XX.out.block (kw5 (w2.heap.size) (by omega)))
  replace XY := Lib.hid (XY.out.block (kw5 (w2.heap.size + 1) (by omega)))
  replace HB := Lib.hid (HB.out.trans (lw5 W.heap.size (by omega)))
  clear kw5 lw5
  obtain ⟨cZ0, cZ1, cZ2, cZ3, cZ4, cZ5, cZ6, cZ7, cZ8, cZ9, cZ10, cZ11, cZ12⟩ := XZ.out.c13
  refine bodyPost_ret (v := .tuple #[rmv C L ll lc (some ⟨r, 0, none⟩) k kc, rE 7]) (by simp [results, Try.results28, go_sem, cZ0, cZ1, cZ2, cZ3, cZ4, cZ5, cZ6, cZ7, cZ8, cZ9, cZ10, cZ11, cZ12]) rfl ⟨rfl, HB.out⟩
set_option maxHeartbeats 1600000 in
theorem rrena (t a b v n mm : Int) (P : Option Addr) (ln cp : Nat) (full : Bool) (h1 : askE C t n false = 1) (h : RZ r k W) : Calls Try.prog 27 #[rmv C L ll lc (some ⟨r, 0, none⟩) k kc, opv 5 t a b v n mm P ln cp, .bool full] W fun e w' => e = .returned (.tuple #[rmv C L ll lc (some ⟨r, 0, none⟩) k kc, rE 1]) ∧ Below W.heap.size W w' := by
  have HA : ∀ w, Calls Try.prog 47 #[rmv C L ll lc (some ⟨r, 0, none⟩) k kc, .int .i64 t, .int .i64 n, .bool false] w fun e w' => e = .returned (rE 1) ∧ Below w.heap.size w w' := fun w => by
    have := rask (C := C) (L := L) (ll := ll) (lc := lc) (R := some ⟨r, 0, none⟩) (k := k) (kc := kc) (W := w) t n false
    rwa [h1] at this
  have H := Lib.hid h
  clear h h1
  go_enter Try.func27, Try.ntmps27
  go_wp2_with fail
  obtain ⟨w1, hw1⟩ : ∃ w1, ((W.alloc (.cells #[.int .i64 C.pg, .int .i64 C.rg, .int .i64 C.lg, .int .i64 C.th, .int .i64 C.ca, .int .i64 C.ba, .int .i64 C.sh, .int .i64 C.re, .int .i64 C.mo, .int .i64 C.fi, .int .u64 C.ky, .slice L ll lc, .slice (some ⟨r, 0, none⟩) k kc] 34)).alloc (.cells #[.int .i64 5, .int .i64 t, .int .i64 a, .int .i64 b, .int .i64 v, .int .i64 n, .int .i64 mm, .slice P ln cp] 41)).alloc (.cells #[.int .i64 0, .int .i64 0, .int .i64 0, .int .i64 0, .int .i64 0, .int .i64 0, .int .i64 0, .int .i64 0, .int .i64 0, .int .i64 0, .int .u64 0, .slice none 0 0, .slice none 0 0] 34) = w1 := ⟨_, rfl⟩
  have bw1 : Below W.heap.size W w1 := by rw [← hw1]; exact alc (alc (alc0 _ _) _) _
  have sw1 : w1.heap.size = W.heap.size + 3 := by rw [← hw1]; simp
  have XM : Hid (BX (W.heap.size) #[.int .i64 C.pg, .int .i64 C.rg, .int .i64 C.lg, .int .i64 C.th, .int .i64 C.ca, .int .i64 C.ba, .int .i64 C.sh, .int .i64 C.re, .int .i64 C.mo, .int .i64 C.fi, .int .u64 C.ky, .slice L ll lc, .slice (some ⟨r, 0, none⟩) k kc] w1) := Lib.hid (by rw [← hw1]; exact (bx_new _ _ _).block ((alc (alc0 _ _) _).block _ (by simp)))
  have XO : Hid (BX (W.heap.size + 1) #[.int .i64 5, .int .i64 t, .int .i64 a, .int .i64 b, .int .i64 v, .int .i64 n, .int .i64 mm, .slice P ln cp] w1) := Lib.hid (by rw [← hw1]; exact (bx_at _ _ _ (by simp)).block ((alc0 _ _).block _ (by simp)))
  have XZ : Hid (BX (W.heap.size + 1 + 1) #[.int .i64 0, .int .i64 0, .int .i64 0, .int .i64 0, .int .i64 0, .int .i64 0, .int .i64 0, .int .i64 0, .int .i64 0, .int .i64 0, .int .u64 0, .slice none 0 0, .slice none 0 0] w1) := Lib.hid (by rw [← hw1]; exact bx_at _ _ _ (by simp))
  rw [hw1]
  clear hw1
  have HB := Lib.hid bw1
  clear bw1
  refine (HA _).mono ?_
  rintro e w2 ⟨rfl, bw2⟩
  have sw2 := bw2.size
  replace XM := Lib.hid (XM.out.block (bw2.block (W.heap.size) (by omega)))
  replace XO := Lib.hid (XO.out.block (bw2.block (W.heap.size + 1) (by omega)))
  replace XZ := Lib.hid (XZ.out.block (bw2.block (W.heap.size + 1 + 1) (by omega)))
  replace HB := Lib.hid (thn HB.out bw2)
  clear bw2
  obtain ⟨cM0, cM1, cM2, cM3, cM4, cM5, cM6, cM7, cM8, cM9, cM10, cM11, cM12⟩ := XM.out.c13
  obtain ⟨cO0, cO1, cO2, cO3, cO4, cO5, cO6, cO7⟩ := XO.out.c8
  obtain ⟨cZ0, cZ1, cZ2, cZ3, cZ4, cZ5, cZ6, cZ7, cZ8, cZ9, cZ10, cZ11, cZ12⟩ := XZ.out.c13
  obtain ⟨fZ0, fZ1, fZ2, fZ3, fZ4, fZ5, fZ6, fZ7, fZ8, fZ9, fZ10, fZ11, fZ12⟩ := XZ.out.f13
  go_wp2_with fail
  obtain ⟨w3, hw3⟩ : ∃ w3, w3 = sets13 w2 (W.heap.size + 1 + 1) (.int .i64 C.pg) (.int .i64 C.rg) (.int .i64 C.lg) (.int .i64 C.th) (.int .i64 C.ca) (.int .i64 C.ba) (.int .i64 C.sh) (.int .i64 C.re) (.int .i64 C.mo) (.int .i64 C.fi) (.int .u64 C.ky) (.slice L ll lc) (.slice (some ⟨r, 0, none⟩) k kc) := ⟨_, rfl⟩
  obtain ⟨sw3, kw3, lw3, XZn⟩ := XZ.out.put13s rfl hw3
  unfold sets13 at hw3
  rw [← hw3]
  clear hw3
  clear cM0 cM1 cM2 cM3 cM4 cM5 cM6 cM7 cM8 cM9 cM10 cM11 cM12 cO0 cO1 cO2 cO3 cO4 cO5 cO6 cO7 cZ0 cZ1 cZ2 cZ3 cZ4 cZ5 cZ6 cZ7 cZ8 cZ9 cZ10 cZ11 cZ12 fZ0 fZ1 fZ2 fZ3 fZ4 fZ5 fZ6 fZ7 fZ8 fZ9 fZ10 fZ11 fZ12
  replace XZ := Lib.hid XZn
  clear XZn
  replace XM := Lib.hid (XM.out.block (kw3 (W.heap.size) (by omega)))
  replace XO := Lib.hid (XO.out.block (kw3 (W.heap.size + 1) (by omega)))
  replace HB := Lib.hid (HB.out.trans (lw3 W.heap.size (by omega)))
  clear kw3 lw3
  obtain ⟨cZ0, cZ1, cZ2, cZ3, cZ4, cZ5, cZ6, cZ7, cZ8, cZ9, cZ10, cZ11, cZ12⟩ := XZ.out.c13
  refine bodyPost_ret (v := .tuple #[rmv C L ll lc (some ⟨r, 0, none⟩) k kc, rE 1]) (by simp [results, Try.results27, go_sem, cZ0, cZ1, cZ2, cZ3, cZ4, cZ5, cZ6, cZ7, cZ8, cZ9, cZ10, cZ11, cZ12]) rfl ⟨rfl, HB.out⟩
set_option maxHeartbeats 1600000 in
theorem rrenb (t a b v n mm : Int) (P : Option Addr) (ln cp : Nat) (full : Bool) (h1 : askE C t n false = 4) (h : RZ r k W) : Calls Try.prog 27 #[rmv C L ll lc (some ⟨r, 0, none⟩) k kc, opv 5 t a b v n mm P ln cp, .bool full] W fun e w' => e = .returned (.tuple #[rmv C L ll lc (some ⟨r, 0, none⟩) k kc, rE 4]) ∧ Below W.heap.size W w' := by
  have HA : ∀ w, Calls Try.prog 47 #[rmv C L ll lc (some ⟨r, 0, none⟩) k kc, .int .i64 t, .int .i64 n, .bool false] w fun e w' => e = .returned (rE 4) ∧ Below w.heap.size w w' := fun w => by
    have := rask (C := C) (L := L) (ll := ll) (lc := lc) (R := some ⟨r, 0, none⟩) (k := k) (kc := kc) (W := w) t n false
    rwa [h1] at this
  have H := Lib.hid h
  clear h h1
  go_enter Try.func27, Try.ntmps27
  go_wp2_with fail
  obtain ⟨w1, hw1⟩ : ∃ w1, ((W.alloc (.cells #[.int .i64 C.pg, .int .i64 C.rg, .int .i64 C.lg, .int .i64 C.th, .int .i64 C.ca, .int .i64 C.ba, .int .i64 C.sh, .int .i64 C.re, .int .i64 C.mo, .int .i64 C.fi, .int .u64 C.ky, .slice L ll lc, .slice (some ⟨r, 0, none⟩) k kc] 34)).alloc (.cells #[.int .i64 5, .int .i64 t, .int .i64 a, .int .i64 b, .int .i64 v, .int .i64 n, .int .i64 mm, .slice P ln cp] 41)).alloc (.cells #[.int .i64 0, .int .i64 0, .int .i64 0, .int .i64 0, .int .i64 0, .int .i64 0, .int .i64 0, .int .i64 0, .int .i64 0, .int .i64 0, .int .u64 0, .slice none 0 0, .slice none 0 0] 34) = w1 := ⟨_, rfl⟩
  have bw1 : Below W.heap.size W w1 := by rw [← hw1]; exact alc (alc (alc0 _ _) _) _
  have sw1 : w1.heap.size = W.heap.size + 3 := by rw [← hw1]; simp
  have XM : Hid (BX (W.heap.size) #[.int .i64 C.pg, .int .i64 C.rg, .int .i64 C.lg, .int .i64 C.th, .int .i64 C.ca, .int .i64 C.ba, .int .i64 C.sh, .int .i64 C.re, .int .i64 C.mo, .int .i64 C.fi, .int .u64 C.ky, .slice L ll lc, .slice (some ⟨r, 0, none⟩) k kc] w1) := Lib.hid (by rw [← hw1]; exact (bx_new _ _ _).block ((alc (alc0 _ _) _).block _ (by simp)))
  have XO : Hid (BX (W.heap.size + 1) #[.int .i64 5, .int .i64 t, .int .i64 a, .int .i64 b, .int .i64 v, .int .i64 n, .int .i64 mm, .slice P ln cp] w1) := Lib.hid (by rw [← hw1]; exact (bx_at _ _ _ (by simp)).block ((alc0 _ _).block _ (by simp)))
  have XZ : Hid (BX (W.heap.size + 1 + 1) #[.int .i64 0, .int .i64 0, .int .i64 0, .int .i64 0, .int .i64 0, .int .i64 0, .int .i64 0, .int .i64 0, .int .i64 0, .int .i64 0, .int .u64 0, .slice none 0 0, .slice none 0 0] w1) := Lib.hid (by rw [← hw1]; exact bx_at _ _ _ (by simp))
  rw [hw1]
  clear hw1
  have HB := Lib.hid bw1
  clear bw1
  refine (HA _).mono ?_
  rintro e w2 ⟨rfl, bw2⟩
  have sw2 := bw2.size
  replace XM := Lib.hid (XM.out.block (bw2.block (W.heap.size) (by omega)))
  replace XO := Lib.hid (XO.out.block (bw2.block (W.heap.size + 1) (by omega)))
  replace XZ := Lib.hid (XZ.out.block (bw2.block (W.heap.size + 1 + 1) (by omega)))
  replace HB := Lib.hid (thn HB.out bw2)
  clear bw2
  obtain ⟨cM0, cM1, cM2, cM3, cM4, cM5, cM6, cM7, cM8, cM9, cM10, cM11, cM12⟩ := XM.out.c13
  obtain ⟨cO0, cO1, cO2, cO3, cO4, cO5, cO6, cO7⟩ := XO.out.c8
  obtain ⟨cZ0, cZ1, cZ2, cZ3, cZ4, cZ5, cZ6, cZ7, cZ8, cZ9, cZ10, cZ11, cZ12⟩ := XZ.out.c13
  obtain ⟨fZ0, fZ1, fZ2, fZ3, fZ4, fZ5, fZ6, fZ7, fZ8, fZ9, fZ10, fZ11, fZ12⟩ := XZ.out.f13
  go_wp2_with fail
  obtain ⟨w3, hw3⟩ : ∃ w3, w3 = sets13 w2 (W.heap.size + 1 + 1) (.int .i64 C.pg) (.int .i64 C.rg) (.int .i64 C.lg) (.int .i64 C.th) (.int .i64 C.ca) (.int .i64 C.ba) (.int .i64 C.sh) (.int .i64 C.re) (.int .i64 C.mo) (.int .i64 C.fi) (.int .u64 C.ky) (.slice L ll lc) (.slice (some ⟨r, 0, none⟩) k kc) := ⟨_, rfl⟩
  obtain ⟨sw3, kw3, lw3, XZn⟩ := XZ.out.put13s rfl hw3
  unfold sets13 at hw3
  rw [← hw3]
  clear hw3
  clear cM0 cM1 cM2 cM3 cM4 cM5 cM6 cM7 cM8 cM9 cM10 cM11 cM12 cO0 cO1 cO2 cO3 cO4 cO5 cO6 cO7 cZ0 cZ1 cZ2 cZ3 cZ4 cZ5 cZ6 cZ7 cZ8 cZ9 cZ10 cZ11 cZ12 fZ0 fZ1 fZ2 fZ3 fZ4 fZ5 fZ6 fZ7 fZ8 fZ9 fZ10 fZ11 fZ12
  replace XZ := Lib.hid XZn
  clear XZn
  replace XM := Lib.hid (XM.out.block (kw3 (W.heap.size) (by omega)))
  replace XO := Lib.hid (XO.out.block (kw3 (W.heap.size + 1) (by omega)))
  replace HB := Lib.hid (HB.out.trans (lw3 W.heap.size (by omega)))
  clear kw3 lw3
  obtain ⟨cZ0, cZ1, cZ2, cZ3, cZ4, cZ5, cZ6, cZ7, cZ8, cZ9, cZ10, cZ11, cZ12⟩ := XZ.out.c13
  refine bodyPost_ret (v := .tuple #[rmv C L ll lc (some ⟨r, 0, none⟩) k kc, rE 4]) (by simp [results, Try.results27, go_sem, cZ0, cZ1, cZ2, cZ3, cZ4, cZ5, cZ6, cZ7, cZ8, cZ9, cZ10, cZ11, cZ12]) rfl ⟨rfl, HB.out⟩
set_option maxHeartbeats 1600000 in
theorem rrenc (t a b v n mm : Int) (P : Option Addr) (ln cp : Nat) (full : Bool) (h1 : askE C t n false = 0) (h : RZ r k W) : Calls Try.prog 27 #[rmv C L ll lc (some ⟨r, 0, none⟩) k kc, opv 5 t a b v n mm P ln cp, .bool full] W fun e w' => e = .returned (.tuple #[rmv C L ll lc (some ⟨r, 0, none⟩) k kc, rE 7]) ∧ Below W.heap.size W w' := by
  have HA : ∀ w, Calls Try.prog 47 #[rmv C L ll lc (some ⟨r, 0, none⟩) k kc, .int .i64 t, .int .i64 n, .bool false] w fun e w' => e = .returned (rE 0) ∧ Below w.heap.size w w' := fun w => by
    have := rask (C := C) (L := L) (ll := ll) (lc := lc) (R := some ⟨r, 0, none⟩) (k := k) (kc := kc) (W := w) t n false
    rwa [h1] at this
  have H := Lib.hid h
  clear h h1
  go_enter Try.func27, Try.ntmps27
  go_wp2_with fail
  obtain ⟨w1, hw1⟩ : ∃ w1, ((W.alloc (.cells #[.int .i64 C.pg, .int .i64 C.rg, .int .i64 C.lg, .int .i64 C.th, .int .i64 C.ca, .int .i64 C.ba, .int .i64 C.sh, .int .i64 C.re, .int .i64 C.mo, .int .i64 C.fi, .int .u64 C.ky, .slice L ll lc, .slice (some ⟨r, 0, none⟩) k kc] 34)).alloc (.cells #[.int .i64 5, .int .i64 t, .int .i64 a, .int .i64 b, .int .i64 v, .int .i64 n, .int .i64 mm, .slice P ln cp] 41)).alloc (.cells #[.int .i64 0, .int .i64 0, .int .i64 0, .int .i64 0, .int .i64 0, .int .i64 0, .int .i64 0, .int .i64 0, .int .i64 0, .int .i64 0, .int .u64 0, .slice none 0 0, .slice none 0 0] 34) = w1 := ⟨_, rfl⟩
  have bw1 : Below W.heap.size W w1 := by rw [← hw1]; exact alc (alc (alc0 _ _) _) _
  have sw1 : w1.heap.size = W.heap.size + 3 := by rw [← hw1]; simp
  have XM : Hid (BX (W.heap.size) #[.int .i64 C.pg, .int .i64 C.rg, .int .i64 C.lg, .int .i64 C.th, .int .i64 C.ca, .int .i64 C.ba, .int .i64 C.sh, .int .i64 C.re, .int .i64 C.mo, .int .i64 C.fi, .int .u64 C.ky, .slice L ll lc, .slice (some ⟨r, 0, none⟩) k kc] w1) := Lib.hid (by rw [← hw1]; exact (bx_new _ _ _).block ((alc (alc0 _ _) _).block _ (by simp)))
  have XO : Hid (BX (W.heap.size + 1) #[.int .i64 5, .int .i64 t, .int .i64 a, .int .i64 b, .int .i64 v, .int .i64 n, .int .i64 mm, .slice P ln cp] w1) := Lib.hid (by rw [← hw1]; exact (bx_at _ _ _ (by simp)).block ((alc0 _ _).block _ (by simp)))
  have XZ : Hid (BX (W.heap.size + 1 + 1) #[.int .i64 0, .int .i64 0, .int .i64 0, .int .i64 0, .int .i64 0, .int .i64 0, .int .i64 0, .int .i64 0, .int .i64 0, .int .i64 0, .int .u64 0, .slice none 0 0, .slice none 0 0] w1) := Lib.hid (by rw [← hw1]; exact bx_at _ _ _ (by simp))
  rw [hw1]
  clear hw1
  have HB := Lib.hid bw1
  clear bw1
  refine (HA _).mono ?_
  rintro e w2 ⟨rfl, bw2⟩
  have sw2 := bw2.size
  replace XM := Lib.hid (XM.out.block (bw2.block (W.heap.size) (by omega)))
  replace XO := Lib.hid (XO.out.block (bw2.block (W.heap.size + 1) (by omega)))
  replace XZ := Lib.hid (XZ.out.block (bw2.block (W.heap.size + 1 + 1) (by omega)))
  replace HB := Lib.hid (thn HB.out bw2)
  clear bw2
  obtain ⟨cM0, cM1, cM2, cM3, cM4, cM5, cM6, cM7, cM8, cM9, cM10, cM11, cM12⟩ := XM.out.c13
  obtain ⟨cO0, cO1, cO2, cO3, cO4, cO5, cO6, cO7⟩ := XO.out.c8
  obtain ⟨cZ0, cZ1, cZ2, cZ3, cZ4, cZ5, cZ6, cZ7, cZ8, cZ9, cZ10, cZ11, cZ12⟩ := XZ.out.c13
  obtain ⟨fZ0, fZ1, fZ2, fZ3, fZ4, fZ5, fZ6, fZ7, fZ8, fZ9, fZ10, fZ11, fZ12⟩ := XZ.out.f13
  go_wp2_with fail
  refine (rgetz b (H.out.below HB.out)).mono ?_
  rintro e w3 ⟨rfl, bw3⟩
  clear cM0 cM1 cM2 cM3 cM4 cM5 cM6 cM7 cM8 cM9 cM10 cM11 cM12 cO0 cO1 cO2 cO3 cO4 cO5 cO6 cO7 cZ0 cZ1 cZ2 cZ3 cZ4 cZ5 cZ6 cZ7 cZ8 cZ9 cZ10 cZ11 cZ12 fZ0 fZ1 fZ2 fZ3 fZ4 fZ5 fZ6 fZ7 fZ8 fZ9 fZ10 fZ11 fZ12
  have sw3 := bw3.size
  replace XM := Lib.hid (XM.out.block (bw3.block (W.heap.size) (by omega)))
  replace XO := Lib.hid (XO.out.block (bw3.block (W.heap.size + 1) (by omega)))
  replace XZ := Lib.hid (XZ.out.block (bw3.block (W.heap.size + 1 + 1) (by omega)))
  replace HB := Lib.hid (thn HB.out bw3)
  clear bw3
  go_upto_region 5 with (fail)
  obtain ⟨w4, hw4⟩ : ∃ w4, w3.alloc (.cells #[.int .i64 0, .int .i64 0, .int .i64 0, .int .i64 0, .int .i64 0] 54) = w4 := ⟨_, rfl⟩
  have bw4 : Below w3.heap.size w3 w4 := by rw [← hw4]; exact alc0 _ _
  have sw4 : w4.heap.size = w3.heap.size + 1 := by rw [← hw4]; simp
  have XX : Hid (BX (w3.heap.size) #[.int .i64 0, .int .i64 0, .int .i64 0, .int .i64 0, .int .i64 0] w4) := Lib.hid (by rw [← hw4]; exact bx_new _ _ _)
  rw [hw4]
  clear hw4
  replace XM := Lib.hid (XM.out.block (bw4.block (W.heap.size) (by omega)))
  replace XO := Lib.hid (XO.out.block (bw4.block (W.heap.size + 1) (by omega)))
  replace XZ := Lib.hid (XZ.out.block (bw4.block (W.heap.size + 1 + 1) (by omega)))
  replace HB := Lib.hid (thn HB.out bw4)
  clear bw4
  obtain ⟨cM0, cM1, cM2, cM3, cM4, cM5, cM6, cM7, cM8, cM9, cM10, cM11, cM12⟩ := XM.out.c13
  obtain ⟨cO0, cO1, cO2, cO3, cO4, cO5, cO6, cO7⟩ := XO.out.c8
  obtain ⟨cZ0, cZ1, cZ2, cZ3, cZ4, cZ5, cZ6, cZ7, cZ8, cZ9, cZ10, cZ11, cZ12⟩ := XZ.out.c13
  obtain ⟨cX0, cX1, cX2, cX3, cX4⟩ := XX.out.c5
  obtain ⟨fZ0, fZ1, fZ2, fZ3, fZ4, fZ5, fZ6, fZ7, fZ8, fZ9, fZ10, fZ11, fZ12⟩ := XZ.out.f13
  go_wp2_with fail
  refine (rwhole0).mono ?_
  rintro e w5 ⟨rfl, bw5⟩
  clear cM0 cM1 cM2 cM3 cM4 cM5 cM6 cM7 cM8 cM9 cM10 cM11 cM12 cO0 cO1 cO2 cO3 cO4 cO5 cO6 cO7 cZ0 cZ1 cZ2 cZ3 cZ4 cZ5 cZ6 cZ7 cZ8 cZ9 cZ10 cZ11 cZ12 cX0 cX1 cX2 cX3 cX4 fZ0 fZ1 fZ2 fZ3 fZ4 fZ5 fZ6 fZ7 fZ8 fZ9 fZ10 fZ11 fZ12
  have sw5 := bw5.size
  replace XM := Lib.hid (XM.out.block (bw5.block (W.heap.size) (by omega)))
  replace XO := Lib.hid (XO.out.block (bw5.block (W.heap.size + 1) (by omega)))
  replace XZ := Lib.hid (XZ.out.block (bw5.block (W.heap.size + 1 + 1) (by omega)))
  replace XX := Lib.hid (XX.out.block (bw5.block (w3.heap.size) (by omega)))
  replace HB := Lib.hid (thn HB.out bw5)
  clear bw5
  obtain ⟨cM0, cM1, cM2, cM3, cM4, cM5, cM6, cM7, cM8, cM9, cM10, cM11, cM12⟩ := XM.out.c13
  obtain ⟨cZ0, cZ1, cZ2, cZ3, cZ4, cZ5, cZ6, cZ7, cZ8, cZ9, cZ10, cZ11, cZ12⟩ := XZ.out.c13
  obtain ⟨fZ0, fZ1, fZ2, fZ3, fZ4, fZ5, fZ6, fZ7, fZ8, fZ9, fZ10, fZ11, fZ12⟩ := XZ.out.f13
  go_wp2_with fail
  obtain ⟨w6, hw6⟩ : ∃ w6, w6 = sets13 w5 (W.heap.size + 1 + 1) (.int .i64 C.pg) (.int .i64 C.rg) (.int .i64 C.lg) (.int .i64 C.th) (.int .i64 C.ca) (.int .i64 C.ba) (.int .i64 C.sh) (.int .i64 C.re) (.int .i64 C.mo) (.int .i64 C.fi) (.int .u64 C.ky) (.slice L ll lc) (.slice (some ⟨r, 0, none⟩) k kc) := ⟨_, rfl⟩
  obtain ⟨sw6, kw6, lw6, XZn⟩ := XZ.out.put13s rfl hw6
  unfold sets13 at hw6
  rw [← hw6]
  clear hw6
  clear cM0 cM1 cM2 cM3 cM4 cM5 cM6 cM7 cM8 cM9 cM10 cM11 cM12 cZ0 cZ1 cZ2 cZ3 cZ4 cZ5 cZ6 cZ7 cZ8 cZ9 cZ10 cZ11 cZ12 fZ0 fZ1 fZ2 fZ3 fZ4 fZ5 fZ6 fZ7 fZ8 fZ9 fZ10 fZ11 fZ12
  replace XZ := Lib.hid XZn
  clear XZn
  replace XM := Lib.hid (XM.out.block (kw6 (W.heap.size) (by omega)))
  replace XO := Lib.hid (XO.out.block (kw6 (W.heap.size + 1) (by omega)))
  replace XX := Lib.hid (XX.out.block (kw6 (w3.heap.size) (by omega)))
  replace HB := Lib.hid (HB.out.trans (lw6 W.heap.size (by omega)))
  clear kw6 lw6
  obtain ⟨cZ0, cZ1, cZ2, cZ3, cZ4, cZ5, cZ6, cZ7, cZ8, cZ9, cZ10, cZ11, cZ12⟩ := XZ.out.c13
  refine bodyPost_ret (v := .tuple #[rmv C L ll lc (some ⟨r, 0, none⟩) k kc, rE 7]) (by simp [results, Try.results27, go_sem, cZ0, cZ1, cZ2, cZ3, cZ4, cZ5, cZ6, cZ7, cZ8, cZ9, cZ10, cZ11, cZ12]) rfl ⟨rfl, HB.out⟩
end
end Go.Proofs.Ytanmmhbnjmglhaa
