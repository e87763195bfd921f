/- MpD. -/
import Derived.Test.YtanmmhbnjmglhaaZ34
import Derived.RegionTactic
namespace Go.Proofs.Ytanmmhbnjmglhaa
set_option maxRecDepth 100000
open Go.RowKit Go.ChangeMaps Go.MapKept
set_option linter.unusedVariables false
set_option linter.unusedSimpArgs false
section
variable {C : Cf} {r k kc : Nat} {W : World}
set_option maxHeartbeats 1600000 in
theorem rmk2a1 (t a b v n mm : Int) (P : Option Addr) (ln cp : Nat) (full : Bool) (g1 : n < 1) (hok : C.ok) (h : RZ r k W) : Calls Try.prog 26 #[rmv C none 0 0 (some ⟨r, 0, none⟩) k kc, opv 2 t a b v n mm P ln cp, .bool full] W (fun e w' => e = .returned (.tuple #[rmv C none 0 0 (some ⟨r, 0, none⟩) k kc, rE 1]) ∧ Below W.heap.size W w') := by
  have hwf := u8w hok.2.2
  have H := Lib.hid h
  clear h
  go_enter Try.func26, Try.ntmps26
  go_upto_region 1 with (fail)
  obtain ⟨w1, hw1⟩ : ∃ w1, ((W.alloc (.cells #[.int .i64 C.pg, .int .i64 C.rg, .int .i64 C.lg, .int .i64 C.th, .int .i64 C.ca, .int .i64 C.ba, .int .i64 C.sh, .int .i64 C.re, .int .i64 C.mo, .int .i64 C.fi, .int .u64 C.ky, .slice none 0 0, .slice (some ⟨r, 0, none⟩) k kc] 34)).alloc (.cells #[.int .i64 2, .int .i64 t, .int .i64 a, .int .i64 b, .int .i64 v, .int .i64 n, .int .i64 mm, .slice P ln cp] 41)).alloc (.cells #[.int .i64 0, .int .i64 0, .int .i64 0, .int .i64 0, .int .i64 0, .int .i64 0, .int .i64 0, .int .i64 0, .int .i64 0, .int .i64 0, .int .u64 0, .slice none 0 0, .slice none 0 0] 34) = w1 := ⟨_, rfl⟩
  have bw1 : Below W.heap.size W w1 := by rw [← hw1]; exact alc (alc (alc0 _ _) _) _
  have sw1 : w1.heap.size = W.heap.size + 3 := by rw [← hw1]; simp
  have XM : Hid (BX (W.heap.size) #[.int .i64 C.pg, .int .i64 C.rg, .int .i64 C.lg, .int .i64 C.th, .int .i64 C.ca, .int .i64 C.ba, .int .i64 C.sh, .int .i64 C.re, .int .i64 C.mo, .int .i64 C.fi, .int .u64 C.ky, .slice none 0 0, .slice (some ⟨r, 0, none⟩) k kc] w1) := Lib.hid (by rw [← hw1]; exact (bx_new _ _ _).block ((alc (alc0 _ _) _).block _ (by simp)))
  have XO : Hid (BX (W.heap.size + 1) #[.int .i64 2, .int .i64 t, .int .i64 a, .int .i64 b, .int .i64 v, .int .i64 n, .int .i64 mm, .slice P ln cp] w1) := Lib.hid (by rw [← hw1]; exact (bx_at _ _ _ (by simp)).block ((alc0 _ _).block _ (by simp)))
  have XZ : Hid (BX (W.heap.size + 1 + 1) #[.int .i64 0, .int .i64 0, .int .i64 0, .int .i64 0, .int .i64 0, .int .i64 0, .int .i64 0, .int .i64 0, .int .i64 0, .int .i64 0, .int .u64 0, .slice none 0 0, .slice none 0 0] w1) := Lib.hid (by rw [← hw1]; exact bx_at _ _ _ (by simp))
  rw [hw1]
  clear hw1
  have HB := Lib.hid bw1
  clear bw1
  obtain ⟨cM0, cM1, cM2, cM3, cM4, cM5, cM6, cM7, cM8, cM9, cM10, cM11, cM12⟩ := XM.out.c13
  obtain ⟨cO0, cO1, cO2, cO3, cO4, cO5, cO6, cO7⟩ := XO.out.c8
  obtain ⟨cZ0, cZ1, cZ2, cZ3, cZ4, cZ5, cZ6, cZ7, cZ8, cZ9, cZ10, cZ11, cZ12⟩ := XZ.out.c13
  obtain ⟨fZ0, fZ1, fZ2, fZ3, fZ4, fZ5, fZ6, fZ7, fZ8, fZ9, fZ10, fZ11, fZ12⟩ := XZ.out.f13
  go_region
  obtain ⟨w2, hw2⟩ : ∃ w2, w1.drew = w2 := ⟨_, rfl⟩
  rw [hw2]
  have bw2 : Below w1.heap.size w1 w2 := by rw [← hw2]; exact (Below.refl _ w1).drew
  have sw2 : w2.heap.size = w1.heap.size := by rw [← hw2]; rfl
  clear hw2
  replace XM := Lib.hid (XM.out.block (bw2.block (W.heap.size) (by omega)))
  replace XO := Lib.hid (XO.out.block (bw2.block (W.heap.size + 1) (by omega)))
  replace XZ := Lib.hid (XZ.out.block (bw2.block (W.heap.size + 1 + 1) (by omega)))
  replace HB := Lib.hid (thn HB.out bw2)
  clear bw2
  clear cM0 cM1 cM2 cM3 cM4 cM5 cM6 cM7 cM8 cM9 cM10 cM11 cM12 cO0 cO1 cO2 cO3 cO4 cO5 cO6 cO7 cZ0 cZ1 cZ2 cZ3 cZ4 cZ5 cZ6 cZ7 cZ8 cZ9 cZ10 cZ11 cZ12 fZ0 fZ1 fZ2 fZ3 fZ4 fZ5 fZ6 fZ7 fZ8 fZ9 fZ10 fZ11 fZ12
  obtain ⟨cM0, cM1, cM2, cM3, cM4, cM5, cM6, cM7, cM8, cM9, cM10, cM11, cM12⟩ := XM.out.c13
  obtain ⟨cO0, cO1, cO2, cO3, cO4, cO5, cO6, cO7⟩ := XO.out.c8
  obtain ⟨cZ0, cZ1, cZ2, cZ3, cZ4, cZ5, cZ6, cZ7, cZ8, cZ9, cZ10, cZ11, cZ12⟩ := XZ.out.c13
  obtain ⟨fZ0, fZ1, fZ2, fZ3, fZ4, fZ5, fZ6, fZ7, fZ8, fZ9, fZ10, fZ11, fZ12⟩ := XZ.out.f13
  go_wp2_with fail
  obtain ⟨w3, hw3⟩ : ∃ w3, w3 = sets13 w2 (W.heap.size + 1 + 1) (.int .i64 C.pg) (.int .i64 C.rg) (.int .i64 C.lg) (.int .i64 C.th) (.int .i64 C.ca) (.int .i64 C.ba) (.int .i64 C.sh) (.int .i64 C.re) (.int .i64 C.mo) (.int .i64 C.fi) (.int .u64 C.ky) (.slice none 0 0) (.slice (some ⟨r, 0, none⟩) k kc) := ⟨_, rfl⟩
  obtain ⟨sw3, kw3, lw3, XZn⟩ := XZ.out.put13s rfl hw3
  unfold sets13 at hw3
  rw [← hw3]
  clear hw3
  clear cM0 cM1 cM2 cM3 cM4 cM5 cM6 cM7 cM8 cM9 cM10 cM11 cM12 cO0 cO1 cO2 cO3 cO4 cO5 cO6 cO7 cZ0 cZ1 cZ2 cZ3 cZ4 cZ5 cZ6 cZ7 cZ8 cZ9 cZ10 cZ11 cZ12 fZ0 fZ1 fZ2 fZ3 fZ4 fZ5 fZ6 fZ7 fZ8 fZ9 fZ10 fZ11 fZ12
  replace XZ := Lib.hid XZn
  clear XZn
  replace XM := Lib.hid (XM.out.block (kw3 (W.heap.size) (by omega)))
  replace XO := Lib.hid (XO.out.block (kw3 (W.heap.size + 1) (by omega)))
  replace HB := Lib.hid (HB.out.trans (lw3 W.heap.size (by omega)))
  clear kw3 lw3
  obtain ⟨cZ0, cZ1, cZ2, cZ3, cZ4, cZ5, cZ6, cZ7, cZ8, cZ9, cZ10, cZ11, cZ12⟩ := XZ.out.c13
  refine bodyPost_ret (v := .tuple #[rmv C none 0 0 (some ⟨r, 0, none⟩) k kc, rE 1]) (by simp [results, Try.results26, go_sem, cZ0, cZ1, cZ2, cZ3, cZ4, cZ5, cZ6, cZ7, cZ8, cZ9, cZ10, cZ11, cZ12]) rfl ⟨rfl, HB.out⟩
set_option maxHeartbeats 1600000 in
theorem rmk2a2 (t a b v n mm : Int) (P : Option Addr) (ln cp : Nat) (full : Bool) (g1 : ¬ n < 1) (g2 : mm < 1) (hok : C.ok) (h : RZ r k W) : Calls Try.prog 26 #[rmv C none 0 0 (some ⟨r, 0, none⟩) k kc, opv 2 t a b v n mm P ln cp, .bool full] W (fun e w' => e = .returned (.tuple #[rmv C none 0 0 (some ⟨r, 0, none⟩) k kc, rE 1]) ∧ Below W.heap.size W w') := by
  have hwf := u8w hok.2.2
  have H := Lib.hid h
  clear h
  go_enter Try.func26, Try.ntmps26
  go_upto_region 1 with (fail)
  obtain ⟨w1, hw1⟩ : ∃ w1, ((W.alloc (.cells #[.int .i64 C.pg, .int .i64 C.rg, .int .i64 C.lg, .int .i64 C.th, .int .i64 C.ca, .int .i64 C.ba, .int .i64 C.sh, .int .i64 C.re, .int .i64 C.mo, .int .i64 C.fi, .int .u64 C.ky, .slice none 0 0, .slice (some ⟨r, 0, none⟩) k kc] 34)).alloc (.cells #[.int .i64 2, .int .i64 t, .int .i64 a, .int .i64 b, .int .i64 v, .int .i64 n, .int .i64 mm, .slice P ln cp] 41)).alloc (.cells #[.int .i64 0, .int .i64 0, .int .i64 0, .int .i64 0, .int .i64 0, .int .i64 0, .int .i64 0, .int .i64 0, .int .i64 0, .int .i64 0, .int .u64 0, .slice none 0 0, .slice none 0 0] 34) = w1 := ⟨_, rfl⟩
  have bw1 : Below W.heap.size W w1 := by rw [← hw1]; exact alc (alc (alc0 _ _) _) _
  have sw1 : w1.heap.size = W.heap.size + 3 := by rw [← hw1]; simp
  have XM : Hid (BX (W.heap.size) #[.int .i64 C.pg, .int .i64 C.rg, .int .i64 C.lg, .int .i64 C.th, .int .i64 C.ca, .int .i64 C.ba, .int .i64 C.sh, .int .i64 C.re, .int .i64 C.mo, .int .i64 C.fi, .int .u64 C.ky, .slice none 0 0, .slice (some ⟨r, 0, none⟩) k kc] w1) := Lib.hid (by rw [← hw1]; exact (bx_new _ _ _).block ((alc (alc0 _ _) _).block _ (by simp)))
  have XO : Hid (BX (W.heap.size + 1) #[.int .i64 2, .int .i64 t, .int .i64 a, .int .i64 b, .int .i64 v, .int .i64 n, .int .i64 mm, .slice P ln cp] w1) := Lib.hid (by rw [← hw1]; exact (bx_at _ _ _ (by simp)).block ((alc0 _ _).block _ (by simp)))
  have XZ : Hid (BX (W.heap.size + 1 + 1) #[.int .i64 0, .int .i64 0, .int .i64 0, .int .i64 0, .int .i64 0, .int .i64 0, .int .i64 0, .int .i64 0, .int .i64 0, .int .i64 0, .int .u64 0, .slice none 0 0, .slice none 0 0] w1) := Lib.hid (by rw [← hw1]; exact bx_at _ _ _ (by simp))
  rw [hw1]
  clear hw1
  have HB := Lib.hid bw1
  clear bw1
  obtain ⟨cM0, cM1, cM2, cM3, cM4, cM5, cM6, cM7, cM8, cM9, cM10, cM11, cM12⟩ := XM.out.c13
  obtain ⟨cO0, cO1, cO2, cO3, cO4, cO5, cO6, cO7⟩ := XO.out.c8
  obtain ⟨cZ0, cZ1, cZ2, cZ3, cZ4, cZ5, cZ6, cZ7, cZ8, cZ9, cZ10, cZ11, cZ12⟩ := XZ.out.c13
  obtain ⟨fZ0, fZ1, fZ2, fZ3, fZ4, fZ5, fZ6, fZ7, fZ8, fZ9, fZ10, fZ11, fZ12⟩ := XZ.out.f13
  go_region
  obtain ⟨w2, hw2⟩ : ∃ w2, w1.drew = w2 := ⟨_, rfl⟩
  rw [hw2]
  have bw2 : Below w1.heap.size w1 w2 := by rw [← hw2]; exact (Below.refl _ w1).drew
  have sw2 : w2.heap.size = w1.heap.size := by rw [← hw2]; rfl
  clear hw2
  replace XM := Lib.hid (XM.out.block (bw2.block (W.heap.size) (by omega)))
  replace XO := Lib.hid (XO.out.block (bw2.block (W.heap.size + 1) (by omega)))
  replace XZ := Lib.hid (XZ.out.block (bw2.block (W.heap.size + 1 + 1) (by omega)))
  replace HB := Lib.hid (thn HB.out bw2)
  clear bw2
  clear cM0 cM1 cM2 cM3 cM4 cM5 cM6 cM7 cM8 cM9 cM10 cM11 cM12 cO0 cO1 cO2 cO3 cO4 cO5 cO6 cO7 cZ0 cZ1 cZ2 cZ3 cZ4 cZ5 cZ6 cZ7 cZ8 cZ9 cZ10 cZ11 cZ12 fZ0 fZ1 fZ2 fZ3 fZ4 fZ5 fZ6 fZ7 fZ8 fZ9 fZ10 fZ11 fZ12
  obtain ⟨cM0, cM1, cM2, cM3, cM4, cM5, cM6, cM7, cM8, cM9, cM10, cM11, cM12⟩ := XM.out.c13
  obtain ⟨cO0, cO1, cO2, cO3, cO4, cO5, cO6, cO7⟩ := XO.out.c8
  obtain ⟨cZ0, cZ1, cZ2, cZ3, cZ4, cZ5, cZ6, cZ7, cZ8, cZ9, cZ10, cZ11, cZ12⟩ := XZ.out.c13
  obtain ⟨fZ0, fZ1, fZ2, fZ3, fZ4, fZ5, fZ6, fZ7, fZ8, fZ9, fZ10, fZ11, fZ12⟩ := XZ.out.f13
  go_wp2_with fail
  obtain ⟨w3, hw3⟩ : ∃ w3, w3 = sets13 w2 (W.heap.size + 1 + 1) (.int .i64 C.pg) (.int .i64 C.rg) (.int .i64 C.lg) (.int .i64 C.th) (.int .i64 C.ca) (.int .i64 C.ba) (.int .i64 C.sh) (.int .i64 C.re) (.int .i64 C.mo) (.int .i64 C.fi) (.int .u64 C.ky) (.slice none 0 0) (.slice (some ⟨r, 0, none⟩) k kc) := ⟨_, rfl⟩
  obtain ⟨sw3, kw3, lw3, XZn⟩ := XZ.out.put13s rfl hw3
  unfold sets13 at hw3
  rw [← hw3]
  clear hw3
  clear cM0 cM1 cM2 cM3 cM4 cM5 cM6 cM7 cM8 cM9 cM10 cM11 cM12 cO0 cO1 cO2 cO3 cO4 cO5 cO6 cO7 cZ0 cZ1 cZ2 cZ3 cZ4 cZ5 cZ6 cZ7 cZ8 cZ9 cZ10 cZ11 cZ12 fZ0 fZ1 fZ2 fZ3 fZ4 fZ5 fZ6 fZ7 fZ8 fZ9 fZ10 fZ11 fZ12
  replace XZ := Lib.hid XZn
  clear XZn
  replace XM := Lib.hid (XM.out.block (kw3 (W.heap.size) (by omega)))
  replace XO := Lib.hid (XO.out.block (kw3 (W.heap.size + 1) (by omega)))
  replace HB := Lib.hid (HB.out.trans (lw3 W.heap.size (by omega)))
  clear kw3 lw3
  obtain ⟨cZ0, cZ1, cZ2, cZ3, cZ4, cZ5, cZ6, cZ7, cZ8, cZ9, cZ10, cZ11, cZ12⟩ := XZ.out.c13
  refine bodyPost_ret (v := .tuple #[rmv C none 0 0 (some ⟨r, 0, none⟩) k kc, rE 1]) (by simp [results, Try.results26, go_sem, cZ0, cZ1, cZ2, cZ3, cZ4, cZ5, cZ6, cZ7, cZ8, cZ9, cZ10, cZ11, cZ12]) rfl ⟨rfl, HB.out⟩
set_option maxHeartbeats 1600000 in
theorem rmk2a3 (t a b v n mm : Int) (P : Option Addr) (ln cp : Nat) (full : Bool) (g1 : ¬ n < 1) (g2 : ¬ mm < 1) (g3 : t < 0) (hok : C.ok) (h : RZ r k W) : Calls Try.prog 26 #[rmv C none 0 0 (some ⟨r, 0, none⟩) k kc, opv 2 t a b v n mm P ln cp, .bool full] W (fun e w' => e = .returned (.tuple #[rmv C none 0 0 (some ⟨r, 0, none⟩) k kc, rE 1]) ∧ Below W.heap.size W w') := by
  have hwf := u8w hok.2.2
  have H := Lib.hid h
  clear h
  go_enter Try.func26, Try.ntmps26
  go_upto_region 1 with (fail)
  obtain ⟨w1, hw1⟩ : ∃ w1, ((W.alloc (.cells #[.int .i64 C.pg, .int .i64 C.rg, .int .i64 C.lg, .int .i64 C.th, .int .i64 C.ca, .int .i64 C.ba, .int .i64 C.sh, .int .i64 C.re, .int .i64 C.mo, .int .i64 C.fi, .int .u64 C.ky, .slice none 0 0, .slice (some ⟨r, 0, none⟩) k kc] 34)).alloc (.cells #[.int .i64 2, .int .i64 t, .int .i64 a, .int .i64 b, .int .i64 v, .int .i64 n, .int .i64 mm, .slice P ln cp] 41)).alloc (.cells #[.int .i64 0, .int .i64 0, .int .i64 0, .int .i64 0, .int .i64 0, .int .i64 0, .int .i64 0, .int .i64 0, .int .i64 0, .int .i64 0, .int .u64 0, .slice none 0 0, .slice none 0 0] 34) = w1 := ⟨_, rfl⟩
  have bw1 : Below W.heap.size W w1 := by rw [← hw1]; exact alc (alc (alc0 _ _) _) _
  have sw1 : w1.heap.size = W.heap.size + 3 := by rw [← hw1]; simp
  have XM : Hid (BX (W.heap.size) #[.int .i64 C.pg, .int .i64 C.rg, .int .i64 C.lg, .int .i64 C.th, .int .i64 C.ca, .int .i64 C.ba, .int .i64 C.sh, .int .i64 C.re, .int .i64 C.mo, .int .i64 C.fi, .int .u64 C.ky, .slice none 0 0, .slice (some ⟨r, 0, none⟩) k kc] w1) := Lib.hid (by rw [← hw1]; exact (bx_new _ _ _).block ((alc (alc0 _ _) _).block _ (by simp)))
  have XO : Hid (BX (W.heap.size + 1) #[.int .i64 2, .int .i64 t, .int .i64 a, .int .i64 b, .int .i64 v, .int .i64 n, .int .i64 mm, .slice P ln cp] w1) := Lib.hid (by rw [← hw1]; exact (bx_at _ _ _ (by simp)).block ((alc0 _ _).block _ (by simp)))
  have XZ : Hid (BX (W.heap.size + 1 + 1) #[.int .i64 0, .int .i64 0, .int .i64 0, .int .i64 0, .int .i64 0, .int .i64 0, .int .i64 0, .int .i64 0, .int .i64 0, .int .i64 0, .int .u64 0, .slice none 0 0, .slice none 0 0] w1) := Lib.hid (by rw [← hw1]; exact bx_at _ _ _ (by simp))
  rw [hw1]
  clear hw1
  have HB := Lib.hid bw1
  clear bw1
  obtain ⟨cM0, cM1, cM2, cM3, cM4, cM5, cM6, cM7, cM8, cM9, cM10, cM11, cM12⟩ := XM.out.c13
  obtain ⟨cO0, cO1, cO2, cO3, cO4, cO5, cO6, cO7⟩ := XO.out.c8
  obtain ⟨cZ0, cZ1, cZ2, cZ3, cZ4, cZ5, cZ6, cZ7, cZ8, cZ9, cZ10, cZ11, cZ12⟩ := XZ.out.c13
  obtain ⟨fZ0, fZ1, fZ2, fZ3, fZ4, fZ5, fZ6, fZ7, fZ8, fZ9, fZ10, fZ11, fZ12⟩ := XZ.out.f13
  go_region
  obtain ⟨w2, hw2⟩ : ∃ w2, w1.drew = w2 := ⟨_, rfl⟩
  rw [hw2]
  have bw2 : Below w1.heap.size w1 w2 := by rw [← hw2]; exact (Below.refl _ w1).drew
  have sw2 : w2.heap.size = w1.heap.size := by rw [← hw2]; rfl
  clear hw2
  replace XM := Lib.hid (XM.out.block (bw2.block (W.heap.size) (by omega)))
  replace XO := Lib.hid (XO.out.block (bw2.block (W.heap.size + 1) (by omega)))
  replace XZ := Lib.hid (XZ.out.block (bw2.block (W.heap.size + 1 + 1) (by omega)))
  replace HB := Lib.hid (thn HB.out bw2)
  clear bw2
  clear cM0 cM1 cM2 cM3 cM4 cM5 cM6 cM7 cM8 cM9 cM10 cM11 cM12 cO0 cO1 cO2 cO3 cO4 cO5 cO6 cO7 cZ0 cZ1 cZ2 cZ3 cZ4 cZ5 cZ6 cZ7 cZ8 cZ9 cZ10 cZ11 cZ12 fZ0 fZ1 fZ2 fZ3 fZ4 fZ5 fZ6 fZ7 fZ8 fZ9 fZ10 fZ11 fZ12
  obtain ⟨cM0, cM1, cM2, cM3, cM4, cM5, cM6, cM7, cM8, cM9, cM10, cM11, cM12⟩ := XM.out.c13
  obtain ⟨cO0, cO1, cO2, cO3, cO4, cO5, cO6, cO7⟩ := XO.out.c8
  obtain ⟨cZ0, cZ1, cZ2, cZ3, cZ4, cZ5, cZ6, cZ7, cZ8, cZ9, cZ10, cZ11, cZ12⟩ := XZ.out.c13
  obtain ⟨fZ0, fZ1, fZ2, fZ3, fZ4, fZ5, fZ6, fZ7, fZ8, fZ9, fZ10, fZ11, fZ12⟩ := XZ.out.f13
  go_wp2_with fail
  obtain ⟨w3, hw3⟩ : ∃ w3, w3 = sets13 w2 (W.heap.size + 1 + 1) (.int .i64 C.pg) (.int .i64 C.rg) (.int .i64 C.lg) (.int .i64 C.th) (.int .i64 C.ca) (.int .i64 C.ba) (.int .i64 C.sh) (.int .i64 C.re) (.int .i64 C.mo) (.int .i64 C.fi) (.int .u64 C.ky) (.slice none 0 0) (.slice (some ⟨r, 0, none⟩) k kc) := ⟨_, rfl⟩
  obtain ⟨sw3, kw3, lw3, XZn⟩ := XZ.out.put13s rfl hw3
  unfold sets13 at hw3
  rw [← hw3]
  clear hw3
  clear cM0 cM1 cM2 cM3 cM4 cM5 cM6 cM7 cM8 cM9 cM10 cM11 cM12 cO0 cO1 cO2 cO3 cO4 cO5 cO6 cO7 cZ0 cZ1 cZ2 cZ3 cZ4 cZ5 cZ6 cZ7 cZ8 cZ9 cZ10 cZ11 cZ12 fZ0 fZ1 fZ2 fZ3 fZ4 fZ5 fZ6 fZ7 fZ8 fZ9 fZ10 fZ11 fZ12
  replace XZ := Lib.hid XZn
  clear XZn
  replace XM := Lib.hid (XM.out.block (kw3 (W.heap.size) (by omega)))
  replace XO := Lib.hid (XO.out.block (kw3 (W.heap.size + 1) (by omega)))
  replace HB := Lib.hid (HB.out.trans (lw3 W.heap.size (by omega)))
  clear kw3 lw3
  obtain ⟨cZ0, cZ1, cZ2, cZ3, cZ4, cZ5, cZ6, cZ7, cZ8, cZ9, cZ10, cZ11, cZ12⟩ := XZ.out.c13
  refine bodyPost_ret (v := .tuple #[rmv C none 0 0 (some ⟨r, 0, none⟩) k kc, rE 1]) (by simp [results, Try.results26, go_sem, cZ0, cZ1, cZ2, cZ3, cZ4, cZ5, cZ6, cZ7, cZ8, cZ9, cZ10, cZ11, cZ12]) rfl ⟨rfl, HB.out⟩
set_option maxHeartbeats 1600000 in
theorem rmk2a4 (t a b v n mm : Int) (P : Option Addr) (ln cp : Nat) (full : Bool) (g1 : ¬ n < 1) (g2 : ¬ mm < 1) (g3 : ¬ t < 0) (g4 : C.th ≤ t) (hok : C.ok) (h : RZ r k W) : Calls Try.prog 26 #[rmv C none 0 0 (some ⟨r, 0, none⟩) k kc, opv 2 t a b v n mm P ln cp, .bool full] W (fun e w' => e = .returned (.tuple #[rmv C none 0 0 (some ⟨r, 0, none⟩) k kc, rE 1]) ∧ Below W.heap.size W w') := by
  have g5 : t ≥ C.th := g4
  have hwf := u8w hok.2.2
  have H := Lib.hid h
  clear h
  go_enter Try.func26, Try.ntmps26
  go_upto_region 1 with (fail)
  obtain ⟨w1, hw1⟩ : ∃ w1, ((W.alloc (.cells #[.int .i64 C.pg, .int .i64 C.rg, .int .i64 C.lg, .int .i64 C.th, .int .i64 C.ca, .int .i64 C.ba, .int .i64 C.sh, .int .i64 C.re, .int .i64 C.mo, .int .i64 C.fi, .int .u64 C.ky, .slice none 0 0, .slice (some ⟨r, 0, none⟩) k kc] 34)).alloc (.cells #[.int .i64 2, .int .i64 t, .int .i64 a, .int .i64 b, .int .i64 v, .int .i64 n, .int .i64 mm, .slice P ln cp] 41)).alloc (.cells #[.int .i64 0, .int .i64 0, .int .i64 0, .int .i64 0, .int .i64 0, .int .i64 0, .int .i64 0, .int .i64 0, .int .i64 0, .int .i64 0, .int .u64 0, .slice none 0 0, .slice none 0 0] 34) = w1 := ⟨_, rfl⟩
  have bw1 : Below W.heap.size W w1 := by rw [← hw1]; exact alc (alc (alc0 _ _) _) _
  have sw1 : w1.heap.size = W.heap.size + 3 := by rw [← hw1]; simp
  have XM : Hid (BX (W.heap.size) #[.int .i64 C.pg, .int .i64 C.rg, .int .i64 C.lg, .int .i64 C.th, .int .i64 C.ca, .int .i64 C.ba, .int .i64 C.sh, .int .i64 C.re, .int .i64 C.mo, .int .i64 C.fi, .int .u64 C.ky, .slice none 0 0, .slice (some ⟨r, 0, none⟩) k kc] w1) := Lib.hid (by rw [← hw1]; exact (bx_new _ _ _).block ((alc (alc0 _ _) _).block _ (by simp)))
  have XO : Hid (BX (W.heap.size + 1) #[.int .i64 2, .int .i64 t, .int .i64 a, .int .i64 b, .int .i64 v, .int .i64 n, .int .i64 mm, .slice P ln cp] w1) := Lib.hid (by rw [← hw1]; exact (bx_at _ _ _ (by simp)).block ((alc0 _ _).block _ (by simp)))
  have XZ : Hid (BX (W.heap.size + 1 + 1) #[.int .i64 0, .int .i64 0, .int .i64 0, .int .i64 0, .int .i64 0, .int .i64 0, .int .i64 0, .int .i64 0, .int .i64 0, .int .i64 0, .int .u64 0, .slice none 0 0, .slice none 0 0] w1) := Lib.hid (by rw [← hw1]; exact bx_at _ _ _ (by simp))
  rw [hw1]
  clear hw1
  have HB := Lib.hid bw1
  clear bw1
  obtain ⟨cM0, cM1, cM2, cM3, cM4, cM5, cM6, cM7, cM8, cM9, cM10, cM11, cM12⟩ := XM.out.c13
  obtain ⟨cO0, cO1, cO2, cO3, cO4, cO5, cO6, cO7⟩ := XO.out.c8
  obtain ⟨cZ0, cZ1, cZ2, cZ3, cZ4, cZ5, cZ6, cZ7, cZ8, cZ9, cZ10, cZ11, cZ12⟩ := XZ.out.c13
  obtain ⟨fZ0, fZ1, fZ2, fZ3, fZ4, fZ5, fZ6, fZ7, fZ8, fZ9, fZ10, fZ11, fZ12⟩ := XZ.out.f13
  go_region
  obtain ⟨w2, hw2⟩ : ∃ w2, w1.drew = w2 := ⟨_, rfl⟩
  rw [hw2]
  have bw2 : Below w1.heap.size w1 w2 := by rw [← hw2]; exact (Below.refl _ w1).drew
  have sw2 : w2.heap.size = w1.heap.size := by rw [← hw2]; rfl
  clear hw2
  replace XM := Lib.hid (XM.out.block (bw2.block (W.heap.size) (by omega)))
  replace XO := Lib.hid (XO.out.block (bw2.block (W.heap.size + 1) (by omega)))
  replace XZ := Lib.hid (XZ.out.block (bw2.block (W.heap.size + 1 + 1) (by omega)))
  replace HB := Lib.hid (thn HB.out bw2)
  clear bw2
  clear cM0 cM1 cM2 cM3 cM4 cM5 cM6 cM7 cM8 cM9 cM10 cM11 cM12 cO0 cO1 cO2 cO3 cO4 cO5 cO6 cO7 cZ0 cZ1 cZ2 cZ3 cZ4 cZ5 cZ6 cZ7 cZ8 cZ9 cZ10 cZ11 cZ12 fZ0 fZ1 fZ2 fZ3 fZ4 fZ5 fZ6 fZ7 fZ8 fZ9 fZ10 fZ11 fZ12
  obtain ⟨cM0, cM1, cM2, cM3, cM4, cM5, cM6, cM7, cM8, cM9, cM10, cM11, cM12⟩ := XM.out.c13
  obtain ⟨cO0, cO1, cO2, cO3, cO4, cO5, cO6, cO7⟩ := XO.out.c8
  obtain ⟨cZ0, cZ1, cZ2, cZ3, cZ4, cZ5, cZ6, cZ7, cZ8, cZ9, cZ10, cZ11, cZ12⟩ := XZ.out.c13
  obtain ⟨fZ0, fZ1, fZ2, fZ3, fZ4, fZ5, fZ6, fZ7, fZ8, fZ9, fZ10, fZ11, fZ12⟩ := XZ.out.f13
  go_wp2_with fail
  obtain ⟨w3, hw3⟩ : ∃ w3, w3 = sets13 w2 (W.heap.size + 1 + 1) (.int .i64 C.pg) (.int .i64 C.rg) (.int .i64 C.lg) (.int .i64 C.th) (.int .i64 C.ca) (.int .i64 C.ba) (.int .i64 C.sh) (.int .i64 C.re) (.int .i64 C.mo) (.int .i64 C.fi) (.int .u64 C.ky) (.slice none 0 0) (.slice (some ⟨r, 0, none⟩) k kc) := ⟨_, rfl⟩
  obtain ⟨sw3, kw3, lw3, XZn⟩ := XZ.out.put13s rfl hw3
  unfold sets13 at hw3
  rw [← hw3]
  clear hw3
  clear cM0 cM1 cM2 cM3 cM4 cM5 cM6 cM7 cM8 cM9 cM10 cM11 cM12 cO0 cO1 cO2 cO3 cO4 cO5 cO6 cO7 cZ0 cZ1 cZ2 cZ3 cZ4 cZ5 cZ6 cZ7 cZ8 cZ9 cZ10 cZ11 cZ12 fZ0 fZ1 fZ2 fZ3 fZ4 fZ5 fZ6 fZ7 fZ8 fZ9 fZ10 fZ11 fZ12
  replace XZ := Lib.hid XZn
  clear XZn
  replace XM := Lib.hid (XM.out.block (kw3 (W.heap.size) (by omega)))
  replace XO := Lib.hid (XO.out.block (kw3 (W.heap.size + 1) (by omega)))
  replace HB := Lib.hid (HB.out.trans (lw3 W.heap.size (by omega)))
  clear kw3 lw3
  obtain ⟨cZ0, cZ1, cZ2, cZ3, cZ4, cZ5, cZ6, cZ7, cZ8, cZ9, cZ10, cZ11, cZ12⟩ := XZ.out.c13
  refine bodyPost_ret (v := .tuple #[rmv C none 0 0 (some ⟨r, 0, none⟩) k kc, rE 1]) (by simp [results, Try.results26, go_sem, cZ0, cZ1, cZ2, cZ3, cZ4, cZ5, cZ6, cZ7, cZ8, cZ9, cZ10, cZ11, cZ12]) rfl ⟨rfl, HB.out⟩
set_option maxHeartbeats 1600000 in
theorem rmk2b (t a b v n mm : Int) (P : Option Addr) (ln cp : Nat) (full : Bool) (g1 : ¬ n < 1) (g2 : ¬ mm < 1) (g3 : ¬ t < 0) (g4 : ¬ C.th ≤ t) (g6 : n > C.mo / mm) (hok : C.ok) (h : RZ r k W) : Calls Try.prog 26 #[rmv C none 0 0 (some ⟨r, 0, none⟩) k kc, opv 2 t a b v n mm P ln cp, .bool full] W (fun e w' => e = .returned (.tuple #[rmv C none 0 0 (some ⟨r, 0, none⟩) k kc, rE 4]) ∧ Below W.heap.size W w') := by
  have g5 : ¬ t ≥ C.th := g4
  obtain ⟨Q, hQ⟩ : ∃ Q, C.mo / mm = Q := ⟨_, rfl⟩
  have hd0 : ¬ mm = 0 := by omega
  rw [hQ] at g6
  have hmo := hok.2.1
  have hQ1 : 0 ≤ Q := by rw [← hQ]; exact Int.ediv_nonneg (by omega) (by omega)
  have hQ2 : Q ≤ 8000 := by rw [← hQ]; exact Int.le_trans (Int.ediv_le_self _ (by omega)) (by omega)
  have hQt : C.mo.tdiv mm = Q := by rw [← hQ]; exact Int.tdiv_eq_ediv_of_nonneg (by omega)
  have hwf := u8w hok.2.2
  have H := Lib.hid h
  clear h
  go_enter Try.func26, Try.ntmps26
  go_upto_region 1 with (fail)
  obtain ⟨w1, hw1⟩ : ∃ w1, ((W.alloc (.cells #[.int .i64 C.pg, .int .i64 C.rg, .int .i64 C.lg, .int .i64 C.th, .int .i64 C.ca, .int .i64 C.ba, .int .i64 C.sh, .int .i64 C.re, .int .i64 C.mo, .int .i64 C.fi, .int .u64 C.ky, .slice none 0 0, .slice (some ⟨r, 0, none⟩) k kc] 34)).alloc (.cells #[.int .i64 2, .int .i64 t, .int .i64 a, .int .i64 b, .int .i64 v, .int .i64 n, .int .i64 mm, .slice P ln cp] 41)).alloc (.cells #[.int .i64 0, .int .i64 0, .int .i64 0, .int .i64 0, .int .i64 0, .int .i64 0, .int .i64 0, .int .i64 0, .int .i64 0, .int .i64 0, .int .u64 0, .slice none 0 0, .slice none 0 0] 34) = w1 := ⟨_, rfl⟩
  have bw1 : Below W.heap.size W w1 := by rw [← hw1]; exact alc (alc (alc0 _ _) _) _
  have sw1 : w1.heap.size = W.heap.size + 3 := by rw [← hw1]; simp
  have XM : Hid (BX (W.heap.size) #[.int .i64 C.pg, .int .i64 C.rg, .int .i64 C.lg, .int .i64 C.th, .int .i64 C.ca, .int .i64 C.ba, .int .i64 C.sh, .int .i64 C.re, .int .i64 C.mo, .int .i64 C.fi, .int .u64 C.ky, .slice none 0 0, .slice (some ⟨r, 0, none⟩) k kc] w1) := Lib.hid (by rw [← hw1]; exact (bx_new _ _ _).block ((alc (alc0 _ _) _).block _ (by simp)))
  have XO : Hid (BX (W.heap.size + 1) #[.int .i64 2, .int .i64 t, .int .i64 a, .int .i64 b, .int .i64 v, .int .i64 n, .int .i64 mm, .slice P ln cp] w1) := Lib.hid (by rw [← hw1]; exact (bx_at _ _ _ (by simp)).block ((alc0 _ _).block _ (by simp)))
  have XZ : Hid (BX (W.heap.size + 1 + 1) #[.int .i64 0, .int .i64 0, .int .i64 0, .int .i64 0, .int .i64 0, .int .i64 0, .int .i64 0, .int .i64 0, .int .i64 0, .int .i64 0, .int .u64 0, .slice none 0 0, .slice none 0 0] w1) := Lib.hid (by rw [← hw1]; exact bx_at _ _ _ (by simp))
  rw [hw1]
  clear hw1
  have HB := Lib.hid bw1
  clear bw1
  obtain ⟨cM0, cM1, cM2, cM3, cM4, cM5, cM6, cM7, cM8, cM9, cM10, cM11, cM12⟩ := XM.out.c13
  obtain ⟨cO0, cO1, cO2, cO3, cO4, cO5, cO6, cO7⟩ := XO.out.c8
  obtain ⟨cZ0, cZ1, cZ2, cZ3, cZ4, cZ5, cZ6, cZ7, cZ8, cZ9, cZ10, cZ11, cZ12⟩ := XZ.out.c13
  obtain ⟨fZ0, fZ1, fZ2, fZ3, fZ4, fZ5, fZ6, fZ7, fZ8, fZ9, fZ10, fZ11, fZ12⟩ := XZ.out.f13
  go_region
  obtain ⟨w2, hw2⟩ : ∃ w2, w1.drew = w2 := ⟨_, rfl⟩
  rw [hw2]
  have bw2 : Below w1.heap.size w1 w2 := by rw [← hw2]; exact (Below.refl _ w1).drew
  have sw2 : w2.heap.size = w1.heap.size := by rw [← hw2]; rfl
  clear hw2
  replace XM := Lib.hid (XM.out.block (bw2.block (W.heap.size) (by omega)))
  replace XO := Lib.hid (XO.out.block (bw2.block (W.heap.size + 1) (by omega)))
  replace XZ := Lib.hid (XZ.out.block (bw2.block (W.heap.size + 1 + 1) (by omega)))
  replace HB := Lib.hid (thn HB.out bw2)
  clear bw2
  clear cM0 cM1 cM2 cM3 cM4 cM5 cM6 cM7 cM8 cM9 cM10 cM11 cM12 cO0 cO1 cO2 cO3 cO4 cO5 cO6 cO7 cZ0 cZ1 cZ2 cZ3 cZ4 cZ5 cZ6 cZ7 cZ8 cZ9 cZ10 cZ11 cZ12 fZ0 fZ1 fZ2 fZ3 fZ4 fZ5 fZ6 fZ7 fZ8 fZ9 fZ10 fZ11 fZ12
  obtain ⟨cM0, cM1, cM2, cM3, cM4, cM5, cM6, cM7, cM8, cM9, cM10, cM11, cM12⟩ := XM.out.c13
  obtain ⟨cO0, cO1, cO2, cO3, cO4, cO5, cO6, cO7⟩ := XO.out.c8
  obtain ⟨cZ0, cZ1, cZ2, cZ3, cZ4, cZ5, cZ6, cZ7, cZ8, cZ9, cZ10, cZ11, cZ12⟩ := XZ.out.c13
  obtain ⟨fZ0, fZ1, fZ2, fZ3, fZ4, fZ5, fZ6, fZ7, fZ8, fZ9, fZ10, fZ11, fZ12⟩ := XZ.out.f13
  go_upto_region 6 with (fail)
  go_region
  obtain ⟨w3, hw3⟩ : ∃ w3, w2.drew = w3 := ⟨_, rfl⟩
  rw [hw3]
  have bw3 : Below w2.heap.size w2 w3 := by rw [← hw3]; exact (Below.refl _ w2).drew
  have sw3 : w3.heap.size = w2.heap.size := by rw [← hw3]; rfl
  clear hw3
  replace XM := Lib.hid (XM.out.block (bw3.block (W.heap.size) (by omega)))
  replace XO := Lib.hid (XO.out.block (bw3.block (W.heap.size + 1) (by omega)))
  replace XZ := Lib.hid (XZ.out.block (bw3.block (W.heap.size + 1 + 1) (by omega)))
  replace HB := Lib.hid (thn HB.out bw3)
  clear bw3
  clear cM0 cM1 cM2 cM3 cM4 cM5 cM6 cM7 cM8 cM9 cM10 cM11 cM12 cO0 cO1 cO2 cO3 cO4 cO5 cO6 cO7 cZ0 cZ1 cZ2 cZ3 cZ4 cZ5 cZ6 cZ7 cZ8 cZ9 cZ10 cZ11 cZ12 fZ0 fZ1 fZ2 fZ3 fZ4 fZ5 fZ6 fZ7 fZ8 fZ9 fZ10 fZ11 fZ12
  obtain ⟨cM0, cM1, cM2, cM3, cM4, cM5, cM6, cM7, cM8, cM9, cM10, cM11, cM12⟩ := XM.out.c13
  obtain ⟨cO0, cO1, cO2, cO3, cO4, cO5, cO6, cO7⟩ := XO.out.c8
  obtain ⟨cZ0, cZ1, cZ2, cZ3, cZ4, cZ5, cZ6, cZ7, cZ8, cZ9, cZ10, cZ11, cZ12⟩ := XZ.out.c13
  obtain ⟨fZ0, fZ1, fZ2, fZ3, fZ4, fZ5, fZ6, fZ7, fZ8, fZ9, fZ10, fZ11, fZ12⟩ := XZ.out.f13
  go_wp2_with fail
  obtain ⟨w4, hw4⟩ : ∃ w4, w4 = sets13 w3 (W.heap.size + 1 + 1) (.int .i64 C.pg) (.int .i64 C.rg) (.int .i64 C.lg) (.int .i64 C.th) (.int .i64 C.ca) (.int .i64 C.ba) (.int .i64 C.sh) (.int .i64 C.re) (.int .i64 C.mo) (.int .i64 C.fi) (.int .u64 C.ky) (.slice none 0 0) (.slice (some ⟨r, 0, none⟩) k kc) := ⟨_, rfl⟩
  obtain ⟨sw4, kw4, lw4, XZn⟩ := XZ.out.put13s rfl hw4
  unfold sets13 at hw4
  rw [← hw4]
  clear hw4
  clear cM0 cM1 cM2 cM3 cM4 cM5 cM6 cM7 cM8 cM9 cM10 cM11 cM12 cO0 cO1 cO2 cO3 cO4 cO5 cO6 cO7 cZ0 cZ1 cZ2 cZ3 cZ4 cZ5 cZ6 cZ7 cZ8 cZ9 cZ10 cZ11 cZ12 fZ0 fZ1 fZ2 fZ3 fZ4 fZ5 fZ6 fZ7 fZ8 fZ9 fZ10 fZ11 fZ12
  replace XZ := Lib.hid XZn
  clear XZn
  replace XM := Lib.hid (XM.out.block (kw4 (W.heap.size) (by omega)))
  replace XO := Lib.hid (XO.out.block (kw4 (W.heap.size + 1) (by omega)))
  replace HB := Lib.hid (HB.out.trans (lw4 W.heap.size (by omega)))
  clear kw4 lw4
  obtain ⟨cZ0, cZ1, cZ2, cZ3, cZ4, cZ5, cZ6, cZ7, cZ8, cZ9, cZ10, cZ11, cZ12⟩ := XZ.out.c13
  refine bodyPost_ret (v := .tuple #[rmv C none 0 0 (some ⟨r, 0, none⟩) k kc, rE 4]) (by simp [results, Try.results26, go_sem, cZ0, cZ1, cZ2, cZ3, cZ4, cZ5, cZ6, cZ7, cZ8, cZ9, cZ10, cZ11, cZ12]) rfl ⟨rfl, HB.out⟩
set_option maxHeartbeats 1600000 in
theorem rmk2c (t a b v n mm : Int) (P : Option Addr) (ln cp : Nat) (full : Bool) (g1 : ¬ n < 1) (g2 : ¬ mm < 1) (g3 : ¬ t < 0) (g4 : ¬ C.th ≤ t) (g6 : ¬ n > C.mo / mm) (hfull : full = true) (hok : C.ok) (h : RZ r k W) : Calls Try.prog 26 #[rmv C none 0 0 (some ⟨r, 0, none⟩) k kc, opv 2 t a b v n mm P ln cp, .bool full] W (fun e w' => e = .returned (.tuple #[rmv C none 0 0 (some ⟨r, 0, none⟩) k kc, rE 13]) ∧ Below W.heap.size W w') := by
  subst hfull
  have hmo0 := hok.2.1
  have hpr : 1 ≤ n * mm ∧ n * mm ≤ C.mo := by
    have h9 : n ≤ C.mo / mm := by omega
    have h3 : n * mm ≤ C.mo := (Int.le_ediv_iff_mul_le (by omega)).1 h9
    have h5 : 1 * 1 ≤ n * mm := Int.mul_le_mul (by omega) (by omega) (by omega) (by omega)
    omega
  obtain ⟨pp, hpp⟩ : ∃ pp, n * mm = pp := ⟨_, rfl⟩
  rw [hpp] at hpr
  have h1 : askE C t pp true = 13 := by unfold askE; rw [if_neg (by omega), if_neg (by omega), if_pos rfl]
  have HA : Hid (∀ w, Calls Try.prog 47 #[rmv C none 0 0 (some ⟨r, 0, none⟩) k kc, .int .i64 t, .int .i64 pp, .bool true] w fun e w' => e = .returned (rE 13) ∧ Below w.heap.size w w') := Lib.hid fun w => by
    have := rask (C := C) (L := none) (ll := 0) (lc := 0) (R := some ⟨r, 0, none⟩) (k := k) (kc := kc) (W := w) t pp true
    rwa [h1] at this
  clear h1
  have g5 : ¬ t ≥ C.th := g4
  obtain ⟨Q, hQ⟩ : ∃ Q, C.mo / mm = Q := ⟨_, rfl⟩
  have hd0 : ¬ mm = 0 := by omega
  rw [hQ] at g6
  have hmo := hok.2.1
  have hQ1 : 0 ≤ Q := by rw [← hQ]; exact Int.ediv_nonneg (by omega) (by omega)
  have hQ2 : Q ≤ 8000 := by rw [← hQ]; exact Int.le_trans (Int.ediv_le_self _ (by omega)) (by omega)
  have hQt : C.mo.tdiv mm = Q := by rw [← hQ]; exact Int.tdiv_eq_ediv_of_nonneg (by omega)
  have hwf := u8w hok.2.2
  have H := Lib.hid h
  clear h
  go_enter Try.func26, Try.ntmps26
  go_upto_region 1 with (fail)
  obtain ⟨w1, hw1⟩ : ∃ w1, ((W.alloc (.cells #[.int .i64 C.pg, .int .i64 C.rg, .int .i64 C.lg, .int .i64 C.th, .int .i64 C.ca, .int .i64 C.ba, .int .i64 C.sh, .int .i64 C.re, .int .i64 C.mo, .int .i64 C.fi, .int .u64 C.ky, .slice none 0 0, .slice (some ⟨r, 0, none⟩) k kc] 34)).alloc (.cells #[.int .i64 2, .int .i64 t, .int .i64 a, .int .i64 b, .int .i64 v, .int .i64 n, .int .i64 mm, .slice P ln cp] 41)).alloc (.cells #[.int .i64 0, .int .i64 0, .int .i64 0, .int .i64 0, .int .i64 0, .int .i64 0, .int .i64 0, .int .i64 0, .int .i64 0, .int .i64 0, .int .u64 0, .slice none 0 0, .slice none 0 0] 34) = w1 := ⟨_, rfl⟩
  have bw1 : Below W.heap.size W w1 := by rw [← hw1]; exact alc (alc (alc0 _ _) _) _
  have sw1 : w1.heap.size = W.heap.size + 3 := by rw [← hw1]; simp
  have XM : Hid (BX (W.heap.size) #[.int .i64 C.pg, .int .i64 C.rg, .int .i64 C.lg, .int .i64 C.th, .int .i64 C.ca, .int .i64 C.ba, .int .i64 C.sh, .int .i64 C.re, .int .i64 C.mo, .int .i64 C.fi, .int .u64 C.ky, .slice none 0 0, .slice (some ⟨r, 0, none⟩) k kc] w1) := Lib.hid (by rw [← hw1]; exact (bx_new _ _ _).block ((alc (alc0 _ _) _).block _ (by simp)))
  have XO : Hid (BX (W.heap.size + 1) #[.int .i64 2, .int .i64 t, .int .i64 a, .int .i64 b, .int .i64 v, .int .i64 n, .int .i64 mm, .slice P ln cp] w1) := Lib.hid (by rw [← hw1]; exact (bx_at _ _ _ (by simp)).block ((alc0 _ _).block _ (by simp)))
  have XZ : Hid (BX (W.heap.size + 1 + 1) #[.int .i64 0, .int .i64 0, .int .i64 0, .int .i64 0, .int .i64 0, .int .i64 0, .int .i64 0, .int .i64 0, .int .i64 0, .int .i64 0, .int .u64 0, .slice none 0 0, .slice none 0 0] w1) := Lib.hid (by rw [← hw1]; exact bx_at _ _ _ (by simp))
  rw [hw1]
  clear hw1
  have HB := Lib.hid bw1
  clear bw1
  obtain ⟨cM0, cM1, cM2, cM3, cM4, cM5, cM6, cM7, cM8, cM9, cM10, cM11, cM12⟩ := XM.out.c13
  obtain ⟨cO0, cO1, cO2, cO3, cO4, cO5, cO6, cO7⟩ := XO.out.c8
  obtain ⟨cZ0, cZ1, cZ2, cZ3, cZ4, cZ5, cZ6, cZ7, cZ8, cZ9, cZ10, cZ11, cZ12⟩ := XZ.out.c13
  obtain ⟨fZ0, fZ1, fZ2, fZ3, fZ4, fZ5, fZ6, fZ7, fZ8, fZ9, fZ10, fZ11, fZ12⟩ := XZ.out.f13
  go_region
  obtain ⟨w2, hw2⟩ : ∃ w2, w1.drew = w2 := ⟨_, rfl⟩
  rw [hw2]
  have bw2 : Below w1.heap.size w1 w2 := by rw [← hw2]; exact (Below.refl _ w1).drew
  have sw2 : w2.heap.size = w1.heap.size := by rw [← hw2]; rfl
  clear hw2
  replace XM := Lib.hid (XM.out.block (bw2.block (W.heap.size) (by omega)))
  replace XO := Lib.hid (XO.out.block (bw2.block (W.heap.size + 1) (by omega)))
  replace XZ := Lib.hid (XZ.out.block (bw2.block (W.heap.size + 1 + 1) (by omega)))
  replace HB := Lib.hid (thn HB.out bw2)
  clear bw2
  clear cM0 cM1 cM2 cM3 cM4 cM5 cM6 cM7 cM8 cM9 cM10 cM11 cM12 cO0 cO1 cO2 cO3 cO4 cO5 cO6 cO7 cZ0 cZ1 cZ2 cZ3 cZ4 cZ5 cZ6 cZ7 cZ8 cZ9 cZ10 cZ11 cZ12 fZ0 fZ1 fZ2 fZ3 fZ4 fZ5 fZ6 fZ7 fZ8 fZ9 fZ10 fZ11 fZ12
  obtain ⟨cM0, cM1, cM2, cM3, cM4, cM5, cM6, cM7, cM8, cM9, cM10, cM11, cM12⟩ := XM.out.c13
  obtain ⟨cO0, cO1, cO2, cO3, cO4, cO5, cO6, cO7⟩ := XO.out.c8
  obtain ⟨cZ0, cZ1, cZ2, cZ3, cZ4, cZ5, cZ6, cZ7, cZ8, cZ9, cZ10, cZ11, cZ12⟩ := XZ.out.c13
  obtain ⟨fZ0, fZ1, fZ2, fZ3, fZ4, fZ5, fZ6, fZ7, fZ8, fZ9, fZ10, fZ11, fZ12⟩ := XZ.out.f13
  go_upto_region 6 with (fail)
  go_region
  obtain ⟨w3, hw3⟩ : ∃ w3, w2.drew = w3 := ⟨_, rfl⟩
  rw [hw3]
  have bw3 : Below w2.heap.size w2 w3 := by rw [← hw3]; exact (Below.refl _ w2).drew
  have sw3 : w3.heap.size = w2.heap.size := by rw [← hw3]; rfl
  clear hw3
  replace XM := Lib.hid (XM.out.block (bw3.block (W.heap.size) (by omega)))
  replace XO := Lib.hid (XO.out.block (bw3.block (W.heap.size + 1) (by omega)))
  replace XZ := Lib.hid (XZ.out.block (bw3.block (W.heap.size + 1 + 1) (by omega)))
  replace HB := Lib.hid (thn HB.out bw3)
  clear bw3
  clear cM0 cM1 cM2 cM3 cM4 cM5 cM6 cM7 cM8 cM9 cM10 cM11 cM12 cO0 cO1 cO2 cO3 cO4 cO5 cO6 cO7 cZ0 cZ1 cZ2 cZ3 cZ4 cZ5 cZ6 cZ7 cZ8 cZ9 cZ10 cZ11 cZ12 fZ0 fZ1 fZ2 fZ3 fZ4 fZ5 fZ6 fZ7 fZ8 fZ9 fZ10 fZ11 fZ12
  obtain ⟨cM0, cM1, cM2, cM3, cM4, cM5, cM6, cM7, cM8, cM9, cM10, cM11, cM12⟩ := XM.out.c13
  obtain ⟨cO0, cO1, cO2, cO3, cO4, cO5, cO6, cO7⟩ := XO.out.c8
  obtain ⟨cZ0, cZ1, cZ2, cZ3, cZ4, cZ5, cZ6, cZ7, cZ8, cZ9, cZ10, cZ11, cZ12⟩ := XZ.out.c13
  obtain ⟨fZ0, fZ1, fZ2, fZ3, fZ4, fZ5, fZ6, fZ7, fZ8, fZ9, fZ10, fZ11, fZ12⟩ := XZ.out.f13
  go_wp2_with fail
  refine (HA.out _).mono ?_
  rintro e w4 ⟨rfl, bw4⟩
  clear cM0 cM1 cM2 cM3 cM4 cM5 cM6 cM7 cM8 cM9 cM10 cM11 cM12 cO0 cO1 cO2 cO3 cO4 cO5 cO6 cO7 cZ0 cZ1 cZ2 cZ3 cZ4 cZ5 cZ6 cZ7 cZ8 cZ9 cZ10 cZ11 cZ12 fZ0 fZ1 fZ2 fZ3 fZ4 fZ5 fZ6 fZ7 fZ8 fZ9 fZ10 fZ11 fZ12
  have sw4 := bw4.size
  replace XM := Lib.hid (XM.out.block (bw4.block (W.heap.size) (by omega)))
  replace XO := Lib.hid (XO.out.block (bw4.block (W.heap.size + 1) (by omega)))
  replace XZ := Lib.hid (XZ.out.block (bw4.block (W.heap.size + 1 + 1) (by omega)))
  replace HB := Lib.hid (thn HB.out bw4)
  clear bw4
  obtain ⟨cM0, cM1, cM2, cM3, cM4, cM5, cM6, cM7, cM8, cM9, cM10, cM11, cM12⟩ := XM.out.c13
  obtain ⟨cO0, cO1, cO2, cO3, cO4, cO5, cO6, cO7⟩ := XO.out.c8
  obtain ⟨cZ0, cZ1, cZ2, cZ3, cZ4, cZ5, cZ6, cZ7, cZ8, cZ9, cZ10, cZ11, cZ12⟩ := XZ.out.c13
  obtain ⟨fZ0, fZ1, fZ2, fZ3, fZ4, fZ5, fZ6, fZ7, fZ8, fZ9, fZ10, fZ11, fZ12⟩ := XZ.out.f13
  go_wp2_with fail
  obtain ⟨w5, hw5⟩ : ∃ w5, w5 = sets13 w4 (W.heap.size + 1 + 1) (.int .i64 C.pg) (.int .i64 C.rg) (.int .i64 C.lg) (.int .i64 C.th) (.int .i64 C.ca) (.int .i64 C.ba) (.int .i64 C.sh) (.int .i64 C.re) (.int .i64 C.mo) (.int .i64 C.fi) (.int .u64 C.ky) (.slice none 0 0) (.slice (some ⟨r, 0, none⟩) k kc) := ⟨_, rfl⟩
  obtain ⟨sw5, kw5, lw5, XZn⟩ := XZ.out.put13s rfl hw5
  unfold sets13 at hw5
  rw [← hw5]
  clear hw5
  clear cM0 cM1 cM2 cM3 cM4 cM5 cM6 cM7 cM8 cM9 cM10 cM11 cM12 cO0 cO1 cO2 cO3 cO4 cO5 cO6 cO7 cZ0 cZ1 cZ2 cZ3 cZ4 cZ5 cZ6 cZ7 cZ8 cZ9 cZ10 cZ11 cZ12 fZ0 fZ1 fZ2 fZ3 fZ4 fZ5 fZ6 fZ7 fZ8 fZ9 fZ10 fZ11 fZ12
  replace XZ := Lib.hid XZn
  clear XZn
  replace XM := Lib.hid (XM.out.block (kw5 (W.heap.size) (by omega)))
  replace XO := Lib.hid (XO.out.block (kw5 (W.heap.size + 1) (by omega)))
  replace HB := Lib.hid (HB.out.trans (lw5 W.heap.size (by omega)))
  clear kw5 lw5
  obtain ⟨cZ0, cZ1, cZ2, cZ3, cZ4, cZ5, cZ6, cZ7, cZ8, cZ9, cZ10, cZ11, cZ12⟩ := XZ.out.c13
  refine bodyPost_ret (v := .tuple #[rmv C none 0 0 (some ⟨r, 0, none⟩) k kc, rE 13]) (by simp [results, Try.results26, go_sem, cZ0, cZ1, cZ2, cZ3, cZ4, cZ5, cZ6, cZ7, cZ8, cZ9, cZ10, cZ11, cZ12]) rfl ⟨rfl, HB.out⟩
set_option maxHeartbeats 1600000 in
theorem rmk2d (t a b v n mm : Int) (P : Option Addr) (ln cp : Nat) (full : Bool) (g1 : ¬ n < 1) (g2 : ¬ mm < 1) (g3 : ¬ t < 0) (g4 : ¬ C.th ≤ t) (g6 : ¬ n > C.mo / mm) (hfull : full = false) (aN : Nat) (hA : a = (aN : Int)) (haN : aN < k) (hk64 : k ≤ 64) (hok : C.ok) (h : RZ r k W) : Calls Try.prog 26 #[rmv C none 0 0 (some ⟨r, 0, none⟩) k kc, opv 2 t a b v n mm P ln cp, .bool full] W (MkPost C k aN (n * mm) W) := by
  subst hfull
  subst hA
  have hmo0 := hok.2.1
  have hpr : 1 ≤ n * mm ∧ n * mm ≤ C.mo := by
    have h9 : n ≤ C.mo / mm := by omega
    have h3 : n * mm ≤ C.mo := (Int.le_ediv_iff_mul_le (by omega)).1 h9
    have h5 : 1 * 1 ≤ n * mm := Int.mul_le_mul (by omega) (by omega) (by omega) (by omega)
    omega
  obtain ⟨pp, hpp⟩ : ∃ pp, n * mm = pp := ⟨_, rfl⟩
  rw [hpp] at hpr
  rw [hpp]
  have HMD : Hid (∀ w, Calls Try.prog 48 #[rmv C none 0 0 (some ⟨r, 0, none⟩) k kc, .int .i64 pp, .int .i64 1, .int .u8 0] w (MadePost C r k kc pp w)) := Lib.hid fun w => rmade pp 1 0 (by have := hok.2.2; omega) (by omega) (by omega) (by omega) (by omega)
  have h1 : askE C t pp false = 0 := by unfold askE; rw [if_neg (by omega), if_neg (by omega), if_neg (by simp)]
  have HA : Hid (∀ w, Calls Try.prog 47 #[rmv C none 0 0 (some ⟨r, 0, none⟩) k kc, .int .i64 t, .int .i64 pp, .bool false] w fun e w' => e = .returned (rE 0) ∧ Below w.heap.size w w') := Lib.hid fun w => by
    have := rask (C := C) (L := none) (ll := 0) (lc := 0) (R := some ⟨r, 0, none⟩) (k := k) (kc := kc) (W := w) t pp false
    rwa [h1] at this
  clear h1
  have g5 : ¬ t ≥ C.th := g4
  obtain ⟨Q, hQ⟩ : ∃ Q, C.mo / mm = Q := ⟨_, rfl⟩
  have hd0 : ¬ mm = 0 := by omega
  rw [hQ] at g6
  have hmo := hok.2.1
  have hQ1 : 0 ≤ Q := by rw [← hQ]; exact Int.ediv_nonneg (by omega) (by omega)
  have hQ2 : Q ≤ 8000 := by rw [← hQ]; exact Int.le_trans (Int.ediv_le_self _ (by omega)) (by omega)
  have hQt : C.mo.tdiv mm = Q := by rw [← hQ]; exact Int.tdiv_eq_ediv_of_nonneg (by omega)
  have hwf := u8w hok.2.2
  have H := Lib.hid h
  clear h
  go_enter Try.func26, Try.ntmps26
  go_upto_region 1 with (fail)
  obtain ⟨w1, hw1⟩ : ∃ w1, ((W.alloc (.cells #[.int .i64 C.pg, .int .i64 C.rg, .int .i64 C.lg, .int .i64 C.th, .int .i64 C.ca, .int .i64 C.ba, .int .i64 C.sh, .int .i64 C.re, .int .i64 C.mo, .int .i64 C.fi, .int .u64 C.ky, .slice none 0 0, .slice (some ⟨r, 0, none⟩) k kc] 34)).alloc (.cells #[.int .i64 2, .int .i64 t, .int .i64 (aN : Int), .int .i64 b, .int .i64 v, .int .i64 n, .int .i64 mm, .slice P ln cp] 41)).alloc (.cells #[.int .i64 0, .int .i64 0, .int .i64 0, .int .i64 0, .int .i64 0, .int .i64 0, .int .i64 0, .int .i64 0, .int .i64 0, .int .i64 0, .int .u64 0, .slice none 0 0, .slice none 0 0] 34) = w1 := ⟨_, rfl⟩
  have bw1 : Below W.heap.size W w1 := by rw [← hw1]; exact alc (alc (alc0 _ _) _) _
  have sw1 : w1.heap.size = W.heap.size + 3 := by rw [← hw1]; simp
  have XM : Hid (BX (W.heap.size) #[.int .i64 C.pg, .int .i64 C.rg, .int .i64 C.lg, .int .i64 C.th, .int .i64 C.ca, .int .i64 C.ba, .int .i64 C.sh, .int .i64 C.re, .int .i64 C.mo, .int .i64 C.fi, .int .u64 C.ky, .slice none 0 0, .slice (some ⟨r, 0, none⟩) k kc] w1) := Lib.hid (by rw [← hw1]; exact (bx_new _ _ _).block ((alc (alc0 _ _) _).block _ (by simp)))
  have XO : Hid (BX (W.heap.size + 1) #[.int .i64 2, .int .i64 t, .int .i64 (aN : Int), .int .i64 b, .int .i64 v, .int .i64 n, .int .i64 mm, .slice P ln cp] w1) := Lib.hid (by rw [← hw1]; exact (bx_at _ _ _ (by simp)).block ((alc0 _ _).block _ (by simp)))
  have XZ : Hid (BX (W.heap.size + 1 + 1) #[.int .i64 0, .int .i64 0, .int .i64 0, .int .i64 0, .int .i64 0, .int .i64 0, .int .i64 0, .int .i64 0, .int .i64 0, .int .i64 0, .int .u64 0, .slice none 0 0, .slice none 0 0] w1) := Lib.hid (by rw [← hw1]; exact bx_at _ _ _ (by simp))
  rw [hw1]
  clear hw1
  have HB := Lib.hid bw1
  clear bw1
  obtain ⟨cM0, cM1, cM2, cM3, cM4, cM5, cM6, cM7, cM8, cM9, cM10, cM11, cM12⟩ := XM.out.c13
  obtain ⟨cO0, cO1, cO2, cO3, cO4, cO5, cO6, cO7⟩ := XO.out.c8
  obtain ⟨cZ0, cZ1, cZ2, cZ3, cZ4, cZ5, cZ6, cZ7, cZ8, cZ9, cZ10, cZ11, cZ12⟩ := XZ.out.c13
  obtain ⟨fZ0, fZ1, fZ2, fZ3, fZ4, fZ5, fZ6, fZ7, fZ8, fZ9, fZ10, fZ11, fZ12⟩ := XZ.out.f13
  go_region
  obtain ⟨w2, hw2⟩ : ∃ w2, w1.drew = w2 := ⟨_, rfl⟩
  rw [hw2]
  have bw2 : Below w1.heap.size w1 w2 := by rw [← hw2]; exact (Below.refl _ w1).drew
  have sw2 : w2.heap.size = w1.heap.size := by rw [← hw2]; rfl
  clear hw2
  replace XM := Lib.hid (XM.out.block (bw2.block (W.heap.size) (by omega)))
  replace XO := Lib.hid (XO.out.block (bw2.block (W.heap.size + 1) (by omega)))
  replace XZ := Lib.hid (XZ.out.block (bw2.block (W.heap.size + 1 + 1) (by omega)))
  replace HB := Lib.hid (thn HB.out bw2)
  clear bw2
  clear cM0 cM1 cM2 cM3 cM4 cM5 cM6 cM7 cM8 cM9 cM10 cM11 cM12 cO0 cO1 cO2 cO3 cO4 cO5 cO6 cO7 cZ0 cZ1 cZ2 cZ3 cZ4 cZ5 cZ6 cZ7 cZ8 cZ9 cZ10 cZ11 cZ12 fZ0 fZ1 fZ2 fZ3 fZ4 fZ5 fZ6 fZ7 fZ8 fZ9 fZ10 fZ11 fZ12
  obtain ⟨cM0, cM1, cM2, cM3, cM4, cM5, cM6, cM7, cM8, cM9, cM10, cM11, cM12⟩ := XM.out.c13
  obtain ⟨cO0, cO1, cO2, cO3, cO4, cO5, cO6, cO7⟩ := XO.out.c8
  obtain ⟨cZ0, cZ1, cZ2, cZ3, cZ4, cZ5, cZ6, cZ7, cZ8, cZ9, cZ10, cZ11, cZ12⟩ := XZ.out.c13
  obtain ⟨fZ0, fZ1, fZ2, fZ3, fZ4, fZ5, fZ6, fZ7, fZ8, fZ9, fZ10, fZ11, fZ12⟩ := XZ.out.f13
  go_upto_region 6 with (fail)
  go_region
  obtain ⟨w3, hw3⟩ : ∃ w3, w2.drew = w3 := ⟨_, rfl⟩
  rw [hw3]
  have bw3 : Below w2.heap.size w2 w3 := by rw [← hw3]; exact (Below.refl _ w2).drew
  have sw3 : w3.heap.size = w2.heap.size := by rw [← hw3]; rfl
  clear hw3
  replace XM := Lib.hid (XM.out.block (bw3.block (W.heap.size) (by omega)))
  replace XO := Lib.hid (XO.out.block (bw3.block (W.heap.size + 1) (by omega)))
  replace XZ := Lib.hid (XZ.out.block (bw3.block (W.heap.size + 1 + 1) (by omega)))
  replace HB := Lib.hid (thn HB.out bw3)
  clear bw3
  clear cM0 cM1 cM2 cM3 cM4 cM5 cM6 cM7 cM8 cM9 cM10 cM11 cM12 cO0 cO1 cO2 cO3 cO4 cO5 cO6 cO7 cZ0 cZ1 cZ2 cZ3 cZ4 cZ5 cZ6 cZ7 cZ8 cZ9 cZ10 cZ11 cZ12 fZ0 fZ1 fZ2 fZ3 fZ4 fZ5 fZ6 fZ7 fZ8 fZ9 fZ10 fZ11 fZ12
  obtain ⟨cM0, cM1, cM2, cM3, cM4, cM5, cM6, cM7, cM8, cM9, cM10, cM11, cM12⟩ := XM.out.c13
  obtain ⟨cO0, cO1, cO2, cO3, cO4, cO5, cO6, cO7⟩ := XO.out.c8
  obtain ⟨cZ0, cZ1, cZ2, cZ3, cZ4, cZ5, cZ6, cZ7, cZ8, cZ9, cZ10, cZ11, cZ12⟩ := XZ.out.c13
  obtain ⟨fZ0, fZ1, fZ2, fZ3, fZ4, fZ5, fZ6, fZ7, fZ8, fZ9, fZ10, fZ11, fZ12⟩ := XZ.out.f13
  go_wp2_with fail
  refine (HA.out _).mono ?_
  rintro e w4 ⟨rfl, bw4⟩
  clear cM0 cM1 cM2 cM3 cM4 cM5 cM6 cM7 cM8 cM9 cM10 cM11 cM12 cO0 cO1 cO2 cO3 cO4 cO5 cO6 cO7 cZ0 cZ1 cZ2 cZ3 cZ4 cZ5 cZ6 cZ7 cZ8 cZ9 cZ10 cZ11 cZ12 fZ0 fZ1 fZ2 fZ3 fZ4 fZ5 fZ6 fZ7 fZ8 fZ9 fZ10 fZ11 fZ12
  have sw4 := bw4.size
  replace XM := Lib.hid (XM.out.block (bw4.block (W.heap.size) (by omega)))
  replace XO := Lib.hid (XO.out.block (bw4.block (W.heap.size + 1) (by omega)))
  replace XZ := Lib.hid (XZ.out.block (bw4.block (W.heap.size + 1 + 1) (by omega)))
  replace HB := Lib.hid (thn HB.out bw4)
  clear bw4
  obtain ⟨cM0, cM1, cM2, cM3, cM4, cM5, cM6, cM7, cM8, cM9, cM10, cM11, cM12⟩ := XM.out.c13
  obtain ⟨cO0, cO1, cO2, cO3, cO4, cO5, cO6, cO7⟩ := XO.out.c8
  go_wp2_with fail
  refine (HMD.out _).mono ?_
  rintro e w5 ⟨lb, lcap, rfl, hl1, hl2, hl, bw5⟩
  clear cM0 cM1 cM2 cM3 cM4 cM5 cM6 cM7 cM8 cM9 cM10 cM11 cM12 cO0 cO1 cO2 cO3 cO4 cO5 cO6 cO7
  have sw5 := bw5.size
  replace XM := Lib.hid (XM.out.block (bw5.block (W.heap.size) (by omega)))
  replace XO := Lib.hid (XO.out.block (bw5.block (W.heap.size + 1) (by omega)))
  replace XZ := Lib.hid (XZ.out.block (bw5.block (W.heap.size + 1 + 1) (by omega)))
  replace HB := Lib.hid (thn HB.out bw5)
  clear bw5
  have HL := Lib.hid hl
  clear hl
  obtain ⟨cM0, cM1, cM2, cM3, cM4, cM5, cM6, cM7, cM8, cM9, cM10, cM11, cM12⟩ := XM.out.c13
  obtain ⟨cO0, cO1, cO2, cO3, cO4, cO5, cO6, cO7⟩ := XO.out.c8
  obtain ⟨fM0, fM1, fM2, fM3, fM4, fM5, fM6, fM7, fM8, fM9, fM10, fM11, fM12⟩ := XM.out.f13
  have hlt9 : W.heap.size < w5.heap.size := by omega
  go_upto_region 20 with (fail)
  obtain ⟨w6, hw6⟩ : ∃ w6, w6 = sets13 w5 (W.heap.size) (.int .i64 C.pg) (.int .i64 C.rg) (.int .i64 C.lg) (.int .i64 C.th) (.int .i64 C.ca) (.int .i64 C.ba) (.int .i64 C.sh) (.int .i64 C.re) (.int .i64 C.mo) (.int .i64 C.fi) (.int .u64 C.ky) (.slice (some ⟨lb, 0, none⟩) 1 lcap) (.slice (some ⟨r, 0, none⟩) k kc) := ⟨_, rfl⟩
  obtain ⟨sw6, kw6, lw6, XMn⟩ := XM.out.put13s rfl hw6
  unfold sets13 at hw6
  rw [← hw6]
  clear hw6
  clear cM0 cM1 cM2 cM3 cM4 cM5 cM6 cM7 cM8 cM9 cM10 cM11 cM12 cO0 cO1 cO2 cO3 cO4 cO5 cO6 cO7 fM0 fM1 fM2 fM3 fM4 fM5 fM6 fM7 fM8 fM9 fM10 fM11 fM12
  replace XM := Lib.hid XMn
  clear XMn
  replace XO := Lib.hid (XO.out.block (kw6 (W.heap.size + 1) (by omega)))
  replace XZ := Lib.hid (XZ.out.block (kw6 (W.heap.size + 1 + 1) (by omega)))
  replace HL := Lib.hid ((World.cell?_of_block (kw6 (lb) (by omega))).trans HL.out)
  replace HB := Lib.hid (HB.out.trans (lw6 W.heap.size (by omega)))
  clear kw6 lw6
  obtain ⟨w7, hw7⟩ : ∃ w7, w6.alloc (.cells #[.int .i64 1, .int .i64 0, .int .i64 pp, .int .i64 0, .int .i64 31] 54) = w7 := ⟨_, rfl⟩
  have bw7 : Below w6.heap.size w6 w7 := by rw [← hw7]; exact alc0 _ _
  have sw7 : w7.heap.size = w6.heap.size + 1 := by rw [← hw7]; simp
  have XY : Hid (BX (w5.heap.size) #[.int .i64 1, .int .i64 0, .int .i64 pp, .int .i64 0, .int .i64 31] w7) := Lib.hid (by rw [← hw7]; exact bx_at _ _ _ (by omega))
  rw [hw7]
  clear hw7
  replace XM := Lib.hid (XM.out.block (bw7.block (W.heap.size) (by omega)))
  replace XO := Lib.hid (XO.out.block (bw7.block (W.heap.size + 1) (by omega)))
  replace XZ := Lib.hid (XZ.out.block (bw7.block (W.heap.size + 1 + 1) (by omega)))
  replace HL := Lib.hid ((World.cell?_of_block (bw7.block (lb) (by omega))).trans HL.out)
  replace HB := Lib.hid (thn HB.out bw7)
  clear bw7
  obtain ⟨cM0, cM1, cM2, cM3, cM4, cM5, cM6, cM7, cM8, cM9, cM10, cM11, cM12⟩ := XM.out.c13
  obtain ⟨cO0, cO1, cO2, cO3, cO4, cO5, cO6, cO7⟩ := XO.out.c8
  obtain ⟨cY0, cY1, cY2, cY3, cY4⟩ := XY.out.c5
  go_wp2_with fail
  refine (rset (r := r) (kc := kc) (L := some ⟨lb, 0, none⟩) (ll := 1) (lc := lcap) aN 1 0 pp 0 31 haN hk64 (H.out.below HB.out)).mono ?_
  rintro e w8 ⟨g, cap, rfl, hq, hg1, hg2, bw8⟩
  clear cM0 cM1 cM2 cM3 cM4 cM5 cM6 cM7 cM8 cM9 cM10 cM11 cM12 cO0 cO1 cO2 cO3 cO4 cO5 cO6 cO7 cY0 cY1 cY2 cY3 cY4
  have sw8 := bw8.size
  replace XM := Lib.hid (XM.out.block (bw8.block (W.heap.size) (by omega)))
  replace XO := Lib.hid (XO.out.block (bw8.block (W.heap.size + 1) (by omega)))
  replace XZ := Lib.hid (XZ.out.block (bw8.block (W.heap.size + 1 + 1) (by omega)))
  replace XY := Lib.hid (XY.out.block (bw8.block (w5.heap.size) (by omega)))
  replace HL := Lib.hid ((World.cell?_of_block (bw8.block (lb) (by omega))).trans HL.out)
  replace HB := Lib.hid (thn HB.out bw8)
  clear bw8
  have HQ := Lib.hid hq
  clear hq
  obtain ⟨cZ0, cZ1, cZ2, cZ3, cZ4, cZ5, cZ6, cZ7, cZ8, cZ9, cZ10, cZ11, cZ12⟩ := XZ.out.c13
  obtain ⟨fZ0, fZ1, fZ2, fZ3, fZ4, fZ5, fZ6, fZ7, fZ8, fZ9, fZ10, fZ11, fZ12⟩ := XZ.out.f13
  go_wp2_with fail
  obtain ⟨wz, hwz⟩ : ∃ wz, wz = sets13 w8 (W.heap.size + 1 + 1) (.int .i64 C.pg) (.int .i64 C.rg) (.int .i64 C.lg) (.int .i64 C.th) (.int .i64 C.ca) (.int .i64 C.ba) (.int .i64 C.sh) (.int .i64 C.re) (.int .i64 C.mo) (.int .i64 C.fi) (.int .u64 C.ky) (.slice (some ⟨lb, 0, none⟩) 1 lcap) (.slice (some ⟨g, 0, none⟩) k cap) := ⟨_, rfl⟩
  obtain ⟨swz, kwz, lwz, XZn⟩ := XZ.out.put13s rfl hwz
  unfold sets13 at hwz
  rw [← hwz]
  clear hwz
  clear cZ0 cZ1 cZ2 cZ3 cZ4 cZ5 cZ6 cZ7 cZ8 cZ9 cZ10 cZ11 cZ12 fZ0 fZ1 fZ2 fZ3 fZ4 fZ5 fZ6 fZ7 fZ8 fZ9 fZ10 fZ11 fZ12
  replace XZ := Lib.hid XZn
  clear XZn
  replace XM := Lib.hid (XM.out.block (kwz (W.heap.size) (by omega)))
  replace XO := Lib.hid (XO.out.block (kwz (W.heap.size + 1) (by omega)))
  replace XY := Lib.hid (XY.out.block (kwz (w5.heap.size) (by omega)))
  replace HL := Lib.hid ((World.cell?_of_block (kwz (lb) (by omega))).trans HL.out)
  replace HB := Lib.hid (HB.out.trans (lwz W.heap.size (by omega)))
  replace HQ := Lib.hid (HQ.out.keep (kwz g (by omega)))
  clear kwz lwz
  obtain ⟨cZ0, cZ1, cZ2, cZ3, cZ4, cZ5, cZ6, cZ7, cZ8, cZ9, cZ10, cZ11, cZ12⟩ := XZ.out.c13
  refine bodyPost_ret (v := .tuple #[rmv C (some ⟨lb, 0, none⟩) 1 lcap (some ⟨g, 0, none⟩) k cap, rE 0]) (by simp [results, Try.results26, go_sem, cZ0, cZ1, cZ2, cZ3, cZ4, cZ5, cZ6, cZ7, cZ8, cZ9, cZ10, cZ11, cZ12]) rfl ⟨lb, lcap, g, cap, rfl, HQ.out, by omega, by omega, by omega, by omega, HL.out, HB.out⟩
end
end Go.Proofs.Ytanmmhbnjmglhaa
