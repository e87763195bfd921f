/- MpM. -/
import Derived.Test.YtanmmhbnjmglhaaZ34
import Derived.RegionTactic
namespace Go.Proofs.Ytanmmhbnjmglhaa
set_option maxRecDepth 100000
open Go.RowKit Go.ChangeMaps Go.MapKept
set_option linter.unusedVariables false
set_option linter.unusedSimpArgs false
section
variable {C : Cf} {r k kc : Nat} {W : World}
set_option maxHeartbeats 1600000 in
theorem rmk1a (t a b v n mm : Int) (P : Option Addr) (ln cp : Nat) (full : Bool) (h1 : askE C t n full = 1) (hok : C.ok) (h : RZ r k W) : Calls Try.prog 26 #[rmv C none 0 0 (some ⟨r, 0, none⟩) k kc, opv 1 t a b v n mm P ln cp, .bool full] W (fun e w' => e = .returned (.tuple #[rmv C none 0 0 (some ⟨r, 0, none⟩) k kc, rE 1]) ∧ Below W.heap.size W w') := by
  have HA : Hid (∀ w, Calls Try.prog 47 #[rmv C none 0 0 (some ⟨r, 0, none⟩) k kc, .int .i64 t, .int .i64 n, .bool full] w fun e w' => e = .returned (rE 1) ∧ Below w.heap.size w w') := Lib.hid fun w => by
    have := rask (C := C) (L := none) (ll := 0) (lc := 0) (R := some ⟨r, 0, none⟩) (k := k) (kc := kc) (W := w) t n full
    rwa [h1] at this
  clear h1
  have hwf := u8w hok.2.2
  have H := Lib.hid h
  clear h
  go_enter Try.func26, Try.ntmps26
  go_upto_region 1 with (fail)
  obtain ⟨w1, hw1⟩ : ∃ w1, ((W.alloc (.cells #[.int .i64 C.pg, .int .i64 C.rg, .int .i64 C.lg, .int .i64 C.th, .int .i64 C.ca, .int .i64 C.ba, .int .i64 C.sh, .int .i64 C.re, .int .i64 C.mo, .int .i64 C.fi, .int .u64 C.ky, .slice none 0 0, .slice (some ⟨r, 0, none⟩) k kc] 34)).alloc (.cells #[.int .i64 1, .int .i64 t, .int .i64 a, .int .i64 b, .int .i64 v, .int .i64 n, .int .i64 mm, .slice P ln cp] 41)).alloc (.cells #[.int .i64 0, .int .i64 0, .int .i64 0, .int .i64 0, .int .i64 0, .int .i64 0, .int .i64 0, .int .i64 0, .int .i64 0, .int .i64 0, .int .u64 0, .slice none 0 0, .slice none 0 0] 34) = w1 := ⟨_, rfl⟩
  have bw1 : Below W.heap.size W w1 := by rw [← hw1]; exact alc (alc (alc0 _ _) _) _
  have sw1 : w1.heap.size = W.heap.size + 3 := by rw [← hw1]; simp
  have XM : Hid (BX (W.heap.size) #[.int .i64 C.pg, .int .i64 C.rg, .int .i64 C.lg, .int .i64 C.th, .int .i64 C.ca, .int .i64 C.ba, .int .i64 C.sh, .int .i64 C.re, .int .i64 C.mo, .int .i64 C.fi, .int .u64 C.ky, .slice none 0 0, .slice (some ⟨r, 0, none⟩) k kc] w1) := Lib.hid (by rw [← hw1]; exact (bx_new _ _ _).block ((alc (alc0 _ _) _).block _ (by simp)))
  have XO : Hid (BX (W.heap.size + 1) #[.int .i64 1, .int .i64 t, .int .i64 a, .int .i64 b, .int .i64 v, .int .i64 n, .int .i64 mm, .slice P ln cp] w1) := Lib.hid (by rw [← hw1]; exact (bx_at _ _ _ (by simp)).block ((alc0 _ _).block _ (by simp)))
  have XZ : Hid (BX (W.heap.size + 1 + 1) #[.int .i64 0, .int .i64 0, .int .i64 0, .int .i64 0, .int .i64 0, .int .i64 0, .int .i64 0, .int .i64 0, .int .i64 0, .int .i64 0, .int .u64 0, .slice none 0 0, .slice none 0 0] w1) := Lib.hid (by rw [← hw1]; exact bx_at _ _ _ (by simp))
  rw [hw1]
  clear hw1
  have HB := Lib.hid bw1
  clear bw1
  obtain ⟨cM0, cM1, cM2, cM3, cM4, cM5, cM6, cM7, cM8, cM9, cM10, cM11, cM12⟩ := XM.out.c13
  obtain ⟨cO0, cO1, cO2, cO3, cO4, cO5, cO6, cO7⟩ := XO.out.c8
  obtain ⟨cZ0, cZ1, cZ2, cZ3, cZ4, cZ5, cZ6, cZ7, cZ8, cZ9, cZ10, cZ11, cZ12⟩ := XZ.out.c13
  obtain ⟨fZ0, fZ1, fZ2, fZ3, fZ4, fZ5, fZ6, fZ7, fZ8, fZ9, fZ10, fZ11, fZ12⟩ := XZ.out.f13
  go_region
  obtain ⟨w2, hw2⟩ : ∃ w2, w1.drew = w2 := ⟨_, rfl⟩
  rw [hw2]
  have bw2 : Below w1.heap.size w1 w2 := by rw [← hw2]; exact (Below.refl _ w1).drew
  have sw2 : w2.heap.size = w1.heap.size := by rw [← hw2]; rfl
  clear hw2
  replace XM := Lib.hid (XM.out.block (bw2.block (W.heap.size) (by omega)))
  replace XO := Lib.hid (XO.out.block (bw2.block (W.heap.size + 1) (by omega)))
  replace XZ := Lib.hid (XZ.out.block (bw2.block (W.heap.size + 1 + 1) (by omega)))
  replace HB := Lib.hid (thn HB.out bw2)
  clear bw2
  clear cM0 cM1 cM2 cM3 cM4 cM5 cM6 cM7 cM8 cM9 cM10 cM11 cM12 cO0 cO1 cO2 cO3 cO4 cO5 cO6 cO7 cZ0 cZ1 cZ2 cZ3 cZ4 cZ5 cZ6 cZ7 cZ8 cZ9 cZ10 cZ11 cZ12 fZ0 fZ1 fZ2 fZ3 fZ4 fZ5 fZ6 fZ7 fZ8 fZ9 fZ10 fZ11 fZ12
  obtain ⟨cM0, cM1, cM2, cM3, cM4, cM5, cM6, cM7, cM8, cM9, cM10, cM11, cM12⟩ := XM.out.c13
  obtain ⟨cO0, cO1, cO2, cO3, cO4, cO5, cO6, cO7⟩ := XO.out.c8
  obtain ⟨cZ0, cZ1, cZ2, cZ3, cZ4, cZ5, cZ6, cZ7, cZ8, cZ9, cZ10, cZ11, cZ12⟩ := XZ.out.c13
  obtain ⟨fZ0, fZ1, fZ2, fZ3, fZ4, fZ5, fZ6, fZ7, fZ8, fZ9, fZ10, fZ11, fZ12⟩ := XZ.out.f13
  go_wp2_with fail
  refine (HA.out _).mono ?_
  rintro e w3 ⟨rfl, bw3⟩
  clear cM0 cM1 cM2 cM3 cM4 cM5 cM6 cM7 cM8 cM9 cM10 cM11 cM12 cO0 cO1 cO2 cO3 cO4 cO5 cO6 cO7 cZ0 cZ1 cZ2 cZ3 cZ4 cZ5 cZ6 cZ7 cZ8 cZ9 cZ10 cZ11 cZ12 fZ0 fZ1 fZ2 fZ3 fZ4 fZ5 fZ6 fZ7 fZ8 fZ9 fZ10 fZ11 fZ12
  have sw3 := bw3.size
  replace XM := Lib.hid (XM.out.block (bw3.block (W.heap.size) (by omega)))
  replace XO := Lib.hid (XO.out.block (bw3.block (W.heap.size + 1) (by omega)))
  replace XZ := Lib.hid (XZ.out.block (bw3.block (W.heap.size + 1 + 1) (by omega)))
  replace HB := Lib.hid (thn HB.out bw3)
  clear bw3
  obtain ⟨cM0, cM1, cM2, cM3, cM4, cM5, cM6, cM7, cM8, cM9, cM10, cM11, cM12⟩ := XM.out.c13
  obtain ⟨cO0, cO1, cO2, cO3, cO4, cO5, cO6, cO7⟩ := XO.out.c8
  obtain ⟨cZ0, cZ1, cZ2, cZ3, cZ4, cZ5, cZ6, cZ7, cZ8, cZ9, cZ10, cZ11, cZ12⟩ := XZ.out.c13
  obtain ⟨fZ0, fZ1, fZ2, fZ3, fZ4, fZ5, fZ6, fZ7, fZ8, fZ9, fZ10, fZ11, fZ12⟩ := XZ.out.f13
  go_wp2_with fail
  obtain ⟨w4, hw4⟩ : ∃ w4, w4 = sets13 w3 (W.heap.size + 1 + 1) (.int .i64 C.pg) (.int .i64 C.rg) (.int .i64 C.lg) (.int .i64 C.th) (.int .i64 C.ca) (.int .i64 C.ba) (.int .i64 C.sh) (.int .i64 C.re) (.int .i64 C.mo) (.int .i64 C.fi) (.int .u64 C.ky) (.slice none 0 0) (.slice (some ⟨r, 0, none⟩) k kc) := ⟨_, rfl⟩
  obtain ⟨sw4, kw4, lw4, XZn⟩ := XZ.out.put13s rfl hw4
  unfold sets13 at hw4
  rw [← hw4]
  clear hw4
  clear cM0 cM1 cM2 cM3 cM4 cM5 cM6 cM7 cM8 cM9 cM10 cM11 cM12 cO0 cO1 cO2 cO3 cO4 cO5 cO6 cO7 cZ0 cZ1 cZ2 cZ3 cZ4 cZ5 cZ6 cZ7 cZ8 cZ9 cZ10 cZ11 cZ12 fZ0 fZ1 fZ2 fZ3 fZ4 fZ5 fZ6 fZ7 fZ8 fZ9 fZ10 fZ11 fZ12
  replace XZ := Lib.hid XZn
  clear XZn
  replace XM := Lib.hid (XM.out.block (kw4 (W.heap.size) (by omega)))
  replace XO := Lib.hid (XO.out.block (kw4 (W.heap.size + 1) (by omega)))
  replace HB := Lib.hid (HB.out.trans (lw4 W.heap.size (by omega)))
  clear kw4 lw4
  obtain ⟨cZ0, cZ1, cZ2, cZ3, cZ4, cZ5, cZ6, cZ7, cZ8, cZ9, cZ10, cZ11, cZ12⟩ := XZ.out.c13
  refine bodyPost_ret (v := .tuple #[rmv C none 0 0 (some ⟨r, 0, none⟩) k kc, rE 1]) (by simp [results, Try.results26, go_sem, cZ0, cZ1, cZ2, cZ3, cZ4, cZ5, cZ6, cZ7, cZ8, cZ9, cZ10, cZ11, cZ12]) rfl ⟨rfl, HB.out⟩
set_option maxHeartbeats 1600000 in
theorem rmk1b (t a b v n mm : Int) (P : Option Addr) (ln cp : Nat) (full : Bool) (h1 : askE C t n full = 4) (hok : C.ok) (h : RZ r k W) : Calls Try.prog 26 #[rmv C none 0 0 (some ⟨r, 0, none⟩) k kc, opv 1 t a b v n mm P ln cp, .bool full] W (fun e w' => e = .returned (.tuple #[rmv C none 0 0 (some ⟨r, 0, none⟩) k kc, rE 4]) ∧ Below W.heap.size W w') := by
  have HA : Hid (∀ w, Calls Try.prog 47 #[rmv C none 0 0 (some ⟨r, 0, none⟩) k kc, .int .i64 t, .int .i64 n, .bool full] w fun e w' => e = .returned (rE 4) ∧ Below w.heap.size w w') := Lib.hid fun w => by
    have := rask (C := C) (L := none) (ll := 0) (lc := 0) (R := some ⟨r, 0, none⟩) (k := k) (kc := kc) (W := w) t n full
    rwa [h1] at this
  clear h1
  have hwf := u8w hok.2.2
  have H := Lib.hid h
  clear h
  go_enter Try.func26, Try.ntmps26
  go_upto_region 1 with (fail)
  obtain ⟨w1, hw1⟩ : ∃ w1, ((W.alloc (.cells #[.int .i64 C.pg, .int .i64 C.rg, .int .i64 C.lg, .int .i64 C.th, .int .i64 C.ca, .int .i64 C.ba, .int .i64 C.sh, .int .i64 C.re, .int .i64 C.mo, .int .i64 C.fi, .int .u64 C.ky, .slice none 0 0, .slice (some ⟨r, 0, none⟩) k kc] 34)).alloc (.cells #[.int .i64 1, .int .i64 t, .int .i64 a, .int .i64 b, .int .i64 v, .int .i64 n, .int .i64 mm, .slice P ln cp] 41)).alloc (.cells #[.int .i64 0, .int .i64 0, .int .i64 0, .int .i64 0, .int .i64 0, .int .i64 0, .int .i64 0, .int .i64 0, .int .i64 0, .int .i64 0, .int .u64 0, .slice none 0 0, .slice none 0 0] 34) = w1 := ⟨_, rfl⟩
  have bw1 : Below W.heap.size W w1 := by rw [← hw1]; exact alc (alc (alc0 _ _) _) _
  have sw1 : w1.heap.size = W.heap.size + 3 := by rw [← hw1]; simp
  have XM : Hid (BX (W.heap.size) #[.int .i64 C.pg, .int .i64 C.rg, .int .i64 C.lg, .int .i64 C.th, .int .i64 C.ca, .int .i64 C.ba, .int .i64 C.sh, .int .i64 C.re, .int .i64 C.mo, .int .i64 C.fi, .int .u64 C.ky, .slice none 0 0, .slice (some ⟨r, 0, none⟩) k kc] w1) := Lib.hid (by rw [← hw1]; exact (bx_new _ _ _).block ((alc (alc0 _ _) _).block _ (by simp)))
  have XO : Hid (BX (W.heap.size + 1) #[.int .i64 1, .int .i64 t, .int .i64 a, .int .i64 b, .int .i64 v, .int .i64 n, .int .i64 mm, .slice P ln cp] w1) := Lib.hid (by rw [← hw1]; exact (bx_at _ _ _ (by simp)).block ((alc0 _ _).block _ (by simp)))
  have XZ : Hid (BX (W.heap.size + 1 + 1) #[.int .i64 0, .int .i64 0, .int .i64 0, .int .i64 0, .int .i64 0, .int .i64 0, .int .i64 0, .int .i64 0, .int .i64 0, .int .i64 0, .int .u64 0, .slice none 0 0, .slice none 0 0] w1) := Lib.hid (by rw [← hw1]; exact bx_at _ _ _ (by simp))
  rw [hw1]
  clear hw1
  have HB := Lib.hid bw1
  clear bw1
  obtain ⟨cM0, cM1, cM2, cM3, cM4, cM5, cM6, cM7, cM8, cM9, cM10, cM11, cM12⟩ := XM.out.c13
  obtain ⟨cO0, cO1, cO2, cO3, cO4, cO5, cO6, cO7⟩ := XO.out.c8
  obtain ⟨cZ0, cZ1, cZ2, cZ3, cZ4, cZ5, cZ6, cZ7, cZ8, cZ9, cZ10, cZ11, cZ12⟩ := XZ.out.c13
  obtain ⟨fZ0, fZ1, fZ2, fZ3, fZ4, fZ5, fZ6, fZ7, fZ8, fZ9, fZ10, fZ11, fZ12⟩ := XZ.out.f13
  go_region
  obtain ⟨w2, hw2⟩ : ∃ w2, w1.drew = w2 := ⟨_, rfl⟩
  rw [hw2]
  have bw2 : Below w1.heap.size w1 w2 := by rw [← hw2]; exact (Below.refl _ w1).drew
  have sw2 : w2.heap.size = w1.heap.size := by rw [← hw2]; rfl
  clear hw2
  replace XM := Lib.hid (XM.out.block (bw2.block (W.heap.size) (by omega)))
  replace XO := Lib.hid (XO.out.block (bw2.block (W.heap.size + 1) (by omega)))
  replace XZ := Lib.hid (XZ.out.block (bw2.block (W.heap.size + 1 + 1) (by omega)))
  replace HB := Lib.hid (thn HB.out bw2)
  clear bw2
  clear cM0 cM1 cM2 cM3 cM4 cM5 cM6 cM7 cM8 cM9 cM10 cM11 cM12 cO0 cO1 cO2 cO3 cO4 cO5 cO6 cO7 cZ0 cZ1 cZ2 cZ3 cZ4 cZ5 cZ6 cZ7 cZ8 cZ9 cZ10 cZ11 cZ12 fZ0 fZ1 fZ2 fZ3 fZ4 fZ5 fZ6 fZ7 fZ8 fZ9 fZ10 fZ11 fZ12
  obtain ⟨cM0, cM1, cM2, cM3, cM4, cM5, cM6, cM7, cM8, cM9, cM10, cM11, cM12⟩ := XM.out.c13
  obtain ⟨cO0, cO1, cO2, cO3, cO4, cO5, cO6, cO7⟩ := XO.out.c8
  obtain ⟨cZ0, cZ1, cZ2, cZ3, cZ4, cZ5, cZ6, cZ7, cZ8, cZ9, cZ10, cZ11, cZ12⟩ := XZ.out.c13
  obtain ⟨fZ0, fZ1, fZ2, fZ3, fZ4, fZ5, fZ6, fZ7, fZ8, fZ9, fZ10, fZ11, fZ12⟩ := XZ.out.f13
  go_wp2_with fail
  refine (HA.out _).mono ?_
  rintro e w3 ⟨rfl, bw3⟩
  clear cM0 cM1 cM2 cM3 cM4 cM5 cM6 cM7 cM8 cM9 cM10 cM11 cM12 cO0 cO1 cO2 cO3 cO4 cO5 cO6 cO7 cZ0 cZ1 cZ2 cZ3 cZ4 cZ5 cZ6 cZ7 cZ8 cZ9 cZ10 cZ11 cZ12 fZ0 fZ1 fZ2 fZ3 fZ4 fZ5 fZ6 fZ7 fZ8 fZ9 fZ10 fZ11 fZ12
  have sw3 := bw3.size
  replace XM := Lib.hid (XM.out.block (bw3.block (W.heap.size) (by omega)))
  replace XO := Lib.hid (XO.out.block (bw3.block (W.heap.size + 1) (by omega)))
  replace XZ := Lib.hid (XZ.out.block (bw3.block (W.heap.size + 1 + 1) (by omega)))
  replace HB := Lib.hid (thn HB.out bw3)
  clear bw3
  obtain ⟨cM0, cM1, cM2, cM3, cM4, cM5, cM6, cM7, cM8, cM9, cM10, cM11, cM12⟩ := XM.out.c13
  obtain ⟨cO0, cO1, cO2, cO3, cO4, cO5, cO6, cO7⟩ := XO.out.c8
  obtain ⟨cZ0, cZ1, cZ2, cZ3, cZ4, cZ5, cZ6, cZ7, cZ8, cZ9, cZ10, cZ11, cZ12⟩ := XZ.out.c13
  obtain ⟨fZ0, fZ1, fZ2, fZ3, fZ4, fZ5, fZ6, fZ7, fZ8, fZ9, fZ10, fZ11, fZ12⟩ := XZ.out.f13
  go_wp2_with fail
  obtain ⟨w4, hw4⟩ : ∃ w4, w4 = sets13 w3 (W.heap.size + 1 + 1) (.int .i64 C.pg) (.int .i64 C.rg) (.int .i64 C.lg) (.int .i64 C.th) (.int .i64 C.ca) (.int .i64 C.ba) (.int .i64 C.sh) (.int .i64 C.re) (.int .i64 C.mo) (.int .i64 C.fi) (.int .u64 C.ky) (.slice none 0 0) (.slice (some ⟨r, 0, none⟩) k kc) := ⟨_, rfl⟩
  obtain ⟨sw4, kw4, lw4, XZn⟩ := XZ.out.put13s rfl hw4
  unfold sets13 at hw4
  rw [← hw4]
  clear hw4
  clear cM0 cM1 cM2 cM3 cM4 cM5 cM6 cM7 cM8 cM9 cM10 cM11 cM12 cO0 cO1 cO2 cO3 cO4 cO5 cO6 cO7 cZ0 cZ1 cZ2 cZ3 cZ4 cZ5 cZ6 cZ7 cZ8 cZ9 cZ10 cZ11 cZ12 fZ0 fZ1 fZ2 fZ3 fZ4 fZ5 fZ6 fZ7 fZ8 fZ9 fZ10 fZ11 fZ12
  replace XZ := Lib.hid XZn
  clear XZn
  replace XM := Lib.hid (XM.out.block (kw4 (W.heap.size) (by omega)))
  replace XO := Lib.hid (XO.out.block (kw4 (W.heap.size + 1) (by omega)))
  replace HB := Lib.hid (HB.out.trans (lw4 W.heap.size (by omega)))
  clear kw4 lw4
  obtain ⟨cZ0, cZ1, cZ2, cZ3, cZ4, cZ5, cZ6, cZ7, cZ8, cZ9, cZ10, cZ11, cZ12⟩ := XZ.out.c13
  refine bodyPost_ret (v := .tuple #[rmv C none 0 0 (some ⟨r, 0, none⟩) k kc, rE 4]) (by simp [results, Try.results26, go_sem, cZ0, cZ1, cZ2, cZ3, cZ4, cZ5, cZ6, cZ7, cZ8, cZ9, cZ10, cZ11, cZ12]) rfl ⟨rfl, HB.out⟩
set_option maxHeartbeats 1600000 in
theorem rmk1c (t a b v n mm : Int) (P : Option Addr) (ln cp : Nat) (full : Bool) (h1 : askE C t n full = 13) (hok : C.ok) (h : RZ r k W) : Calls Try.prog 26 #[rmv C none 0 0 (some ⟨r, 0, none⟩) k kc, opv 1 t a b v n mm P ln cp, .bool full] W (fun e w' => e = .returned (.tuple #[rmv C none 0 0 (some ⟨r, 0, none⟩) k kc, rE 13]) ∧ Below W.heap.size W w') := by
  have HA : Hid (∀ w, Calls Try.prog 47 #[rmv C none 0 0 (some ⟨r, 0, none⟩) k kc, .int .i64 t, .int .i64 n, .bool full] w fun e w' => e = .returned (rE 13) ∧ Below w.heap.size w w') := Lib.hid fun w => by
    have := rask (C := C) (L := none) (ll := 0) (lc := 0) (R := some ⟨r, 0, none⟩) (k := k) (kc := kc) (W := w) t n full
    rwa [h1] at this
  clear h1
  have hwf := u8w hok.2.2
  have H := Lib.hid h
  clear h
  go_enter Try.func26, Try.ntmps26
  go_upto_region 1 with (fail)
  obtain ⟨w1, hw1⟩ : ∃ w1, ((W.alloc (.cells #[.int .i64 C.pg, .int .i64 C.rg, .int .i64 C.lg, .int .i64 C.th, .int .i64 C.ca, .int .i64 C.ba, .int .i64 C.sh, .int .i64 C.re, .int .i64 C.mo, .int .i64 C.fi, .int .u64 C.ky, .slice none 0 0, .slice (some ⟨r, 0, none⟩) k kc] 34)).alloc (.cells #[.int .i64 1, .int .i64 t, .int .i64 a, .int .i64 b, .int .i64 v, .int .i64 n, .int .i64 mm, .slice P ln cp] 41)).alloc (.cells #[.int .i64 0, .int .i64 0, .int .i64 0, .int .i64 0, .int .i64 0, .int .i64 0, .int .i64 0, .int .i64 0, .int .i64 0, .int .i64 0, .int .u64 0, .slice none 0 0, .slice none 0 0] 34) = w1 := ⟨_, rfl⟩
  have bw1 : Below W.heap.size W w1 := by rw [← hw1]; exact alc (alc (alc0 _ _) _) _
  have sw1 : w1.heap.size = W.heap.size + 3 := by rw [← hw1]; simp
  have XM : Hid (BX (W.heap.size) #[.int .i64 C.pg, .int .i64 C.rg, .int .i64 C.lg, .int .i64 C.th, .int .i64 C.ca, .int .i64 C.ba, .int .i64 C.sh, .int .i64 C.re, .int .i64 C.mo, .int .i64 C.fi, .int .u64 C.ky, .slice none 0 0, .slice (some ⟨r, 0, none⟩) k kc] w1) := Lib.hid (by rw [← hw1]; exact (bx_new _ _ _).block ((alc (alc0 _ _) _).block _ (by simp)))
  have XO : Hid (BX (W.heap.size + 1) #[.int .i64 1, .int .i64 t, .int .i64 a, .int .i64 b, .int .i64 v, .int .i64 n, .int .i64 mm, .slice P ln cp] w1) := Lib.hid (by rw [← hw1]; exact (bx_at _ _ _ (by simp)).block ((alc0 _ _).block _ (by simp)))
  have XZ : Hid (BX (W.heap.size + 1 + 1) #[.int .i64 0, .int .i64 0, .int .i64 0, .int .i64 0, .int .i64 0, .int .i64 0, .int .i64 0, .int .i64 0, .int .i64 0, .int .i64 0, .int .u64 0, .slice none 0 0, .slice none 0 0] w1) := Lib.hid (by rw [← hw1]; exact bx_at _ _ _ (by simp))
  rw [hw1]
  clear hw1
  have HB := Lib.hid bw1
  clear bw1
  obtain ⟨cM0, cM1, cM2, cM3, cM4, cM5, cM6, cM7, cM8, cM9, cM10, cM11, cM12⟩ := XM.out.c13
  obtain ⟨cO0, cO1, cO2, cO3, cO4, cO5, cO6, cO7⟩ := XO.out.c8
  obtain ⟨cZ0, cZ1, cZ2, cZ3, cZ4, cZ5, cZ6, cZ7, cZ8, cZ9, cZ10, cZ11, cZ12⟩ := XZ.out.c13
  obtain ⟨fZ0, fZ1, fZ2, fZ3, fZ4, fZ5, fZ6, fZ7, fZ8, fZ9, fZ10, fZ11, fZ12⟩ := XZ.out.f13
  go_region
  obtain ⟨w2, hw2⟩ : ∃ w2, w1.drew = w2 := ⟨_, rfl⟩
  rw [hw2]
  have bw2 : Below w1.heap.size w1 w2 := by rw [← hw2]; exact (Below.refl _ w1).drew
  have sw2 : w2.heap.size = w1.heap.size := by rw [← hw2]; rfl
  clear hw2
  replace XM := Lib.hid (XM.out.block (bw2.block (W.heap.size) (by omega)))
  replace XO := Lib.hid (XO.out.block (bw2.block (W.heap.size + 1) (by omega)))
  replace XZ := Lib.hid (XZ.out.block (bw2.block (W.heap.size + 1 + 1) (by omega)))
  replace HB := Lib.hid (thn HB.out bw2)
  clear bw2
  clear cM0 cM1 cM2 cM3 cM4 cM5 cM6 cM7 cM8 cM9 cM10 cM11 cM12 cO0 cO1 cO2 cO3 cO4 cO5 cO6 cO7 cZ0 cZ1 cZ2 cZ3 cZ4 cZ5 cZ6 cZ7 cZ8 cZ9 cZ10 cZ11 cZ12 fZ0 fZ1 fZ2 fZ3 fZ4 fZ5 fZ6 fZ7 fZ8 fZ9 fZ10 fZ11 fZ12
  obtain ⟨cM0, cM1, cM2, cM3, cM4, cM5, cM6, cM7, cM8, cM9, cM10, cM11, cM12⟩ := XM.out.c13
  obtain ⟨cO0, cO1, cO2, cO3, cO4, cO5, cO6, cO7⟩ := XO.out.c8
  obtain ⟨cZ0, cZ1, cZ2, cZ3, cZ4, cZ5, cZ6, cZ7, cZ8, cZ9, cZ10, cZ11, cZ12⟩ := XZ.out.c13
  obtain ⟨fZ0, fZ1, fZ2, fZ3, fZ4, fZ5, fZ6, fZ7, fZ8, fZ9, fZ10, fZ11, fZ12⟩ := XZ.out.f13
  go_wp2_with fail
  refine (HA.out _).mono ?_
  rintro e w3 ⟨rfl, bw3⟩
  clear cM0 cM1 cM2 cM3 cM4 cM5 cM6 cM7 cM8 cM9 cM10 cM11 cM12 cO0 cO1 cO2 cO3 cO4 cO5 cO6 cO7 cZ0 cZ1 cZ2 cZ3 cZ4 cZ5 cZ6 cZ7 cZ8 cZ9 cZ10 cZ11 cZ12 fZ0 fZ1 fZ2 fZ3 fZ4 fZ5 fZ6 fZ7 fZ8 fZ9 fZ10 fZ11 fZ12
  have sw3 := bw3.size
  replace XM := Lib.hid (XM.out.block (bw3.block (W.heap.size) (by omega)))
  replace XO := Lib.hid (XO.out.block (bw3.block (W.heap.size + 1) (by omega)))
  replace XZ := Lib.hid (XZ.out.block (bw3.block (W.heap.size + 1 + 1) (by omega)))
  replace HB := Lib.hid (thn HB.out bw3)
  clear bw3
  obtain ⟨cM0, cM1, cM2, cM3, cM4, cM5, cM6, cM7, cM8, cM9, cM10, cM11, cM12⟩ := XM.out.c13
  obtain ⟨cO0, cO1, cO2, cO3, cO4, cO5, cO6, cO7⟩ := XO.out.c8
  obtain ⟨cZ0, cZ1, cZ2, cZ3, cZ4, cZ5, cZ6, cZ7, cZ8, cZ9, cZ10, cZ11, cZ12⟩ := XZ.out.c13
  obtain ⟨fZ0, fZ1, fZ2, fZ3, fZ4, fZ5, fZ6, fZ7, fZ8, fZ9, fZ10, fZ11, fZ12⟩ := XZ.out.f13
  go_wp2_with fail
  obtain ⟨w4, hw4⟩ : ∃ w4, w4 = sets13 w3 (W.heap.size + 1 + 1) (.int .i64 C.pg) (.int .i64 C.rg) (.int .i64 C.lg) (.int .i64 C.th) (.int .i64 C.ca) (.int .i64 C.ba) (.int .i64 C.sh) (.int .i64 C.re) (.int .i64 C.mo) (.int .i64 C.fi) (.int .u64 C.ky) (.slice none 0 0) (.slice (some ⟨r, 0, none⟩) k kc) := ⟨_, rfl⟩
  obtain ⟨sw4, kw4, lw4, XZn⟩ := XZ.out.put13s rfl hw4
  unfold sets13 at hw4
  rw [← hw4]
  clear hw4
  clear cM0 cM1 cM2 cM3 cM4 cM5 cM6 cM7 cM8 cM9 cM10 cM11 cM12 cO0 cO1 cO2 cO3 cO4 cO5 cO6 cO7 cZ0 cZ1 cZ2 cZ3 cZ4 cZ5 cZ6 cZ7 cZ8 cZ9 cZ10 cZ11 cZ12 fZ0 fZ1 fZ2 fZ3 fZ4 fZ5 fZ6 fZ7 fZ8 fZ9 fZ10 fZ11 fZ12
  replace XZ := Lib.hid XZn
  clear XZn
  replace XM := Lib.hid (XM.out.block (kw4 (W.heap.size) (by omega)))
  replace XO := Lib.hid (XO.out.block (kw4 (W.heap.size + 1) (by omega)))
  replace HB := Lib.hid (HB.out.trans (lw4 W.heap.size (by omega)))
  clear kw4 lw4
  obtain ⟨cZ0, cZ1, cZ2, cZ3, cZ4, cZ5, cZ6, cZ7, cZ8, cZ9, cZ10, cZ11, cZ12⟩ := XZ.out.c13
  refine bodyPost_ret (v := .tuple #[rmv C none 0 0 (some ⟨r, 0, none⟩) k kc, rE 13]) (by simp [results, Try.results26, go_sem, cZ0, cZ1, cZ2, cZ3, cZ4, cZ5, cZ6, cZ7, cZ8, cZ9, cZ10, cZ11, cZ12]) rfl ⟨rfl, HB.out⟩
end
end Go.Proofs.Ytanmmhbnjmglhaa
