/- MpE. -/
import Derived.Test.YtanmmhbnjmglhaaZ34
import Derived.RegionTactic
namespace Go.Proofs.Ytanmmhbnjmglhaa
set_option maxRecDepth 100000
open Go.RowKit Go.ChangeMaps Go.MapKept
set_option linter.unusedVariables false
set_option linter.unusedSimpArgs false
theorem powB_half {b : Int} (h : 1 < b) : powB b = ((b % 2 == 0) && powB (b / 2)) := by
  obtain ⟨n, rfl⟩ := Int.eq_ofNat_of_zero_le (show 0 ≤ b by omega)
  have hn : 1 < n := by omega
  have e1 : ((n : Int) / 2).toNat = n / 2 := by omega
  have hiff : (n &&& (n - 1) = 0) ↔ (n % 2 = 0 ∧ (n / 2) &&& (n / 2 - 1) = 0) := by
    rw [Nat.and_sub_one_eq_zero_iff_isPowerOfTwo (by omega), Nat.and_sub_one_eq_zero_iff_isPowerOfTwo (by omega)]
    constructor
    · rintro ⟨k, hk⟩
      cases k with
      | zero => simp at hk; omega
      | succ k =>
        rw [Nat.pow_succ] at hk
        exact ⟨by omega, k, by omega⟩
    · rintro ⟨h0, k, hk⟩
      exact ⟨k + 1, by rw [Nat.pow_succ]; omega⟩
  unfold powB
  rw [Int.toNat_natCast, e1, Bool.eq_iff_iff]
  simp only [Bool.and_eq_true, decide_eq_true_eq, beq_iff_eq]
  constructor
  · rintro ⟨_, h2⟩
    obtain ⟨a, b⟩ := hiff.1 h2
    exact ⟨by omega, by omega, b⟩
  · rintro ⟨h1, _, h2⟩
    exact ⟨by omega, hiff.2 ⟨by omega, h2⟩⟩
section
variable {C : Cf} {r k kc : Nat} {W : World}
set_option maxHeartbeats 1600000 in
theorem rmk3a (t a b v n mm : Int) (P : Option Addr) (ln cp : Nat) (full : Bool) (hmax : mm ≤ 9223372036854775807) (h1 : malB mm = false) (hok : C.ok) (h : RZ r k W) : Calls Try.prog 26 #[rmv C none 0 0 (some ⟨r, 0, none⟩) k kc, opv 3 t a b v n mm P ln cp, .bool full] W (fun e w' => e = .returned (.tuple #[rmv C none 0 0 (some ⟨r, 0, none⟩) k kc, rE 1]) ∧ Below W.heap.size W w') := by
  have hwf := u8w hok.2.2
  have H := Lib.hid h
  clear h
  go_enter Try.func26, Try.ntmps26
  go_upto_region 1 with (fail)
  obtain ⟨w1, hw1⟩ : ∃ w1, ((W.alloc (.cells #[.int .i64 C.pg, .int .i64 C.rg, .int .i64 C.lg, .int .i64 C.th, .int .i64 C.ca, .int .i64 C.ba, .int .i64 C.sh, .int .i64 C.re, .int .i64 C.mo, .int .i64 C.fi, .int .u64 C.ky, .slice none 0 0, .slice (some ⟨r, 0, none⟩) k kc] 34)).alloc (.cells #[.int .i64 3, .int .i64 t, .int .i64 a, .int .i64 b, .int .i64 v, .int .i64 n, .int .i64 mm, .slice P ln cp] 41)).alloc (.cells #[.int .i64 0, .int .i64 0, .int .i64 0, .int .i64 0, .int .i64 0, .int .i64 0, .int .i64 0, .int .i64 0, .int .i64 0, .int .i64 0, .int .u64 0, .slice none 0 0, .slice none 0 0] 34) = w1 := ⟨_, rfl⟩
  have bw1 : Below W.heap.size W w1 := by rw [← hw1]; exact alc (alc (alc0 _ _) _) _
  have sw1 : w1.heap.size = W.heap.size + 3 := by rw [← hw1]; simp
  have XM : Hid (BX (W.heap.size) #[.int .i64 C.pg, .int .i64 C.rg, .int .i64 C.lg, .int .i64 C.th, .int .i64 C.ca, .int .i64 C.ba, .int .i64 C.sh, .int .i64 C.re, .int .i64 C.mo, .int .i64 C.fi, .int .u64 C.ky, .slice none 0 0, .slice (some ⟨r, 0, none⟩) k kc] w1) := Lib.hid (by rw [← hw1]; exact (bx_new _ _ _).block ((alc (alc0 _ _) _).block _ (by simp)))
  have XO : Hid (BX (W.heap.size + 1) #[.int .i64 3, .int .i64 t, .int .i64 a, .int .i64 b, .int .i64 v, .int .i64 n, .int .i64 mm, .slice P ln cp] w1) := Lib.hid (by rw [← hw1]; exact (bx_at _ _ _ (by simp)).block ((alc0 _ _).block _ (by simp)))
  have XZ : Hid (BX (W.heap.size + 1 + 1) #[.int .i64 0, .int .i64 0, .int .i64 0, .int .i64 0, .int .i64 0, .int .i64 0, .int .i64 0, .int .i64 0, .int .i64 0, .int .i64 0, .int .u64 0, .slice none 0 0, .slice none 0 0] w1) := Lib.hid (by rw [← hw1]; exact bx_at _ _ _ (by simp))
  rw [hw1]
  clear hw1
  have HB := Lib.hid bw1
  clear bw1
  obtain ⟨cM0, cM1, cM2, cM3, cM4, cM5, cM6, cM7, cM8, cM9, cM10, cM11, cM12⟩ := XM.out.c13
  obtain ⟨cO0, cO1, cO2, cO3, cO4, cO5, cO6, cO7⟩ := XO.out.c8
  obtain ⟨cZ0, cZ1, cZ2, cZ3, cZ4, cZ5, cZ6, cZ7, cZ8, cZ9, cZ10, cZ11, cZ12⟩ := XZ.out.c13
  obtain ⟨fZ0, fZ1, fZ2, fZ3, fZ4, fZ5, fZ6, fZ7, fZ8, fZ9, fZ10, fZ11, fZ12⟩ := XZ.out.f13
  go_region
  obtain ⟨w2, hw2⟩ : ∃ w2, w1.drew = w2 := ⟨_, rfl⟩
  rw [hw2]
  have bw2 : Below w1.heap.size w1 w2 := by rw [← hw2]; exact (Below.refl _ w1).drew
  have sw2 : w2.heap.size = w1.heap.size := by rw [← hw2]; rfl
  clear hw2
  replace XM := Lib.hid (XM.out.block (bw2.block (W.heap.size) (by omega)))
  replace XO := Lib.hid (XO.out.block (bw2.block (W.heap.size + 1) (by omega)))
  replace XZ := Lib.hid (XZ.out.block (bw2.block (W.heap.size + 1 + 1) (by omega)))
  replace HB := Lib.hid (thn HB.out bw2)
  clear bw2
  clear cM0 cM1 cM2 cM3 cM4 cM5 cM6 cM7 cM8 cM9 cM10 cM11 cM12 cO0 cO1 cO2 cO3 cO4 cO5 cO6 cO7 cZ0 cZ1 cZ2 cZ3 cZ4 cZ5 cZ6 cZ7 cZ8 cZ9 cZ10 cZ11 cZ12 fZ0 fZ1 fZ2 fZ3 fZ4 fZ5 fZ6 fZ7 fZ8 fZ9 fZ10 fZ11 fZ12
  obtain ⟨cM0, cM1, cM2, cM3, cM4, cM5, cM6, cM7, cM8, cM9, cM10, cM11, cM12⟩ := XM.out.c13
  obtain ⟨cO0, cO1, cO2, cO3, cO4, cO5, cO6, cO7⟩ := XO.out.c8
  obtain ⟨cZ0, cZ1, cZ2, cZ3, cZ4, cZ5, cZ6, cZ7, cZ8, cZ9, cZ10, cZ11, cZ12⟩ := XZ.out.c13
  obtain ⟨fZ0, fZ1, fZ2, fZ3, fZ4, fZ5, fZ6, fZ7, fZ8, fZ9, fZ10, fZ11, fZ12⟩ := XZ.out.f13
  go_upto_region 11 with (fail)
  go_loop [11] (fun v11 => ∃ x : Int, v11 = .int .i64 x ∧ x ≤ 9223372036854775807 ∧ Hid (powB x = powB mm) ∧ Hid (x = mm ∨ 1 ≤ x)) (fun v => (intOf v).toNat)
  case atStart => exact ⟨mm, rfl, hmax, Lib.hid rfl, Lib.hid (.inl rfl)⟩
  case round =>
  obtain ⟨x, rfl, hx9, HX, HX1⟩ := hrel
  by_cases hb : 1 < x
  · by_cases he : x % 2 = 0
    · have hq : powB (x / 2) = powB mm := by rw [← HX.out, powB_half hb, he]; rfl
      have HQ := Lib.hid hq
      clear hq HX HX1
      have he2 : (x % 2 == 0) = true := by simp [he]
      go_wp2_with fail
      go_round
      case rel => exact ⟨_, rfl, by omega, HQ, Lib.hid (.inr (by omega))⟩
      case measure => simp [intOf]; omega
    · have he2 : (x % 2 == 0) = false := by simp [he]
      have hne : ¬ x = 1 := by omega
      have hne2 : (x != 1) = true := by simp; omega
      clear HX HX1
      go_wp2_with fail
      obtain ⟨w51, hw51⟩ : ∃ w51, w51 = sets13 w2 (W.heap.size + 1 + 1) (.int .i64 C.pg) (.int .i64 C.rg) (.int .i64 C.lg) (.int .i64 C.th) (.int .i64 C.ca) (.int .i64 C.ba) (.int .i64 C.sh) (.int .i64 C.re) (.int .i64 C.mo) (.int .i64 C.fi) (.int .u64 C.ky) (.slice none 0 0) (.slice (some ⟨r, 0, none⟩) k kc) := ⟨_, rfl⟩
      obtain ⟨sw51, kw51, lw51, XZn⟩ := XZ.out.put13s rfl hw51
      unfold sets13 at hw51
      rw [← hw51]
      clear hw51
      clear cM0 cM1 cM2 cM3 cM4 cM5 cM6 cM7 cM8 cM9 cM10 cM11 cM12 cO0 cO1 cO2 cO3 cO4 cO5 cO6 cO7 cZ0 cZ1 cZ2 cZ3 cZ4 cZ5 cZ6 cZ7 cZ8 cZ9 cZ10 cZ11 cZ12 fZ0 fZ1 fZ2 fZ3 fZ4 fZ5 fZ6 fZ7 fZ8 fZ9 fZ10 fZ11 fZ12
      replace XZ := Lib.hid XZn
      clear XZn
      replace XM := Lib.hid (XM.out.block (kw51 (W.heap.size) (by omega)))
      replace XO := Lib.hid (XO.out.block (kw51 (W.heap.size + 1) (by omega)))
      replace HB := Lib.hid (HB.out.trans (lw51 W.heap.size (by omega)))
      clear kw51 lw51
      obtain ⟨cZ0, cZ1, cZ2, cZ3, cZ4, cZ5, cZ6, cZ7, cZ8, cZ9, cZ10, cZ11, cZ12⟩ := XZ.out.c13
      refine bodyPost_ret (v := .tuple #[rmv C none 0 0 (some ⟨r, 0, none⟩) k kc, rE 1]) (by simp [results, Try.results26, go_sem, cZ0, cZ1, cZ2, cZ3, cZ4, cZ5, cZ6, cZ7, cZ8, cZ9, cZ10, cZ11, cZ12]) rfl ⟨rfl, HB.out⟩
  by_cases h0 : x = 1
  · have hbig : mm > 256 := by
      by_cases hc : mm ≤ 256
      · exfalso
        have h2 := HX.out
        rw [h0] at h2
        have h3 : powB 1 = true := by decide
        rw [h3] at h2
        simp [malB, ← h2, hc] at h1
      · omega
    subst h0
    have hne2 : ((1 : Int) != 1) = false := by simp
    clear HX HX1
    go_wp2_with fail
    obtain ⟨w51, hw51⟩ : ∃ w51, w51 = sets13 w2 (W.heap.size + 1 + 1) (.int .i64 C.pg) (.int .i64 C.rg) (.int .i64 C.lg) (.int .i64 C.th) (.int .i64 C.ca) (.int .i64 C.ba) (.int .i64 C.sh) (.int .i64 C.re) (.int .i64 C.mo) (.int .i64 C.fi) (.int .u64 C.ky) (.slice none 0 0) (.slice (some ⟨r, 0, none⟩) k kc) := ⟨_, rfl⟩
    obtain ⟨sw51, kw51, lw51, XZn⟩ := XZ.out.put13s rfl hw51
    unfold sets13 at hw51
    rw [← hw51]
    clear hw51
    clear cM0 cM1 cM2 cM3 cM4 cM5 cM6 cM7 cM8 cM9 cM10 cM11 cM12 cO0 cO1 cO2 cO3 cO4 cO5 cO6 cO7 cZ0 cZ1 cZ2 cZ3 cZ4 cZ5 cZ6 cZ7 cZ8 cZ9 cZ10 cZ11 cZ12 fZ0 fZ1 fZ2 fZ3 fZ4 fZ5 fZ6 fZ7 fZ8 fZ9 fZ10 fZ11 fZ12
    replace XZ := Lib.hid XZn
    clear XZn
    replace XM := Lib.hid (XM.out.block (kw51 (W.heap.size) (by omega)))
    replace XO := Lib.hid (XO.out.block (kw51 (W.heap.size + 1) (by omega)))
    replace HB := Lib.hid (HB.out.trans (lw51 W.heap.size (by omega)))
    clear kw51 lw51
    obtain ⟨cZ0, cZ1, cZ2, cZ3, cZ4, cZ5, cZ6, cZ7, cZ8, cZ9, cZ10, cZ11, cZ12⟩ := XZ.out.c13
    refine bodyPost_ret (v := .tuple #[rmv C none 0 0 (some ⟨r, 0, none⟩) k kc, rE 1]) (by simp [results, Try.results26, go_sem, cZ0, cZ1, cZ2, cZ3, cZ4, cZ5, cZ6, cZ7, cZ8, cZ9, cZ10, cZ11, cZ12]) rfl ⟨rfl, HB.out⟩
  · have hne2 : (x != 1) = true := by simp; omega
    clear HX HX1
    go_wp2_with fail
    obtain ⟨w51, hw51⟩ : ∃ w51, w51 = sets13 w2 (W.heap.size + 1 + 1) (.int .i64 C.pg) (.int .i64 C.rg) (.int .i64 C.lg) (.int .i64 C.th) (.int .i64 C.ca) (.int .i64 C.ba) (.int .i64 C.sh) (.int .i64 C.re) (.int .i64 C.mo) (.int .i64 C.fi) (.int .u64 C.ky) (.slice none 0 0) (.slice (some ⟨r, 0, none⟩) k kc) := ⟨_, rfl⟩
    obtain ⟨sw51, kw51, lw51, XZn⟩ := XZ.out.put13s rfl hw51
    unfold sets13 at hw51
    rw [← hw51]
    clear hw51
    clear cM0 cM1 cM2 cM3 cM4 cM5 cM6 cM7 cM8 cM9 cM10 cM11 cM12 cO0 cO1 cO2 cO3 cO4 cO5 cO6 cO7 cZ0 cZ1 cZ2 cZ3 cZ4 cZ5 cZ6 cZ7 cZ8 cZ9 cZ10 cZ11 cZ12 fZ0 fZ1 fZ2 fZ3 fZ4 fZ5 fZ6 fZ7 fZ8 fZ9 fZ10 fZ11 fZ12
    replace XZ := Lib.hid XZn
    clear XZn
    replace XM := Lib.hid (XM.out.block (kw51 (W.heap.size) (by omega)))
    replace XO := Lib.hid (XO.out.block (kw51 (W.heap.size + 1) (by omega)))
    replace HB := Lib.hid (HB.out.trans (lw51 W.heap.size (by omega)))
    clear kw51 lw51
    obtain ⟨cZ0, cZ1, cZ2, cZ3, cZ4, cZ5, cZ6, cZ7, cZ8, cZ9, cZ10, cZ11, cZ12⟩ := XZ.out.c13
    refine bodyPost_ret (v := .tuple #[rmv C none 0 0 (some ⟨r, 0, none⟩) k kc, rE 1]) (by simp [results, Try.results26, go_sem, cZ0, cZ1, cZ2, cZ3, cZ4, cZ5, cZ6, cZ7, cZ8, cZ9, cZ10, cZ11, cZ12]) rfl ⟨rfl, HB.out⟩
set_option maxHeartbeats 1600000 in
theorem rmk3b1 (t a b v n mm : Int) (P : Option Addr) (ln cp : Nat) (full : Bool) (hmax : mm ≤ 9223372036854775807) (hm : malB mm = true) (h1 : askE C t n full = 1) (hok : C.ok) (h : RZ r k W) : Calls Try.prog 26 #[rmv C none 0 0 (some ⟨r, 0, none⟩) k kc, opv 3 t a b v n mm P ln cp, .bool full] W (fun e w' => e = .returned (.tuple #[rmv C none 0 0 (some ⟨r, 0, none⟩) k kc, rE 1]) ∧ Below W.heap.size W w') := by
  have hpw : powB mm = true := by simp [malB] at hm; exact hm.1
  have hle : ¬ mm > 256 := by simp [malB] at hm; omega
  clear hm
  have HA : Hid (∀ w, Calls Try.prog 47 #[rmv C none 0 0 (some ⟨r, 0, none⟩) k kc, .int .i64 t, .int .i64 n, .bool full] w fun e w' => e = .returned (rE 1) ∧ Below w.heap.size w w') := Lib.hid fun w => by
    have := rask (C := C) (L := none) (ll := 0) (lc := 0) (R := some ⟨r, 0, none⟩) (k := k) (kc := kc) (W := w) t n full
    rwa [h1] at this
  clear h1
  have hwf := u8w hok.2.2
  have H := Lib.hid h
  clear h
  go_enter Try.func26, Try.ntmps26
  go_upto_region 1 with (fail)
  obtain ⟨w1, hw1⟩ : ∃ w1, ((W.alloc (.cells #[.int .i64 C.pg, .int .i64 C.rg, .int .i64 C.lg, .int .i64 C.th, .int .i64 C.ca, .int .i64 C.ba, .int .i64 C.sh, .int .i64 C.re, .int .i64 C.mo, .int .i64 C.fi, .int .u64 C.ky, .slice none 0 0, .slice (some ⟨r, 0, none⟩) k kc] 34)).alloc (.cells #[.int .i64 3, .int .i64 t, .int .i64 a, .int .i64 b, .int .i64 v, .int .i64 n, .int .i64 mm, .slice P ln cp] 41)).alloc (.cells #[.int .i64 0, .int .i64 0, .int .i64 0, .int .i64 0, .int .i64 0, .int .i64 0, .int .i64 0, .int .i64 0, .int .i64 0, .int .i64 0, .int .u64 0, .slice none 0 0, .slice none 0 0] 34) = w1 := ⟨_, rfl⟩
  have bw1 : Below W.heap.size W w1 := by rw [← hw1]; exact alc (alc (alc0 _ _) _) _
  have sw1 : w1.heap.size = W.heap.size + 3 := by rw [← hw1]; simp
  have XM : Hid (BX (W.heap.size) #[.int .i64 C.pg, .int .i64 C.rg, .int .i64 C.lg, .int .i64 C.th, .int .i64 C.ca, .int .i64 C.ba, .int .i64 C.sh, .int .i64 C.re, .int .i64 C.mo, .int .i64 C.fi, .int .u64 C.ky, .slice none 0 0, .slice (some ⟨r, 0, none⟩) k kc] w1) := Lib.hid (by rw [← hw1]; exact (bx_new _ _ _).block ((alc (alc0 _ _) _).block _ (by simp)))
  have XO : Hid (BX (W.heap.size + 1) #[.int .i64 3, .int .i64 t, .int .i64 a, .int .i64 b, .int .i64 v, .int .i64 n, .int .i64 mm, .slice P ln cp] w1) := Lib.hid (by rw [← hw1]; exact (bx_at _ _ _ (by simp)).block ((alc0 _ _).block _ (by simp)))
  have XZ : Hid (BX (W.heap.size + 1 + 1) #[.int .i64 0, .int .i64 0, .int .i64 0, .int .i64 0, .int .i64 0, .int .i64 0, .int .i64 0, .int .i64 0, .int .i64 0, .int .i64 0, .int .u64 0, .slice none 0 0, .slice none 0 0] w1) := Lib.hid (by rw [← hw1]; exact bx_at _ _ _ (by simp))
  rw [hw1]
  clear hw1
  have HB := Lib.hid bw1
  clear bw1
  obtain ⟨cM0, cM1, cM2, cM3, cM4, cM5, cM6, cM7, cM8, cM9, cM10, cM11, cM12⟩ := XM.out.c13
  obtain ⟨cO0, cO1, cO2, cO3, cO4, cO5, cO6, cO7⟩ := XO.out.c8
  obtain ⟨cZ0, cZ1, cZ2, cZ3, cZ4, cZ5, cZ6, cZ7, cZ8, cZ9, cZ10, cZ11, cZ12⟩ := XZ.out.c13
  obtain ⟨fZ0, fZ1, fZ2, fZ3, fZ4, fZ5, fZ6, fZ7, fZ8, fZ9, fZ10, fZ11, fZ12⟩ := XZ.out.f13
  go_region
  obtain ⟨w2, hw2⟩ : ∃ w2, w1.drew = w2 := ⟨_, rfl⟩
  rw [hw2]
  have bw2 : Below w1.heap.size w1 w2 := by rw [← hw2]; exact (Below.refl _ w1).drew
  have sw2 : w2.heap.size = w1.heap.size := by rw [← hw2]; rfl
  clear hw2
  replace XM := Lib.hid (XM.out.block (bw2.block (W.heap.size) (by omega)))
  replace XO := Lib.hid (XO.out.block (bw2.block (W.heap.size + 1) (by omega)))
  replace XZ := Lib.hid (XZ.out.block (bw2.block (W.heap.size + 1 + 1) (by omega)))
  replace HB := Lib.hid (thn HB.out bw2)
  clear bw2
  clear cM0 cM1 cM2 cM3 cM4 cM5 cM6 cM7 cM8 cM9 cM10 cM11 cM12 cO0 cO1 cO2 cO3 cO4 cO5 cO6 cO7 cZ0 cZ1 cZ2 cZ3 cZ4 cZ5 cZ6 cZ7 cZ8 cZ9 cZ10 cZ11 cZ12 fZ0 fZ1 fZ2 fZ3 fZ4 fZ5 fZ6 fZ7 fZ8 fZ9 fZ10 fZ11 fZ12
  obtain ⟨cM0, cM1, cM2, cM3, cM4, cM5, cM6, cM7, cM8, cM9, cM10, cM11, cM12⟩ := XM.out.c13
  obtain ⟨cO0, cO1, cO2, cO3, cO4, cO5, cO6, cO7⟩ := XO.out.c8
  obtain ⟨cZ0, cZ1, cZ2, cZ3, cZ4, cZ5, cZ6, cZ7, cZ8, cZ9, cZ10, cZ11, cZ12⟩ := XZ.out.c13
  obtain ⟨fZ0, fZ1, fZ2, fZ3, fZ4, fZ5, fZ6, fZ7, fZ8, fZ9, fZ10, fZ11, fZ12⟩ := XZ.out.f13
  go_upto_region 11 with (fail)
  go_loop [11] (fun v11 => ∃ x : Int, v11 = .int .i64 x ∧ x ≤ 9223372036854775807 ∧ Hid (powB x = powB mm) ∧ Hid (x = mm ∨ 1 ≤ x)) (fun v => (intOf v).toNat)
  case atStart => exact ⟨mm, rfl, hmax, Lib.hid rfl, Lib.hid (.inl rfl)⟩
  case round =>
  obtain ⟨x, rfl, hx9, HX, HX1⟩ := hrel
  by_cases hb : 1 < x
  · by_cases he : x % 2 = 0
    · have hq : powB (x / 2) = powB mm := by rw [← HX.out, powB_half hb, he]; rfl
      have HQ := Lib.hid hq
      clear hq HX HX1
      have he2 : (x % 2 == 0) = true := by simp [he]
      go_wp2_with fail
      go_round
      case rel => exact ⟨_, rfl, by omega, HQ, Lib.hid (.inr (by omega))⟩
      case measure => simp [intOf]; omega
    · exfalso
      have := HX.out
      rw [powB_half hb, hpw] at this
      simp [he] at this
  obtain rfl : x = 1 := by
    by_cases h0 : x < 1
    · exfalso
      have := HX.out
      rw [hpw] at this
      simp [powB] at this
      omega
    · omega
  clear HX HX1 hb
  go_wp2_with fail
  refine (HA.out _).mono ?_
  rintro e w3 ⟨rfl, bw3⟩
  clear cM0 cM1 cM2 cM3 cM4 cM5 cM6 cM7 cM8 cM9 cM10 cM11 cM12 cO0 cO1 cO2 cO3 cO4 cO5 cO6 cO7 cZ0 cZ1 cZ2 cZ3 cZ4 cZ5 cZ6 cZ7 cZ8 cZ9 cZ10 cZ11 cZ12 fZ0 fZ1 fZ2 fZ3 fZ4 fZ5 fZ6 fZ7 fZ8 fZ9 fZ10 fZ11 fZ12
  have sw3 := bw3.size
  replace XM := Lib.hid (XM.out.block (bw3.block (W.heap.size) (by omega)))
  replace XO := Lib.hid (XO.out.block (bw3.block (W.heap.size + 1) (by omega)))
  replace XZ := Lib.hid (XZ.out.block (bw3.block (W.heap.size + 1 + 1) (by omega)))
  replace HB := Lib.hid (thn HB.out bw3)
  clear bw3
  obtain ⟨cM0, cM1, cM2, cM3, cM4, cM5, cM6, cM7, cM8, cM9, cM10, cM11, cM12⟩ := XM.out.c13
  obtain ⟨cO0, cO1, cO2, cO3, cO4, cO5, cO6, cO7⟩ := XO.out.c8
  obtain ⟨cZ0, cZ1, cZ2, cZ3, cZ4, cZ5, cZ6, cZ7, cZ8, cZ9, cZ10, cZ11, cZ12⟩ := XZ.out.c13
  obtain ⟨fZ0, fZ1, fZ2, fZ3, fZ4, fZ5, fZ6, fZ7, fZ8, fZ9, fZ10, fZ11, fZ12⟩ := XZ.out.f13
  go_wp2_with fail
  obtain ⟨w4, hw4⟩ : ∃ w4, w4 = sets13 w3 (W.heap.size + 1 + 1) (.int .i64 C.pg) (.int .i64 C.rg) (.int .i64 C.lg) (.int .i64 C.th) (.int .i64 C.ca) (.int .i64 C.ba) (.int .i64 C.sh) (.int .i64 C.re) (.int .i64 C.mo) (.int .i64 C.fi) (.int .u64 C.ky) (.slice none 0 0) (.slice (some ⟨r, 0, none⟩) k kc) := ⟨_, rfl⟩
  obtain ⟨sw4, kw4, lw4, XZn⟩ := XZ.out.put13s rfl hw4
  unfold sets13 at hw4
  rw [← hw4]
  clear hw4
  clear cM0 cM1 cM2 cM3 cM4 cM5 cM6 cM7 cM8 cM9 cM10 cM11 cM12 cO0 cO1 cO2 cO3 cO4 cO5 cO6 cO7 cZ0 cZ1 cZ2 cZ3 cZ4 cZ5 cZ6 cZ7 cZ8 cZ9 cZ10 cZ11 cZ12 fZ0 fZ1 fZ2 fZ3 fZ4 fZ5 fZ6 fZ7 fZ8 fZ9 fZ10 fZ11 fZ12
  replace XZ := Lib.hid XZn
  clear XZn
  replace XM := Lib.hid (XM.out.block (kw4 (W.heap.size) (by omega)))
  replace XO := Lib.hid (XO.out.block (kw4 (W.heap.size + 1) (by omega)))
  replace HB := Lib.hid (HB.out.trans (lw4 W.heap.size (by omega)))
  clear kw4 lw4
  obtain ⟨cZ0, cZ1, cZ2, cZ3, cZ4, cZ5, cZ6, cZ7, cZ8, cZ9, cZ10, cZ11, cZ12⟩ := XZ.out.c13
  refine bodyPost_ret (v := .tuple #[rmv C none 0 0 (some ⟨r, 0, none⟩) k kc, rE 1]) (by simp [results, Try.results26, go_sem, cZ0, cZ1, cZ2, cZ3, cZ4, cZ5, cZ6, cZ7, cZ8, cZ9, cZ10, cZ11, cZ12]) rfl ⟨rfl, HB.out⟩
set_option maxHeartbeats 1600000 in
theorem rmk3b4 (t a b v n mm : Int) (P : Option Addr) (ln cp : Nat) (full : Bool) (hmax : mm ≤ 9223372036854775807) (hm : malB mm = true) (h1 : askE C t n full = 4) (hok : C.ok) (h : RZ r k W) : Calls Try.prog 26 #[rmv C none 0 0 (some ⟨r, 0, none⟩) k kc, opv 3 t a b v n mm P ln cp, .bool full] W (fun e w' => e = .returned (.tuple #[rmv C none 0 0 (some ⟨r, 0, none⟩) k kc, rE 4]) ∧ Below W.heap.size W w') := by
  have hpw : powB mm = true := by simp [malB] at hm; exact hm.1
  have hle : ¬ mm > 256 := by simp [malB] at hm; omega
  clear hm
  have HA : Hid (∀ w, Calls Try.prog 47 #[rmv C none 0 0 (some ⟨r, 0, none⟩) k kc, .int .i64 t, .int .i64 n, .bool full] w fun e w' => e = .returned (rE 4) ∧ Below w.heap.size w w') := Lib.hid fun w => by
    have := rask (C := C) (L := none) (ll := 0) (lc := 0) (R := some ⟨r, 0, none⟩) (k := k) (kc := kc) (W := w) t n full
    rwa [h1] at this
  clear h1
  have hwf := u8w hok.2.2
  have H := Lib.hid h
  clear h
  go_enter Try.func26, Try.ntmps26
  go_upto_region 1 with (fail)
  obtain ⟨w1, hw1⟩ : ∃ w1, ((W.alloc (.cells #[.int .i64 C.pg, .int .i64 C.rg, .int .i64 C.lg, .int .i64 C.th, .int .i64 C.ca, .int .i64 C.ba, .int .i64 C.sh, .int .i64 C.re, .int .i64 C.mo, .int .i64 C.fi, .int .u64 C.ky, .slice none 0 0, .slice (some ⟨r, 0, none⟩) k kc] 34)).alloc (.cells #[.int .i64 3, .int .i64 t, .int .i64 a, .int .i64 b, .int .i64 v, .int .i64 n, .int .i64 mm, .slice P ln cp] 41)).alloc (.cells #[.int .i64 0, .int .i64 0, .int .i64 0, .int .i64 0, .int .i64 0, .int .i64 0, .int .i64 0, .int .i64 0, .int .i64 0, .int .i64 0, .int .u64 0, .slice none 0 0, .slice none 0 0] 34) = w1 := ⟨_, rfl⟩
  have bw1 : Below W.heap.size W w1 := by rw [← hw1]; exact alc (alc (alc0 _ _) _) _
  have sw1 : w1.heap.size = W.heap.size + 3 := by rw [← hw1]; simp
  have XM : Hid (BX (W.heap.size) #[.int .i64 C.pg, .int .i64 C.rg, .int .i64 C.lg, .int .i64 C.th, .int .i64 C.ca, .int .i64 C.ba, .int .i64 C.sh, .int .i64 C.re, .int .i64 C.mo, .int .i64 C.fi, .int .u64 C.ky, .slice none 0 0, .slice (some ⟨r, 0, none⟩) k kc] w1) := Lib.hid (by rw [← hw1]; exact (bx_new _ _ _).block ((alc (alc0 _ _) _).block _ (by simp)))
  have XO : Hid (BX (W.heap.size + 1) #[.int .i64 3, .int .i64 t, .int .i64 a, .int .i64 b, .int .i64 v, .int .i64 n, .int .i64 mm, .slice P ln cp] w1) := Lib.hid (by rw [← hw1]; exact (bx_at _ _ _ (by simp)).block ((alc0 _ _).block _ (by simp)))
  have XZ : Hid (BX (W.heap.size + 1 + 1) #[.int .i64 0, .int .i64 0, .int .i64 0, .int .i64 0, .int .i64 0, .int .i64 0, .int .i64 0, .int .i64 0, .int .i64 0, .int .i64 0, .int .u64 0, .slice none 0 0, .slice none 0 0] w1) := Lib.hid (by rw [← hw1]; exact bx_at _ _ _ (by simp))
  rw [hw1]
  clear hw1
  have HB := Lib.hid bw1
  clear bw1
  obtain ⟨cM0, cM1, cM2, cM3, cM4, cM5, cM6, cM7, cM8, cM9, cM10, cM11, cM12⟩ := XM.out.c13
  obtain ⟨cO0, cO1, cO2, cO3, cO4, cO5, cO6, cO7⟩ := XO.out.c8
  obtain ⟨cZ0, cZ1, cZ2, cZ3, cZ4, cZ5, cZ6, cZ7, cZ8, cZ9, cZ10, cZ11, cZ12⟩ := XZ.out.c13
  obtain ⟨fZ0, fZ1, fZ2, fZ3, fZ4, fZ5, fZ6, fZ7, fZ8, fZ9, fZ10, fZ11, fZ12⟩ := XZ.out.f13
  go_region
  obtain ⟨w2, hw2⟩ : ∃ w2, w1.drew = w2 := ⟨_, rfl⟩
  rw [hw2]
  have bw2 : Below w1.heap.size w1 w2 := by rw [← hw2]; exact (Below.refl _ w1).drew
  have sw2 : w2.heap.size = w1.heap.size := by rw [← hw2]; rfl
  clear hw2
  replace XM := Lib.hid (XM.out.block (bw2.block (W.heap.size) (by omega)))
  replace XO := Lib.hid (XO.out.block (bw2.block (W.heap.size + 1) (by omega)))
  replace XZ := Lib.hid (XZ.out.block (bw2.block (W.heap.size + 1 + 1) (by omega)))
  replace HB := Lib.hid (thn HB.out bw2)
  clear bw2
  clear cM0 cM1 cM2 cM3 cM4 cM5 cM6 cM7 cM8 cM9 cM10 cM11 cM12 cO0 cO1 cO2 cO3 cO4 cO5 cO6 cO7 cZ0 cZ1 cZ2 cZ3 cZ4 cZ5 cZ6 cZ7 cZ8 cZ9 cZ10 cZ11 cZ12 fZ0 fZ1 fZ2 fZ3 fZ4 fZ5 fZ6 fZ7 fZ8 fZ9 fZ10 fZ11 fZ12
  obtain ⟨cM0, cM1, cM2, cM3, cM4, cM5, cM6, cM7, cM8, cM9, cM10, cM11, cM12⟩ := XM.out.c13
  obtain ⟨cO0, cO1, cO2, cO3, cO4, cO5, cO6, cO7⟩ := XO.out.c8
  obtain ⟨cZ0, cZ1, cZ2, cZ3, cZ4, cZ5, cZ6, cZ7, cZ8, cZ9, cZ10, cZ11, cZ12⟩ := XZ.out.c13
  obtain ⟨fZ0, fZ1, fZ2, fZ3, fZ4, fZ5, fZ6, fZ7, fZ8, fZ9, fZ10, fZ11, fZ12⟩ := XZ.out.f13
  go_upto_region 11 with (fail)
  go_loop [11] (fun v11 => ∃ x : Int, v11 = .int .i64 x ∧ x ≤ 9223372036854775807 ∧ Hid (powB x = powB mm) ∧ Hid (x = mm ∨ 1 ≤ x)) (fun v => (intOf v).toNat)
  case atStart => exact ⟨mm, rfl, hmax, Lib.hid rfl, Lib.hid (.inl rfl)⟩
  case round =>
  obtain ⟨x, rfl, hx9, HX, HX1⟩ := hrel
  by_cases hb : 1 < x
  · by_cases he : x % 2 = 0
    · have hq : powB (x / 2) = powB mm := by rw [← HX.out, powB_half hb, he]; rfl
      have HQ := Lib.hid hq
      clear hq HX HX1
      have he2 : (x % 2 == 0) = true := by simp [he]
      go_wp2_with fail
      go_round
      case rel => exact ⟨_, rfl, by omega, HQ, Lib.hid (.inr (by omega))⟩
      case measure => simp [intOf]; omega
    · exfalso
      have := HX.out
      rw [powB_half hb, hpw] at this
      simp [he] at this
  obtain rfl : x = 1 := by
    by_cases h0 : x < 1
    · exfalso
      have := HX.out
      rw [hpw] at this
      simp [powB] at this
      omega
    · omega
  clear HX HX1 hb
  go_wp2_with fail
  refine (HA.out _).mono ?_
  rintro e w3 ⟨rfl, bw3⟩
  clear cM0 cM1 cM2 cM3 cM4 cM5 cM6 cM7 cM8 cM9 cM10 cM11 cM12 cO0 cO1 cO2 cO3 cO4 cO5 cO6 cO7 cZ0 cZ1 cZ2 cZ3 cZ4 cZ5 cZ6 cZ7 cZ8 cZ9 cZ10 cZ11 cZ12 fZ0 fZ1 fZ2 fZ3 fZ4 fZ5 fZ6 fZ7 fZ8 fZ9 fZ10 fZ11 fZ12
  have sw3 := bw3.size
  replace XM := Lib.hid (XM.out.block (bw3.block (W.heap.size) (by omega)))
  replace XO := Lib.hid (XO.out.block (bw3.block (W.heap.size + 1) (by omega)))
  replace XZ := Lib.hid (XZ.out.block (bw3.block (W.heap.size + 1 + 1) (by omega)))
  replace HB := Lib.hid (thn HB.out bw3)
  clear bw3
  obtain ⟨cM0, cM1, cM2, cM3, cM4, cM5, cM6, cM7, cM8, cM9, cM10, cM11, cM12⟩ := XM.out.c13
  obtain ⟨cO0, cO1, cO2, cO3, cO4, cO5, cO6, cO7⟩ := XO.out.c8
  obtain ⟨cZ0, cZ1, cZ2, cZ3, cZ4, cZ5, cZ6, cZ7, cZ8, cZ9, cZ10, cZ11, cZ12⟩ := XZ.out.c13
  obtain ⟨fZ0, fZ1, fZ2, fZ3, fZ4, fZ5, fZ6, fZ7, fZ8, fZ9, fZ10, fZ11, fZ12⟩ := XZ.out.f13
  go_wp2_with fail
  obtain ⟨w4, hw4⟩ : ∃ w4, w4 = sets13 w3 (W.heap.size + 1 + 1) (.int .i64 C.pg) (.int .i64 C.rg) (.int .i64 C.lg) (.int .i64 C.th) (.int .i64 C.ca) (.int .i64 C.ba) (.int .i64 C.sh) (.int .i64 C.re) (.int .i64 C.mo) (.int .i64 C.fi) (.int .u64 C.ky) (.slice none 0 0) (.slice (some ⟨r, 0, none⟩) k kc) := ⟨_, rfl⟩
  obtain ⟨sw4, kw4, lw4, XZn⟩ := XZ.out.put13s rfl hw4
  unfold sets13 at hw4
  rw [← hw4]
  clear hw4
  clear cM0 cM1 cM2 cM3 cM4 cM5 cM6 cM7 cM8 cM9 cM10 cM11 cM12 cO0 cO1 cO2 cO3 cO4 cO5 cO6 cO7 cZ0 cZ1 cZ2 cZ3 cZ4 cZ5 cZ6 cZ7 cZ8 cZ9 cZ10 cZ11 cZ12 fZ0 fZ1 fZ2 fZ3 fZ4 fZ5 fZ6 fZ7 fZ8 fZ9 fZ10 fZ11 fZ12
  replace XZ := Lib.hid XZn
  clear XZn
  replace XM := Lib.hid (XM.out.block (kw4 (W.heap.size) (by omega)))
  replace XO := Lib.hid (XO.out.block (kw4 (W.heap.size + 1) (by omega)))
  replace HB := Lib.hid (HB.out.trans (lw4 W.heap.size (by omega)))
  clear kw4 lw4
  obtain ⟨cZ0, cZ1, cZ2, cZ3, cZ4, cZ5, cZ6, cZ7, cZ8, cZ9, cZ10, cZ11, cZ12⟩ := XZ.out.c13
  refine bodyPost_ret (v := .tuple #[rmv C none 0 0 (some ⟨r, 0, none⟩) k kc, rE 4]) (by simp [results, Try.results26, go_sem, cZ0, cZ1, cZ2, cZ3, cZ4, cZ5, cZ6, cZ7, cZ8, cZ9, cZ10, cZ11, cZ12]) rfl ⟨rfl, HB.out⟩
set_option maxHeartbeats 1600000 in
theorem rmk3b13 (t a b v n mm : Int) (P : Option Addr) (ln cp : Nat) (full : Bool) (hmax : mm ≤ 9223372036854775807) (hm : malB mm = true) (h1 : askE C t n full = 13) (hok : C.ok) (h : RZ r k W) : Calls Try.prog 26 #[rmv C none 0 0 (some ⟨r, 0, none⟩) k kc, opv 3 t a b v n mm P ln cp, .bool full] W (fun e w' => e = .returned (.tuple #[rmv C none 0 0 (some ⟨r, 0, none⟩) k kc, rE 13]) ∧ Below W.heap.size W w') := by
  have hpw : powB mm = true := by simp [malB] at hm; exact hm.1
  have hle : ¬ mm > 256 := by simp [malB] at hm; omega
  clear hm
  have HA : Hid (∀ w, Calls Try.prog 47 #[rmv C none 0 0 (some ⟨r, 0, none⟩) k kc, .int .i64 t, .int .i64 n, .bool full] w fun e w' => e = .returned (rE 13) ∧ Below w.heap.size w w') := Lib.hid fun w => by
    have := rask (C := C) (L := none) (ll := 0) (lc := 0) (R := some ⟨r, 0, none⟩) (k := k) (kc := kc) (W := w) t n full
    rwa [h1] at this
  clear h1
  have hwf := u8w hok.2.2
  have H := Lib.hid h
  clear h
  go_enter Try.func26, Try.ntmps26
  go_upto_region 1 with (fail)
  obtain ⟨w1, hw1⟩ : ∃ w1, ((W.alloc (.cells #[.int .i64 C.pg, .int .i64 C.rg, .int .i64 C.lg, .int .i64 C.th, .int .i64 C.ca, .int .i64 C.ba, .int .i64 C.sh, .int .i64 C.re, .int .i64 C.mo, .int .i64 C.fi, .int .u64 C.ky, .slice none 0 0, .slice (some ⟨r, 0, none⟩) k kc] 34)).alloc (.cells #[.int .i64 3, .int .i64 t, .int .i64 a, .int .i64 b, .int .i64 v, .int .i64 n, .int .i64 mm, .slice P ln cp] 41)).alloc (.cells #[.int .i64 0, .int .i64 0, .int .i64 0, .int .i64 0, .int .i64 0, .int .i64 0, .int .i64 0, .int .i64 0, .int .i64 0, .int .i64 0, .int .u64 0, .slice none 0 0, .slice none 0 0] 34) = w1 := ⟨_, rfl⟩
  have bw1 : Below W.heap.size W w1 := by rw [← hw1]; exact alc (alc (alc0 _ _) _) _
  have sw1 : w1.heap.size = W.heap.size + 3 := by rw [← hw1]; simp
  have XM : Hid (BX (W.heap.size) #[.int .i64 C.pg, .int .i64 C.rg, .int .i64 C.lg, .int .i64 C.th, .int .i64 C.ca, .int .i64 C.ba, .int .i64 C.sh, .int .i64 C.re, .int .i64 C.mo, .int .i64 C.fi, .int .u64 C.ky, .slice none 0 0, .slice (some ⟨r, 0, none⟩) k kc] w1) := Lib.hid (by rw [← hw1]; exact (bx_new _ _ _).block ((alc (alc0 _ _) _).block _ (by simp)))
  have XO : Hid (BX (W.heap.size + 1) #[.int .i64 3, .int .i64 t, .int .i64 a, .int .i64 b, .int .i64 v, .int .i64 n, .int .i64 mm, .slice P ln cp] w1) := Lib.hid (by rw [← hw1]; exact (bx_at _ _ _ (by simp)).block ((alc0 _ _).block _ (by simp)))
  have XZ : Hid (BX (W.heap.size + 1 + 1) #[.int .i64 0, .int .i64 0, .int .i64 0, .int .i64 0, .int .i64 0, .int .i64 0, .int .i64 0, .int .i64 0, .int .i64 0, .int .i64 0, .int .u64 0, .slice none 0 0, .slice none 0 0] w1) := Lib.hid (by rw [← hw1]; exact bx_at _ _ _ (by simp))
  rw [hw1]
  clear hw1
  have HB := Lib.hid bw1
  clear bw1
  obtain ⟨cM0, cM1, cM2, cM3, cM4, cM5, cM6, cM7, cM8, cM9, cM10, cM11, cM12⟩ := XM.out.c13
  obtain ⟨cO0, cO1, cO2, cO3, cO4, cO5, cO6, cO7⟩ := XO.out.c8
  obtain ⟨cZ0, cZ1, cZ2, cZ3, cZ4, cZ5, cZ6, cZ7, cZ8, cZ9, cZ10, cZ11, cZ12⟩ := XZ.out.c13
  obtain ⟨fZ0, fZ1, fZ2, fZ3, fZ4, fZ5, fZ6, fZ7, fZ8, fZ9, fZ10, fZ11, fZ12⟩ := XZ.out.f13
  go_region
  obtain ⟨w2, hw2⟩ : ∃ w2, w1.drew = w2 := ⟨_, rfl⟩
  rw [hw2]
  have bw2 : Below w1.heap.size w1 w2 := by rw [← hw2]; exact (Below.refl _ w1).drew
  have sw2 : w2.heap.size = w1.heap.size := by rw [← hw2]; rfl
  clear hw2
  replace XM := Lib.hid (XM.out.block (bw2.block (W.heap.size) (by omega)))
  replace XO := Lib.hid (XO.out.block (bw2.block (W.heap.size + 1) (by omega)))
  replace XZ := Lib.hid (XZ.out.block (bw2.block (W.heap.size + 1 + 1) (by omega)))
  replace HB := Lib.hid (thn HB.out bw2)
  clear bw2
  clear cM0 cM1 cM2 cM3 cM4 cM5 cM6 cM7 cM8 cM9 cM10 cM11 cM12 cO0 cO1 cO2 cO3 cO4 cO5 cO6 cO7 cZ0 cZ1 cZ2 cZ3 cZ4 cZ5 cZ6 cZ7 cZ8 cZ9 cZ10 cZ11 cZ12 fZ0 fZ1 fZ2 fZ3 fZ4 fZ5 fZ6 fZ7 fZ8 fZ9 fZ10 fZ11 fZ12
  obtain ⟨cM0, cM1, cM2, cM3, cM4, cM5, cM6, cM7, cM8, cM9, cM10, cM11, cM12⟩ := XM.out.c13
  obtain ⟨cO0, cO1, cO2, cO3, cO4, cO5, cO6, cO7⟩ := XO.out.c8
  obtain ⟨cZ0, cZ1, cZ2, cZ3, cZ4, cZ5, cZ6, cZ7, cZ8, cZ9, cZ10, cZ11, cZ12⟩ := XZ.out.c13
  obtain ⟨fZ0, fZ1, fZ2, fZ3, fZ4, fZ5, fZ6, fZ7, fZ8, fZ9, fZ10, fZ11, fZ12⟩ := XZ.out.f13
  go_upto_region 11 with (fail)
  go_loop [11] (fun v11 => ∃ x : Int, v11 = .int .i64 x ∧ x ≤ 9223372036854775807 ∧ Hid (powB x = powB mm) ∧ Hid (x = mm ∨ 1 ≤ x)) (fun v => (intOf v).toNat)
  case atStart => exact ⟨mm, rfl, hmax, Lib.hid rfl, Lib.hid (.inl rfl)⟩
  case round =>
  obtain ⟨x, rfl, hx9, HX, HX1⟩ := hrel
  by_cases hb : 1 < x
  · by_cases he : x % 2 = 0
    · have hq : powB (x / 2) = powB mm := by rw [← HX.out, powB_half hb, he]; rfl
      have HQ := Lib.hid hq
      clear hq HX HX1
      have he2 : (x % 2 == 0) = true := by simp [he]
      go_wp2_with fail
      go_round
      case rel => exact ⟨_, rfl, by omega, HQ, Lib.hid (.inr (by omega))⟩
      case measure => simp [intOf]; omega
    · exfalso
      have := HX.out
      rw [powB_half hb, hpw] at this
      simp [he] at this
  obtain rfl : x = 1 := by
    by_cases h0 : x < 1
    · exfalso
      have := HX.out
      rw [hpw] at this
      simp [powB] at this
      omega
    · omega
  clear HX HX1 hb
  go_wp2_with fail
  refine (HA.out _).mono ?_
  rintro e w3 ⟨rfl, bw3⟩
  clear cM0 cM1 cM2 cM3 cM4 cM5 cM6 cM7 cM8 cM9 cM10 cM11 cM12 cO0 cO1 cO2 cO3 cO4 cO5 cO6 cO7 cZ0 cZ1 cZ2 cZ3 cZ4 cZ5 cZ6 cZ7 cZ8 cZ9 cZ10 cZ11 cZ12 fZ0 fZ1 fZ2 fZ3 fZ4 fZ5 fZ6 fZ7 fZ8 fZ9 fZ10 fZ11 fZ12
  have sw3 := bw3.size
  replace XM := Lib.hid (XM.out.block (bw3.block (W.heap.size) (by omega)))
  replace XO := Lib.hid (XO.out.block (bw3.block (W.heap.size + 1) (by omega)))
  replace XZ := Lib.hid (XZ.out.block (bw3.block (W.heap.size + 1 + 1) (by omega)))
  replace HB := Lib.hid (thn HB.out bw3)
  clear bw3
  obtain ⟨cM0, cM1, cM2, cM3, cM4, cM5, cM6, cM7, cM8, cM9, cM10, cM11, cM12⟩ := XM.out.c13
  obtain ⟨cO0, cO1, cO2, cO3, cO4, cO5, cO6, cO7⟩ := XO.out.c8
  obtain ⟨cZ0, cZ1, cZ2, cZ3, cZ4, cZ5, cZ6, cZ7, cZ8, cZ9, cZ10, cZ11, cZ12⟩ := XZ.out.c13
  obtain ⟨fZ0, fZ1, fZ2, fZ3, fZ4, fZ5, fZ6, fZ7, fZ8, fZ9, fZ10, fZ11, fZ12⟩ := XZ.out.f13
  go_wp2_with fail
  obtain ⟨w4, hw4⟩ : ∃ w4, w4 = sets13 w3 (W.heap.size + 1 + 1) (.int .i64 C.pg) (.int .i64 C.rg) (.int .i64 C.lg) (.int .i64 C.th) (.int .i64 C.ca) (.int .i64 C.ba) (.int .i64 C.sh) (.int .i64 C.re) (.int .i64 C.mo) (.int .i64 C.fi) (.int .u64 C.ky) (.slice none 0 0) (.slice (some ⟨r, 0, none⟩) k kc) := ⟨_, rfl⟩
  obtain ⟨sw4, kw4, lw4, XZn⟩ := XZ.out.put13s rfl hw4
  unfold sets13 at hw4
  rw [← hw4]
  clear hw4
  clear cM0 cM1 cM2 cM3 cM4 cM5 cM6 cM7 cM8 cM9 cM10 cM11 cM12 cO0 cO1 cO2 cO3 cO4 cO5 cO6 cO7 cZ0 cZ1 cZ2 cZ3 cZ4 cZ5 cZ6 cZ7 cZ8 cZ9 cZ10 cZ11 cZ12 fZ0 fZ1 fZ2 fZ3 fZ4 fZ5 fZ6 fZ7 fZ8 fZ9 fZ10 fZ11 fZ12
  replace XZ := Lib.hid XZn
  clear XZn
  replace XM := Lib.hid (XM.out.block (kw4 (W.heap.size) (by omega)))
  replace XO := Lib.hid (XO.out.block (kw4 (W.heap.size + 1) (by omega)))
  replace HB := Lib.hid (HB.out.trans (lw4 W.heap.size (by omega)))
  clear kw4 lw4
  obtain ⟨cZ0, cZ1, cZ2, cZ3, cZ4, cZ5, cZ6, cZ7, cZ8, cZ9, cZ10, cZ11, cZ12⟩ := XZ.out.c13
  refine bodyPost_ret (v := .tuple #[rmv C none 0 0 (some ⟨r, 0, none⟩) k kc, rE 13]) (by simp [results, Try.results26, go_sem, cZ0, cZ1, cZ2, cZ3, cZ4, cZ5, cZ6, cZ7, cZ8, cZ9, cZ10, cZ11, cZ12]) rfl ⟨rfl, HB.out⟩
set_option maxHeartbeats 1600000 in
theorem rmk3d (t a b v n mm : Int) (P : Option Addr) (ln cp : Nat) (full : Bool) (hmax : mm ≤ 9223372036854775807) (hm : malB mm = true) (h1 : askE C t n full = 0) (aN : Nat) (hA : a = (aN : Int)) (haN : aN < k) (hk64 : k ≤ 64) (hok : C.ok) (h : RZ r k W) : Calls Try.prog 26 #[rmv C none 0 0 (some ⟨r, 0, none⟩) k kc, opv 3 t a b v n mm P ln cp, .bool full] W (MkPost C k aN n W) := by
  have hpw : powB mm = true := by simp [malB] at hm; exact hm.1
  have hle : ¬ mm > 256 := by simp [malB] at hm; omega
  have hge : 1 ≤ mm := by simp [powB] at hpw; omega
  clear hm
  subst hA
  obtain ⟨hn1, hn2, -⟩ := askE_0 h1
  have hmo := hok.2.1
  have HMD : Hid (∀ w, Calls Try.prog 48 #[rmv C none 0 0 (some ⟨r, 0, none⟩) k kc, .int .i64 n, .int .i64 mm, .int .u8 C.fi] w (MadePost C r k kc n w)) := Lib.hid fun w => rmade n mm C.fi (by have := hok.2.2; omega) (by omega) (by omega) (by omega) (by omega)
  have HA : Hid (∀ w, Calls Try.prog 47 #[rmv C none 0 0 (some ⟨r, 0, none⟩) k kc, .int .i64 t, .int .i64 n, .bool full] w fun e w' => e = .returned (rE 0) ∧ Below w.heap.size w w') := Lib.hid fun w => by
    have := rask (C := C) (L := none) (ll := 0) (lc := 0) (R := some ⟨r, 0, none⟩) (k := k) (kc := kc) (W := w) t n full
    rwa [h1] at this
  clear h1
  have hwf := u8w hok.2.2
  have H := Lib.hid h
  clear h
  go_enter Try.func26, Try.ntmps26
  go_upto_region 1 with (fail)
  obtain ⟨w1, hw1⟩ : ∃ w1, ((W.alloc (.cells #[.int .i64 C.pg, .int .i64 C.rg, .int .i64 C.lg, .int .i64 C.th, .int .i64 C.ca, .int .i64 C.ba, .int .i64 C.sh, .int .i64 C.re, .int .i64 C.mo, .int .i64 C.fi, .int .u64 C.ky, .slice none 0 0, .slice (some ⟨r, 0, none⟩) k kc] 34)).alloc (.cells #[.int .i64 3, .int .i64 t, .int .i64 (aN : Int), .int .i64 b, .int .i64 v, .int .i64 n, .int .i64 mm, .slice P ln cp] 41)).alloc (.cells #[.int .i64 0, .int .i64 0, .int .i64 0, .int .i64 0, .int .i64 0, .int .i64 0, .int .i64 0, .int .i64 0, .int .i64 0, .int .i64 0, .int .u64 0, .slice none 0 0, .slice none 0 0] 34) = w1 := ⟨_, rfl⟩
  have bw1 : Below W.heap.size W w1 := by rw [← hw1]; exact alc (alc (alc0 _ _) _) _
  have sw1 : w1.heap.size = W.heap.size + 3 := by rw [← hw1]; simp
  have XM : Hid (BX (W.heap.size) #[.int .i64 C.pg, .int .i64 C.rg, .int .i64 C.lg, .int .i64 C.th, .int .i64 C.ca, .int .i64 C.ba, .int .i64 C.sh, .int .i64 C.re, .int .i64 C.mo, .int .i64 C.fi, .int .u64 C.ky, .slice none 0 0, .slice (some ⟨r, 0, none⟩) k kc] w1) := Lib.hid (by rw [← hw1]; exact (bx_new _ _ _).block ((alc (alc0 _ _) _).block _ (by simp)))
  have XO : Hid (BX (W.heap.size + 1) #[.int .i64 3, .int .i64 t, .int .i64 (aN : Int), .int .i64 b, .int .i64 v, .int .i64 n, .int .i64 mm, .slice P ln cp] w1) := Lib.hid (by rw [← hw1]; exact (bx_at _ _ _ (by simp)).block ((alc0 _ _).block _ (by simp)))
  have XZ : Hid (BX (W.heap.size + 1 + 1) #[.int .i64 0, .int .i64 0, .int .i64 0, .int .i64 0, .int .i64 0, .int .i64 0, .int .i64 0, .int .i64 0, .int .i64 0, .int .i64 0, .int .u64 0, .slice none 0 0, .slice none 0 0] w1) := Lib.hid (by rw [← hw1]; exact bx_at _ _ _ (by simp))
  rw [hw1]
  clear hw1
  have HB := Lib.hid bw1
  clear bw1
  obtain ⟨cM0, cM1, cM2, cM3, cM4, cM5, cM6, cM7, cM8, cM9, cM10, cM11, cM12⟩ := XM.out.c13
  obtain ⟨cO0, cO1, cO2, cO3, cO4, cO5, cO6, cO7⟩ := XO.out.c8
  obtain ⟨cZ0, cZ1, cZ2, cZ3, cZ4, cZ5, cZ6, cZ7, cZ8, cZ9, cZ10, cZ11, cZ12⟩ := XZ.out.c13
  obtain ⟨fZ0, fZ1, fZ2, fZ3, fZ4, fZ5, fZ6, fZ7, fZ8, fZ9, fZ10, fZ11, fZ12⟩ := XZ.out.f13
  go_region
  obtain ⟨w2, hw2⟩ : ∃ w2, w1.drew = w2 := ⟨_, rfl⟩
  rw [hw2]
  have bw2 : Below w1.heap.size w1 w2 := by rw [← hw2]; exact (Below.refl _ w1).drew
  have sw2 : w2.heap.size = w1.heap.size := by rw [← hw2]; rfl
  clear hw2
  replace XM := Lib.hid (XM.out.block (bw2.block (W.heap.size) (by omega)))
  replace XO := Lib.hid (XO.out.block (bw2.block (W.heap.size + 1) (by omega)))
  replace XZ := Lib.hid (XZ.out.block (bw2.block (W.heap.size + 1 + 1) (by omega)))
  replace HB := Lib.hid (thn HB.out bw2)
  clear bw2
  clear cM0 cM1 cM2 cM3 cM4 cM5 cM6 cM7 cM8 cM9 cM10 cM11 cM12 cO0 cO1 cO2 cO3 cO4 cO5 cO6 cO7 cZ0 cZ1 cZ2 cZ3 cZ4 cZ5 cZ6 cZ7 cZ8 cZ9 cZ10 cZ11 cZ12 fZ0 fZ1 fZ2 fZ3 fZ4 fZ5 fZ6 fZ7 fZ8 fZ9 fZ10 fZ11 fZ12
  obtain ⟨cM0, cM1, cM2, cM3, cM4, cM5, cM6, cM7, cM8, cM9, cM10, cM11, cM12⟩ := XM.out.c13
  obtain ⟨cO0, cO1, cO2, cO3, cO4, cO5, cO6, cO7⟩ := XO.out.c8
  obtain ⟨cZ0, cZ1, cZ2, cZ3, cZ4, cZ5, cZ6, cZ7, cZ8, cZ9, cZ10, cZ11, cZ12⟩ := XZ.out.c13
  obtain ⟨fZ0, fZ1, fZ2, fZ3, fZ4, fZ5, fZ6, fZ7, fZ8, fZ9, fZ10, fZ11, fZ12⟩ := XZ.out.f13
  go_upto_region 11 with (fail)
  go_loop [11] (fun v11 => ∃ x : Int, v11 = .int .i64 x ∧ x ≤ 9223372036854775807 ∧ Hid (powB x = powB mm) ∧ Hid (x = mm ∨ 1 ≤ x)) (fun v => (intOf v).toNat)
  case atStart => exact ⟨mm, rfl, hmax, Lib.hid rfl, Lib.hid (.inl rfl)⟩
  case round =>
  obtain ⟨x, rfl, hx9, HX, HX1⟩ := hrel
  by_cases hb : 1 < x
  · by_cases he : x % 2 = 0
    · have hq : powB (x / 2) = powB mm := by rw [← HX.out, powB_half hb, he]; rfl
      have HQ := Lib.hid hq
      clear hq HX HX1
      have he2 : (x % 2 == 0) = true := by simp [he]
      go_wp2_with fail
      go_round
      case rel => exact ⟨_, rfl, by omega, HQ, Lib.hid (.inr (by omega))⟩
      case measure => simp [intOf]; omega
    · exfalso
      have := HX.out
      rw [powB_half hb, hpw] at this
      simp [he] at this
  obtain rfl : x = 1 := by
    by_cases h0 : x < 1
    · exfalso
      have := HX.out
      rw [hpw] at this
      simp [powB] at this
      omega
    · omega
  clear HX HX1 hb
  go_wp2_with fail
  refine (HA.out _).mono ?_
  rintro e w3 ⟨rfl, bw3⟩
  clear cM0 cM1 cM2 cM3 cM4 cM5 cM6 cM7 cM8 cM9 cM10 cM11 cM12 cO0 cO1 cO2 cO3 cO4 cO5 cO6 cO7 cZ0 cZ1 cZ2 cZ3 cZ4 cZ5 cZ6 cZ7 cZ8 cZ9 cZ10 cZ11 cZ12 fZ0 fZ1 fZ2 fZ3 fZ4 fZ5 fZ6 fZ7 fZ8 fZ9 fZ10 fZ11 fZ12
  have sw3 := bw3.size
  replace XM := Lib.hid (XM.out.block (bw3.block (W.heap.size) (by omega)))
  replace XO := Lib.hid (XO.out.block (bw3.block (W.heap.size + 1) (by omega)))
  replace XZ := Lib.hid (XZ.out.block (bw3.block (W.heap.size + 1 + 1) (by omega)))
  replace HB := Lib.hid (thn HB.out bw3)
  clear bw3
  obtain ⟨cM0, cM1, cM2, cM3, cM4, cM5, cM6, cM7, cM8, cM9, cM10, cM11, cM12⟩ := XM.out.c13
  obtain ⟨cO0, cO1, cO2, cO3, cO4, cO5, cO6, cO7⟩ := XO.out.c8
  go_wp2_with fail
  refine (HMD.out _).mono ?_
  rintro e w4 ⟨lb, lcap, rfl, hl1, hl2, hl, bw4⟩
  clear cM0 cM1 cM2 cM3 cM4 cM5 cM6 cM7 cM8 cM9 cM10 cM11 cM12 cO0 cO1 cO2 cO3 cO4 cO5 cO6 cO7
  have sw4 := bw4.size
  replace XM := Lib.hid (XM.out.block (bw4.block (W.heap.size) (by omega)))
  replace XO := Lib.hid (XO.out.block (bw4.block (W.heap.size + 1) (by omega)))
  replace XZ := Lib.hid (XZ.out.block (bw4.block (W.heap.size + 1 + 1) (by omega)))
  replace HB := Lib.hid (thn HB.out bw4)
  clear bw4
  have HL := Lib.hid hl
  clear hl
  obtain ⟨cM0, cM1, cM2, cM3, cM4, cM5, cM6, cM7, cM8, cM9, cM10, cM11, cM12⟩ := XM.out.c13
  obtain ⟨cO0, cO1, cO2, cO3, cO4, cO5, cO6, cO7⟩ := XO.out.c8
  obtain ⟨fM0, fM1, fM2, fM3, fM4, fM5, fM6, fM7, fM8, fM9, fM10, fM11, fM12⟩ := XM.out.f13
  have hlt9 : W.heap.size < w4.heap.size := by omega
  go_upto_region 20 with (fail)
  obtain ⟨w5, hw5⟩ : ∃ w5, w5 = sets13 w4 (W.heap.size) (.int .i64 C.pg) (.int .i64 C.rg) (.int .i64 C.lg) (.int .i64 C.th) (.int .i64 C.ca) (.int .i64 C.ba) (.int .i64 C.sh) (.int .i64 C.re) (.int .i64 C.mo) (.int .i64 C.fi) (.int .u64 C.ky) (.slice (some ⟨lb, 0, none⟩) 1 lcap) (.slice (some ⟨r, 0, none⟩) k kc) := ⟨_, rfl⟩
  obtain ⟨sw5, kw5, lw5, XMn⟩ := XM.out.put13s rfl hw5
  unfold sets13 at hw5
  rw [← hw5]
  clear hw5
  clear cM0 cM1 cM2 cM3 cM4 cM5 cM6 cM7 cM8 cM9 cM10 cM11 cM12 cO0 cO1 cO2 cO3 cO4 cO5 cO6 cO7 fM0 fM1 fM2 fM3 fM4 fM5 fM6 fM7 fM8 fM9 fM10 fM11 fM12
  replace XM := Lib.hid XMn
  clear XMn
  replace XO := Lib.hid (XO.out.block (kw5 (W.heap.size + 1) (by omega)))
  replace XZ := Lib.hid (XZ.out.block (kw5 (W.heap.size + 1 + 1) (by omega)))
  replace HL := Lib.hid ((World.cell?_of_block (kw5 (lb) (by omega))).trans HL.out)
  replace HB := Lib.hid (HB.out.trans (lw5 W.heap.size (by omega)))
  clear kw5 lw5
  obtain ⟨w6, hw6⟩ : ∃ w6, w5.alloc (.cells #[.int .i64 1, .int .i64 0, .int .i64 n, .int .i64 0, .int .i64 31] 54) = w6 := ⟨_, rfl⟩
  have bw6 : Below w5.heap.size w5 w6 := by rw [← hw6]; exact alc0 _ _
  have sw6 : w6.heap.size = w5.heap.size + 1 := by rw [← hw6]; simp
  have XY : Hid (BX (w4.heap.size) #[.int .i64 1, .int .i64 0, .int .i64 n, .int .i64 0, .int .i64 31] w6) := Lib.hid (by rw [← hw6]; exact bx_at _ _ _ (by omega))
  rw [hw6]
  clear hw6
  replace XM := Lib.hid (XM.out.block (bw6.block (W.heap.size) (by omega)))
  replace XO := Lib.hid (XO.out.block (bw6.block (W.heap.size + 1) (by omega)))
  replace XZ := Lib.hid (XZ.out.block (bw6.block (W.heap.size + 1 + 1) (by omega)))
  replace HL := Lib.hid ((World.cell?_of_block (bw6.block (lb) (by omega))).trans HL.out)
  replace HB := Lib.hid (thn HB.out bw6)
  clear bw6
  obtain ⟨cM0, cM1, cM2, cM3, cM4, cM5, cM6, cM7, cM8, cM9, cM10, cM11, cM12⟩ := XM.out.c13
  obtain ⟨cO0, cO1, cO2, cO3, cO4, cO5, cO6, cO7⟩ := XO.out.c8
  obtain ⟨cY0, cY1, cY2, cY3, cY4⟩ := XY.out.c5
  go_wp2_with fail
  refine (rset (r := r) (kc := kc) (L := some ⟨lb, 0, none⟩) (ll := 1) (lc := lcap) aN 1 0 n 0 31 haN hk64 (H.out.below HB.out)).mono ?_
  rintro e w7 ⟨g, cap, rfl, hq, hg1, hg2, bw7⟩
  clear cM0 cM1 cM2 cM3 cM4 cM5 cM6 cM7 cM8 cM9 cM10 cM11 cM12 cO0 cO1 cO2 cO3 cO4 cO5 cO6 cO7 cY0 cY1 cY2 cY3 cY4
  have sw7 := bw7.size
  replace XM := Lib.hid (XM.out.block (bw7.block (W.heap.size) (by omega)))
  replace XO := Lib.hid (XO.out.block (bw7.block (W.heap.size + 1) (by omega)))
  replace XZ := Lib.hid (XZ.out.block (bw7.block (W.heap.size + 1 + 1) (by omega)))
  replace XY := Lib.hid (XY.out.block (bw7.block (w4.heap.size) (by omega)))
  replace HL := Lib.hid ((World.cell?_of_block (bw7.block (lb) (by omega))).trans HL.out)
  replace HB := Lib.hid (thn HB.out bw7)
  clear bw7
  have HQ := Lib.hid hq
  clear hq
  obtain ⟨cZ0, cZ1, cZ2, cZ3, cZ4, cZ5, cZ6, cZ7, cZ8, cZ9, cZ10, cZ11, cZ12⟩ := XZ.out.c13
  obtain ⟨fZ0, fZ1, fZ2, fZ3, fZ4, fZ5, fZ6, fZ7, fZ8, fZ9, fZ10, fZ11, fZ12⟩ := XZ.out.f13
  go_wp2_with fail
  obtain ⟨wz, hwz⟩ : ∃ wz, wz = sets13 w7 (W.heap.size + 1 + 1) (.int .i64 C.pg) (.int .i64 C.rg) (.int .i64 C.lg) (.int .i64 C.th) (.int .i64 C.ca) (.int .i64 C.ba) (.int .i64 C.sh) (.int .i64 C.re) (.int .i64 C.mo) (.int .i64 C.fi) (.int .u64 C.ky) (.slice (some ⟨lb, 0, none⟩) 1 lcap) (.slice (some ⟨g, 0, none⟩) k cap) := ⟨_, rfl⟩
  obtain ⟨swz, kwz, lwz, XZn⟩ := XZ.out.put13s rfl hwz
  unfold sets13 at hwz
  rw [← hwz]
  clear hwz
  clear cZ0 cZ1 cZ2 cZ3 cZ4 cZ5 cZ6 cZ7 cZ8 cZ9 cZ10 cZ11 cZ12 fZ0 fZ1 fZ2 fZ3 fZ4 fZ5 fZ6 fZ7 fZ8 fZ9 fZ10 fZ11 fZ12
  replace XZ := Lib.hid XZn
  clear XZn
  replace XM := Lib.hid (XM.out.block (kwz (W.heap.size) (by omega)))
  replace XO := Lib.hid (XO.out.block (kwz (W.heap.size + 1) (by omega)))
  replace XY := Lib.hid (XY.out.block (kwz (w4.heap.size) (by omega)))
  replace HL := Lib.hid ((World.cell?_of_block (kwz (lb) (by omega))).trans HL.out)
  replace HB := Lib.hid (HB.out.trans (lwz W.heap.size (by omega)))
  replace HQ := Lib.hid (HQ.out.keep (kwz g (by omega)))
  clear kwz lwz
  obtain ⟨cZ0, cZ1, cZ2, cZ3, cZ4, cZ5, cZ6, cZ7, cZ8, cZ9, cZ10, cZ11, cZ12⟩ := XZ.out.c13
  refine bodyPost_ret (v := .tuple #[rmv C (some ⟨lb, 0, none⟩) 1 lcap (some ⟨g, 0, none⟩) k cap, rE 0]) (by simp [results, Try.results26, go_sem, cZ0, cZ1, cZ2, cZ3, cZ4, cZ5, cZ6, cZ7, cZ8, cZ9, cZ10, cZ11, cZ12]) rfl ⟨lb, lcap, g, cap, rfl, HQ.out, by omega, by omega, by omega, by omega, HL.out, HB.out⟩
end
end Go.Proofs.Ytanmmhbnjmglhaa
