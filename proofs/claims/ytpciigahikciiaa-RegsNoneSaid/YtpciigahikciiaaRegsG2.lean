/- Part of the walk of RegsNone. -/
import Derived.Test.YtpciigahikciiaaRegsF
namespace Go.Proofs.Ytpciigahikciiaa
open Go.RowKit
set_option linter.unusedVariables false
set_option linter.unusedSimpArgs false

set_option maxRecDepth 8000 in
set_option maxHeartbeats 8000000 in
theorem rnBfalse (k : Nat) (hk1 : ¬ (k : Int) < 0) (hk2 : ¬ (64 : Int) < (k : Int)) (H : Nat) (hH : H < k) (hin1 : (H : Int) < (k : Int)) (b l c q t : Int) (v : Bool) (w : World) (hm : capMayB b l c q t v = false) :
    Calls Try.prog 4 #[.int .i64 (k : Int), .int .i64 (H : Int), .agg #[.int .i64 b, .int .i64 l, .int .i64 c, .int .i64 q, .int .i64 t, .bool v]] w fun e w' => e = .returned (.bool true) ∧ Below w.heap.size w w' := by
  have HK : Hid ((k : Int) = min (max (k : Int) 0) 64) := Lib.hid (by omega)
  have hin0 : (0 : Int) ≤ (H : Int) := by omega
  have HM := Lib.hid hm
  clear hm
  go_enter Try.func4, Try.ntmps4
  go_wp2_with fail
  refine (rnew (k : Int) k HK.out _).mono ?_
  rintro e w1 ⟨p, g, rfl, hr, hb, hp, hg⟩
  have HX1 := Lib.hid ((CapAt.new w b l c q t v 28).below hb)
  have HR1 := Lib.hid hr
  have HB1 := Lib.hid (thn (alc0 w (.cells #[.int .i64 b, .int .i64 l, .int .i64 c, .int .i64 q, .int .i64 t, .bool v] 28)) hb)
  obtain ⟨x, hx⟩ : ∃ x, w.heap.size = x := ⟨_, rfl⟩
  have hxg : x < g := by have : (w.alloc (.cells #[.int .i64 b, .int .i64 l, .int .i64 c, .int .i64 q, .int .i64 t, .bool v] 28)).heap.size ≤ g := hg; simp at this; omega
  have hwg : w.heap.size ≤ g := by omega
  have HXE := Lib.hid hx
  simp only [hx] at HX1 ⊢
  clear hr hb hp hg hx
  go_wp2_with fail
  refine (nget_any _ _).mono ?_
  rintro e w2 ⟨rfl, hb⟩
  have HX2 := Lib.hid (HX1.out.below hb)
  have HR2 := Lib.hid (HR1.out.below hb)
  have HB2 := Lib.hid (thn HB1.out hb)
  clear hb HX1 HR1 HB1
  go_upto_region 4 with (fail)
  have HX3 := Lib.hid (HX2.out.below (alc0 w2 (.cells #[.int .i64 0, .int .i64 0, .int .i64 0, .int .i64 0, .int .i64 0, .bool false] 28)))
  have HR3 := Lib.hid (HR2.out.below (alc0 w2 (.cells #[.int .i64 0, .int .i64 0, .int .i64 0, .int .i64 0, .int .i64 0, .bool false] 28)))
  have HB3 := Lib.hid (alc HB2.out (.cells #[.int .i64 0, .int .i64 0, .int .i64 0, .int .i64 0, .int .i64 0, .bool false] 28))
  obtain ⟨w3, hw⟩ : ∃ w3, w2.alloc (.cells #[.int .i64 0, .int .i64 0, .int .i64 0, .int .i64 0, .int .i64 0, .bool false] 28) = w3 := ⟨_, rfl⟩
  rw [hw] at HX3 HR3 HB3 ⊢
  clear hw HX2 HR2 HB2
  obtain ⟨_, k0, k1, k2, k3, k4, k5, kf⟩ := HX3.out
  go_wp2_with fail
  refine (rget_in p g k H _ zeroV HR3.out hH 0 0 0 0 0 false (zv H 0 (by omega)) (zv H 1 (by omega)) (zv H 2 (by omega)) (zv H 3 (by omega)) (zv H 4 (by omega)) (zv H 5 (by omega))).mono ?_
  rintro e w4 ⟨rfl, hb⟩
  have HR4 := Lib.hid (HR3.out.below hb)
  have HX4 := Lib.hid (HX3.out.below hb)
  have HB4 := Lib.hid (thn HB3.out hb)
  clear hb HR3 HX3 HB3 k0 k1 k2 k3 k4 k5 kf
  have t1 : ¬ (k : Int) < 0 := by omega
  have t2 : ¬ (64 : Int) < (k : Int) := by omega
  go_upto_region 5 with (fail)
  have HR5 := Lib.hid (HR4.out.below (alc0 w4 (.cells #[.int .i64 0, .int .i64 0, .int .i64 0, .int .i64 0, .int .i64 0, .bool false] 28)))
  have HX5 := Lib.hid (HX4.out.below (alc0 w4 (.cells #[.int .i64 0, .int .i64 0, .int .i64 0, .int .i64 0, .int .i64 0, .bool false] 28)))
  have HB5 := Lib.hid (alc HB4.out (.cells #[.int .i64 0, .int .i64 0, .int .i64 0, .int .i64 0, .int .i64 0, .bool false] 28))
  obtain ⟨w5, hw⟩ : ∃ w5, w4.alloc (.cells #[.int .i64 0, .int .i64 0, .int .i64 0, .int .i64 0, .int .i64 0, .bool false] 28) = w5 := ⟨_, rfl⟩
  rw [hw] at HR5 HX5 HB5 ⊢
  clear hw HR4 HX4 HB4
  obtain ⟨_, k0, k1, k2, k3, k4, k5, kf⟩ := HX5.out
  go_wp2_with fail
  refine (rput_bad p g k H _ _ _ _ _ _ _ zeroV HR5.out hH HM.out).mono ?_
  rintro e w6 ⟨rfl, hb⟩
  have HRF := Lib.hid (HR5.out.below hb)
  have HXF := Lib.hid (HX5.out.below hb)
  have HBF := Lib.hid (thn HB5.out hb)
  clear hb HR5 HX5 HB5 k0 k1 k2 k3 k4 k5 kf
  obtain ⟨V, hV⟩ : ∃ V, zeroV = V := ⟨_, rfl⟩
  rw [hV] at HRF
  clear hV
  go_upto_region 7 with (fail)
  go_wp2_with fail
  refine (r15awake _).mono ?_
  rintro e w7 ⟨rfl, hb⟩
  have HR7 := Lib.hid (HRF.out.below hb)
  have HX7 := Lib.hid (HXF.out.below hb)
  have HB7 := Lib.hid (thn HBF.out hb)
  clear hb HRF HXF HBF
  have t1 : ¬ (k : Int) < 0 := by omega
  have t2 : ¬ (64 : Int) < (k : Int) := by omega
  go_wp2_with fail
  refine (rlen_any p g k _ V HR7.out).mono ?_
  rintro e w8 ⟨rfl, rfl⟩
  obtain ⟨_, k0, k1, k2, k3, k4, k5, kf⟩ := HX7.out
  go_wp2_with fail
  refine (rmay_is false _ _ _ _ _ _ _ HM.out).mono ?_
  rintro e w8 ⟨rfl, hb⟩
  have HB8 := Lib.hid (thn HB7.out hb)
  clear hb k0 k1 k2 k3 k4 k5 kf
  clear HX7 HR7 HB7
  have hu : (some undef : Option Value) = some (Value.tuple #[]) := rfl
  go_wp2_with fail
  refine (nput_any _ _ _ _ _ _ _ _).mono ?_
  rintro e w9 ⟨rfl, hb⟩
  have HB9 := Lib.hid (thn HB8.out hb)
  clear hb HB8
  go_wp2_with fail
  refine (nclear_any _ _).mono ?_
  rintro e w10 ⟨rfl, rfl⟩
  go_wp2_with fail
  refine (nlen_any _).mono ?_
  rintro e w10 ⟨rfl, rfl⟩
  go_wp2_with fail
  refine (ncount_any _).mono ?_
  rintro e w10 ⟨rfl, rfl⟩
  go_wp2_with fail
  refine (nlist_any _).mono ?_
  rintro e w10 ⟨rfl, rfl⟩
  go_wp2_with fail
  refine (nmeets_any _ _ _).mono ?_
  rintro e w10 ⟨rfl, hb⟩
  have HB10 := Lib.hid (thn HB9.out hb)
  clear hb HB9
  go_wp2
  go_ret
  exact ⟨ret_bool (by simp), HB10.out⟩
end Go.Proofs.Ytpciigahikciiaa
