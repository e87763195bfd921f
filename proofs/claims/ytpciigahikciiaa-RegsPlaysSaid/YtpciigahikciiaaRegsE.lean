/- awake of package regs' laws. -/
import Derived.Test.YtpciigahikciiaaRegsD
namespace Go.Proofs.Ytpciigahikciiaa
open Go.RowKit
set_option linter.unusedVariables false
set_option linter.unusedSimpArgs false

def V1 : Nat → Value := putV zeroV 1 #[.int .i64 32, .int .i64 16, .int .i64 32, .int .i64 31, .int .i64 3, .bool true]
theorem zeroV_one (i : Nat) : (zeroV i).oneCell' = true := by
  unfold zeroV
  have hr : i % 6 = 0 ∨ i % 6 = 1 ∨ i % 6 = 2 ∨ i % 6 = 3 ∨ i % 6 = 4 ∨ i % 6 = 5 := by omega
  rcases hr with r | r | r | r | r | r <;> rw [r] <;> rfl
theorem V1_one (i : Nat) : (V1 i).oneCell' = true := by
  unfold V1 putV
  split
  · have hr : i % 6 = 0 ∨ i % 6 = 1 ∨ i % 6 = 2 ∨ i % 6 = 3 ∨ i % 6 = 4 ∨ i % 6 = 5 := by omega
    rcases hr with r | r | r | r | r | r <;> rw [r] <;> rfl
  · exact zeroV_one i
set_option maxHeartbeats 1600000 in
theorem rcount2 (p g : Nat) (W : World) (H : RegAt p g 2 W V1) :
    Calls Try.prog 16 #[.pointer (some ⟨p, 0, none⟩)] W fun e w' => e = .returned (.int .i64 1) ∧ Below W.heap.size W w' := by
  have HH := Lib.hid H
  clear H
  go_enter Try.func16, Try.ntmps16
  go_wp2_with fail
  refine (rlist p g 2 _ V1 HH.out V1_one).mono ?_
  rintro e w' ⟨g2, cap, rfl, hc, hk, hb⟩
  have c0 : w'.cell? ⟨g2, 0, none⟩ = some (.int .i64 0) := (hc 0 (by omega)).trans rfl
  have c1 : w'.cell? ⟨g2, 1, none⟩ = some (.int .i64 0) := (hc 1 (by omega)).trans rfl
  have c2 : w'.cell? ⟨g2, 2, none⟩ = some (.int .i64 0) := (hc 2 (by omega)).trans rfl
  have c3 : w'.cell? ⟨g2, 3, none⟩ = some (.int .i64 0) := (hc 3 (by omega)).trans rfl
  have c4 : w'.cell? ⟨g2, 4, none⟩ = some (.int .i64 0) := (hc 4 (by omega)).trans rfl
  have c5 : w'.cell? ⟨g2, 5, none⟩ = some (.bool false) := (hc 5 (by omega)).trans rfl
  have c6 : w'.cell? ⟨g2, 6, none⟩ = some (.int .i64 32) := (hc 6 (by omega)).trans rfl
  have c7 : w'.cell? ⟨g2, 7, none⟩ = some (.int .i64 16) := (hc 7 (by omega)).trans rfl
  have c8 : w'.cell? ⟨g2, 8, none⟩ = some (.int .i64 32) := (hc 8 (by omega)).trans rfl
  have c9 : w'.cell? ⟨g2, 9, none⟩ = some (.int .i64 31) := (hc 9 (by omega)).trans rfl
  have c10 : w'.cell? ⟨g2, 10, none⟩ = some (.int .i64 3) := (hc 10 (by omega)).trans rfl
  have c11 : w'.cell? ⟨g2, 11, none⟩ = some (.bool true) := (hc 11 (by omega)).trans rfl
  have HB := Lib.hid hb
  have hg2 : g2 < w'.heap.size := World.block_lt_of_cell? w' _ c0
  clear hc hb
  go_wp2_with fail
  refine Go.wp_loop_rounds 3 ?_
  rw [rounds_succ]
  go_wp2_with fail
  rw [rounds_succ]
  go_wp2_with fail
  rw [rounds_succ]
  go_wp2_with fail
  go_ret
  exact ⟨rfl, alc (alc HB.out _) _⟩
set_option maxHeartbeats 1600000 in
theorem r15awake (w : World) :
    Calls Try.prog 15 #[] w fun e w' => e = .returned (.bool true) ∧ Below w.heap.size w w' := by
  have hm : capMayB 32 16 32 31 3 true = true := by decide
  have HM := Lib.hid hm
  clear hm
  go_enter Try.func15, Try.ntmps15
  go_wp2_with fail
  refine (rnew 2 2 (by decide) _).mono ?_
  rintro e w1 ⟨p, g, rfl, hr, hb, hp, hg⟩
  go_upto_region 3 with (fail)
  have HX := Lib.hid (CapAt.new w1 32 16 32 31 3 true 28)
  have HR := Lib.hid (hr.below (alc0 w1 (.cells #[.int .i64 32, .int .i64 16, .int .i64 32, .int .i64 31, .int .i64 3, .bool true] 28)))
  have HB := Lib.hid (alc hb (.cells #[.int .i64 32, .int .i64 16, .int .i64 32, .int .i64 31, .int .i64 3, .bool true] 28))
  have hgx : g < w1.heap.size := hr.2.1
  obtain ⟨w2, hw⟩ : ∃ w2, w1.alloc (.cells #[.int .i64 32, .int .i64 16, .int .i64 32, .int .i64 31, .int .i64 3, .bool true] 28) = w2 := ⟨_, rfl⟩
  obtain ⟨x, hx⟩ : ∃ x, w1.heap.size = x := ⟨_, rfl⟩
  rw [hw] at HX HR HB ⊢
  rw [hx] at HX hgx ⊢
  clear hw hx hr hb
  obtain ⟨_, k0, k1, k2, k3, k4, k5, kf⟩ := HX.out
  go_wp2_with fail
  refine (rput_in p g 2 1 32 16 32 31 3 true _ zeroV HR.out (by omega) HM.out).mono ?_
  rintro e w3 ⟨rfl, hr, hkp⟩
  have HR3 : Hid (RegAt p g 2 w3 V1) := Lib.hid hr
  have HX3 := Lib.hid (HX.out.keep hkp.1.size (hkp.2 x HX.out.1 (by omega)))
  have HB3 := Lib.hid (HB.out.trans (hkp.1.mono hg))
  clear hr hkp k0 k1 k2 k3 k4 k5 kf HR HX HB
  go_wp2_with fail
  refine (rget_in p g 2 1 _ V1 HR3.out (by omega) 32 16 32 31 3 true rfl rfl rfl rfl rfl rfl).mono ?_
  rintro e w4 ⟨rfl, hb⟩
  have HR4 := Lib.hid (HR3.out.below hb)
  have HX4 := Lib.hid (HX3.out.below hb)
  have HB4 := Lib.hid (thn HB3.out hb)
  clear hb HR3 HX3 HB3
  go_upto_region 5 with (fail)
  have HY5 := Lib.hid (CapAt.new w4 32 16 32 31 3 true 28)
  have HR5 := Lib.hid (HR4.out.below (alc0 w4 (.cells #[.int .i64 32, .int .i64 16, .int .i64 32, .int .i64 31, .int .i64 3, .bool true] 28)))
  have HX5 := Lib.hid (HX4.out.below (alc0 w4 (.cells #[.int .i64 32, .int .i64 16, .int .i64 32, .int .i64 31, .int .i64 3, .bool true] 28)))
  have HB5 := Lib.hid (alc HB4.out (.cells #[.int .i64 32, .int .i64 16, .int .i64 32, .int .i64 31, .int .i64 3, .bool true] 28))
  obtain ⟨w5, hw⟩ : ∃ w5, w4.alloc (.cells #[.int .i64 32, .int .i64 16, .int .i64 32, .int .i64 31, .int .i64 3, .bool true] 28) = w5 := ⟨_, rfl⟩
  rw [hw] at HY5 HR5 HX5 HB5 ⊢
  clear hw HR4 HX4 HB4
  obtain ⟨_, k0, k1, k2, k3, k4, k5, kf⟩ := HX5.out
  obtain ⟨_, j0, j1, j2, j3, j4, j5, jf⟩ := HY5.out
  go_wp2_with fail
  refine (rcount2 p g _ HR5.out).mono ?_
  rintro e w6 ⟨rfl, hb⟩
  have HR6 := Lib.hid (HR5.out.below hb)
  have HB6 := Lib.hid (thn HB5.out hb)
  clear hb HR5 HB5 k0 k1 k2 k3 k4 k5 kf j0 j1 j2 j3 j4 j5 jf
  go_wp2_with fail
  refine (rclear_yes p g 2 1 _ V1 HR6.out (by omega) rfl).mono ?_
  rintro e w7 ⟨rfl, hr, hkp⟩
  have HR7 := Lib.hid hr
  have HB7 := Lib.hid (HB6.out.trans (hkp.1.mono hg))
  clear hr hkp HR6 HB6
  go_wp2_with fail
  refine (rclear_no p g 2 1 _ _ HR7.out (by omega) rfl).mono ?_
  rintro e w8 ⟨rfl, rfl⟩
  go_wp2
  go_ret
  exact ⟨ret_bool (by simp), HB7.out⟩
end Go.Proofs.Ytpciigahikciiaa
