/- The walk of MixTurns. -/
import Derived.Test.YtlajhhecipabaaaMix
namespace Go.Proofs.Ytlajhhecipabaaa
open Go.RowKit
set_option linter.unusedVariables false

theorem turn_int (h x : Int) (w : World) (h0 : 0 ≤ h) (h1 : h < 18446744073709551616) (x0 : 0 ≤ x) (x1 : x < 18446744073709551616) :
    Calls Try.prog 41 #[.int .u64 h, .int .u64 x] w fun e w' => e = .returned (.int .u64 (turnN h.toNat x.toNat)) ∧ w = w' := by
  obtain ⟨n, rfl⟩ := Int.eq_ofNat_of_zero_le h0
  obtain ⟨m, rfl⟩ := Int.eq_ofNat_of_zero_le x0
  exact turn_any n m w (by omega) (by omega)
theorem rturn_int (h x : Int) (w : World) (h0 : 0 ≤ h) (h1 : h < 18446744073709551616) (x0 : 0 ≤ x) (x1 : x < 18446744073709551616) :
    Calls Try.prog 42 #[.int .u64 h, .int .u64 x] w fun e w' => e = .returned (.int .u64 (turnN h.toNat x.toNat)) ∧ w = w' := by
  obtain ⟨n, rfl⟩ := Int.eq_ofNat_of_zero_le h0
  obtain ⟨m, rfl⟩ := Int.eq_ofNat_of_zero_le x0
  exact rturn_any n m w (by omega) (by omega)
theorem wrapU (n : Int) : 0 ≤ IntKind.u64.wrap n ∧ IntKind.u64.wrap n < 18446744073709551616 := by rw [IntKind.wrap_u64]; omega

theorem sum_nil0 (w : World) :
    Calls Try.prog 43 #[.int .u64 0, .int .i64 0, .slice none 0 0] w fun e w' => e = .returned (.int .u16 0) ∧ w = w' := by
  have e1 : turnN 0 0 = 0 := by decide +kernel
  have e2 : bits .xor .u16 0 0 = 0 := by decide +kernel
  go_enter Try.func43, Try.ntmps43
  go_wp2_with fail
  refine (turn_int _ _ _ (by decide) (by decide) (by decide) (by decide)).mono ?_
  rintro e w' ⟨rfl, rfl⟩
  rw [show turnN (Int.toNat 0) (Int.toNat 0) = 0 from e1]
  go_wp2_with fail
  go_loop [7, 16] (fun h i => h = .int .u64 0 ∧ i = .int .i64 0) (fun _ _ => 0)
  case atStart => exact ⟨rfl, rfl⟩
  case round =>
    obtain ⟨rfl, rfl⟩ := hrel
    go_wp2
    go_ret
    exact ⟨rfl, rfl⟩

theorem mawake_any (w : World) :
    Calls Try.prog 40 #[] w fun e w' => e = .returned (.bool true) ∧ w = w' := by
  go_enter Try.func40, Try.ntmps40
  go_wp2_with fail
  refine (turn_int _ _ _ (by decide) (by decide) (by decide) (by decide)).mono ?_
  rintro e w' ⟨rfl, rfl⟩
  rw [show turnN (Int.toNat 0) (Int.toNat 0) = 0 by decide +kernel]
  go_wp2_with fail
  refine (turn_int _ _ _ (by decide) (by decide) (by decide) (by decide)).mono ?_
  rintro e w' ⟨rfl, rfl⟩
  rw [show turnN (Int.toNat 1) (Int.toNat 0) = 3452378012136697655 by decide +kernel]
  go_wp2_with fail
  refine (sum_nil0 _).mono ?_
  rintro e w' ⟨rfl, rfl⟩
  go_wp2
  go_ret
  exact ⟨rfl, rfl⟩

theorem walkMixTurns (a0 : Int) (a1 : Int) (a2 : Int) (w : World) (w0 : (Lit.int .u64 a0).wf = true) (w1 : (Lit.int .u64 a1).wf = true) (w2 : (Lit.int .u64 a2).wf = true) :
    Calls Try.prog 10 #[.int .u64 a0, .int .u64 a1, .int .u64 a2] w fun e w' => e = .returned (.bool true) ∧ Below w.heap.size w w' := by
  have b0 := bounds_u64 w0
  have b1 := bounds_u64 w1
  have b2 := bounds_u64 w2
  clear w0 w1 w2
  obtain ⟨h, rfl⟩ := Int.eq_ofNat_of_zero_le b0.1
  obtain ⟨x, rfl⟩ := Int.eq_ofNat_of_zero_le b1.1
  obtain ⟨y, rfl⟩ := Int.eq_ofNat_of_zero_le b2.1
  have c0 : h < 18446744073709551616 := by omega
  have c1 : x < 18446744073709551616 := by omega
  have c2 : y < 18446744073709551616 := by omega
  clear b0 b1 b2
  have inj : (((turnN h x : Nat) : Int) == ((turnN h y : Nat) : Int)) = ((x : Int) == (y : Int)) := by
    rw [Bool.eq_iff_iff, beq_iff_eq, beq_iff_eq]
    constructor
    · intro e
      have := turnN_inj c0 c1 c2 (by omega)
      omega
    · intro e
      have : x = y := by omega
      rw [this]
  have HI := Lib.hid inj; clear inj
  go_enter Try.func10, Try.ntmps10
  go_wp2_with (first | (go_at_call 40; refine (mawake_any _).mono ?_; rintro e w' ⟨rfl, rfl⟩) | (go_at_call 41; refine (turn_any _ _ _ (by assumption) (by assumption)).mono ?_; rintro e w' ⟨rfl, rfl⟩) | (go_at_call 42; refine (rturn_any _ _ _ (by assumption) (by assumption)).mono ?_; rintro e w' ⟨rfl, rfl⟩))
  go_ret
  exact ⟨ret_bool (by rw [HI.out]; simp), Below.refl _ _⟩
end Go.Proofs.Ytlajhhecipabaaa
