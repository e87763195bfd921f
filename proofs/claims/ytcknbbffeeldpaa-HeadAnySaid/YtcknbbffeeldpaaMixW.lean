/- Turns of any numbers. -/
import Derived.Test.YtcknbbffeeldpaaMix
namespace Go.Proofs.Ytcknbbffeeldpaa
open Go.RowKit
set_option linter.unusedVariables false

theorem turn_int (h x : Int) (w : World) (h0 : 0 ≤ h) (h1 : h < 18446744073709551616) (x0 : 0 ≤ x) (x1 : x < 18446744073709551616) :
    Calls Try.prog 49 #[.int .u64 h, .int .u64 x] w fun e w' => e = .returned (.int .u64 (turnN h.toNat x.toNat)) ∧ w = w' := by
  obtain ⟨n, rfl⟩ := Int.eq_ofNat_of_zero_le h0
  obtain ⟨m, rfl⟩ := Int.eq_ofNat_of_zero_le x0
  exact turn_any n m w (by omega) (by omega)
theorem rturn_int (h x : Int) (w : World) (h0 : 0 ≤ h) (h1 : h < 18446744073709551616) (x0 : 0 ≤ x) (x1 : x < 18446744073709551616) :
    Calls Try.prog 45 #[.int .u64 h, .int .u64 x] w fun e w' => e = .returned (.int .u64 (turnN h.toNat x.toNat)) ∧ w = w' := by
  obtain ⟨n, rfl⟩ := Int.eq_ofNat_of_zero_le h0
  obtain ⟨m, rfl⟩ := Int.eq_ofNat_of_zero_le x0
  exact rturn_any n m w (by omega) (by omega)
theorem wrapU (n : Int) : 0 ≤ IntKind.u64.wrap n ∧ IntKind.u64.wrap n < 18446744073709551616 := by rw [IntKind.wrap_u64]; omega

end Go.Proofs.Ytcknbbffeeldpaa
