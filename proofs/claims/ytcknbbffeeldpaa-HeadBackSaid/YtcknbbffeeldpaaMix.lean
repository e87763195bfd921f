/- Contracts of package mix. -/
import Derived.Test.YtcknbbffeeldpaaRows
import Derived.Test.YtcknbbffeeldpaaInt
import Derived.Test.YtcknbbffeeldpaaMixN
import Derived.WalkKit
import Derived.ProofKit
import Derived.OpenShut
import Derived.WalkLawsBesides
import Derived.WalkSpells
import Derived.Lib.Hide
namespace Go.Proofs.Ytcknbbffeeldpaa
open Go.RowKit

theorem rot_any (x : Nat) (w : World) (hx : x < 18446744073709551616) :
    Calls Try.prog 50 #[.int .u64 x, .int .i64 29] w fun e w' => e = .returned (.int .u64 (rotN x)) ∧ w = w' := by
  have e1 : bits .and .u64 29 63 = 29 := by decide +kernel
  have hr : bits .or .u64 (IntKind.u64.wrap ((x : Int) * 536870912)) ((x : Int) / 34359738368) = (rotN x : Int) := by
    have h1 : IntKind.u64.wrap ((x : Int) * 536870912) = ((x * 536870912 % 18446744073709551616 : Nat) : Int) := by rw [IntKind.wrap_u64]; omega
    have h2 : (x : Int) / 34359738368 = ((x / 34359738368 : Nat) : Int) := by omega
    rw [h1, h2, bits_or_u64_nat _ _ (by omega) (by omega), rotN_or hx]
  have HR := Lib.hid hr; clear hr
  go_enter Try.func50, Try.ntmps50
  go_wp2
  go_ret
  exact ⟨ret_int HR.out, rfl⟩

theorem turn_any (h x : Nat) (w : World) (hh : h < 18446744073709551616) (hx : x < 18446744073709551616) :
    Calls Try.prog 49 #[.int .u64 h, .int .u64 x] w fun e w' => e = .returned (.int .u64 (turnN h x)) ∧ w = w' := by
  have hr : IntKind.u64.wrap (bits .xor .u64 (h : Int) (x : Int) * 11400714819323198485) = (((h ^^^ x) * 11400714819323198485 % 18446744073709551616 : Nat) : Int) := by
    rw [bits_xor_u64_nat _ _ hh hx, IntKind.wrap_u64]
    simp
  have HR := Lib.hid hr; clear hr
  go_enter Try.func49, Try.ntmps49
  go_wp2_with fail
  rw [HR.out]
  refine (rot_any _ _ (Nat.mod_lt _ (by decide))).mono ?_
  rintro e w' ⟨rfl, rfl⟩
  go_wp2
  go_ret
  exact ⟨ret_int (by unfold turnN; rfl), rfl⟩

theorem rturn_any (h x : Nat) (w : World) (hh : h < 18446744073709551616) (hx : x < 18446744073709551616) :
    Calls Try.prog 45 #[.int .u64 h, .int .u64 x] w fun e w' => e = .returned (.int .u64 (turnN h x)) ∧ w = w' := by
  have hr : IntKind.u64.wrap (bits .xor .u64 (h : Int) (x : Int) * 11400714819323198485) = (((h ^^^ x) * 11400714819323198485 % 18446744073709551616 : Nat) : Int) := by
    rw [bits_xor_u64_nat _ _ hh hx, IntKind.wrap_u64]
    simp
  have hr2 : ∀ y : Nat, y < 18446744073709551616 → bits .or .u64 (IntKind.u64.wrap ((y : Int) * 536870912)) ((y : Int) / 34359738368) = (rotN y : Int) := by
    intro x hx
    have h1 : IntKind.u64.wrap ((x : Int) * 536870912) = ((x * 536870912 % 18446744073709551616 : Nat) : Int) := by rw [IntKind.wrap_u64]; omega
    have h2 : (x : Int) / 34359738368 = ((x / 34359738368 : Nat) : Int) := by omega
    rw [h1, h2, bits_or_u64_nat _ _ (by omega) (by omega), rotN_or hx]
  have HR := Lib.hid hr; clear hr
  have HR2 := Lib.hid hr2; clear hr2
  go_enter Try.func45, Try.ntmps45
  go_wp2
  go_ret
  exact ⟨ret_int (by rw [HR.out]; unfold turnN; exact HR2.out _ (Nat.mod_lt _ (by decide))), rfl⟩
end Go.Proofs.Ytcknbbffeeldpaa
