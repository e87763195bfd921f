/- The walk of RegsNone. -/
import Derived.Test.YtpciigahikciiaaRegsE
namespace Go.Proofs.Ytpciigahikciiaa
open Go.RowKit
set_option linter.unusedVariables false
set_option linter.unusedSimpArgs false

theorem nmeets_any (a b : Int) (W : World) : Calls Try.prog 10 #[.pointer none, .agg #[.int .i64 a, .int .i64 b]] W fun e w' => e = .returned (.slice none 0 0) ∧ Below W.heap.size W w' := by
  go_enter Try.func10, Try.ntmps10
  go_wp2_with fail
  refine (nlist_any _).mono ?_
  rintro e w' ⟨rfl, rfl⟩
  go_wp2_with fail
  refine Go.wp_loop_rounds 1 ?_
  rw [rounds_succ]
  go_wp2
  go_ret
  exact ⟨rfl, alc0 _ _⟩
theorem zv (h j : Nat) (hj : j < 6) : zeroV (h * 6 + j) = (#[.int .i64 0, .int .i64 0, .int .i64 0, .int .i64 0, .int .i64 0, .bool false] : Array Value)[j]! := by
  unfold zeroV
  rw [show (h * 6 + j) % 6 = j by omega]
end Go.Proofs.Ytpciigahikciiaa
