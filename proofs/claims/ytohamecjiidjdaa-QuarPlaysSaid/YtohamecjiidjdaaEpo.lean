/- Contracts of package epoch (as in Epoch, without the statement of layer 34). -/
import Derived.Test.YtohamecjiidjdaaRows
import Derived.Test.YtohamecjiidjdaaInt
import Derived.WalkKit
import Derived.ProofKit
namespace Go.Proofs.Ytohamecjiidjdaa
open Go.RowKit
set_option linter.unusedVariables false
set_option linter.unusedSimpArgs false

theorem ebegin_on (b : Int) (w : World) :
    Calls Try.prog 7 #[.agg #[.int .i64 b, .bool true]] w fun e w' => e = .returned (.tuple #[.agg #[.int .i64 b, .bool true], .int .i64 12]) ∧ Below w.heap.size w w' := by
  go_enter Try.func7, Try.ntmps7
  go_wp2
  refine bodyPost_ret (v := .tuple #[.agg #[.int .i64 b, .bool true], .int .i64 12]) (by simp [results, Try.results7, go_sem]) rfl ⟨rfl, ?_⟩
  repeat (first | exact alc0 _ _ | refine alc ?_ _ | (refine Below.setCell ?_ (by first | omega | (simp <;> omega)) _))
theorem ebegin_off (b : Int) (w : World) (h0 : 0 ≤ b) (h1 : b ≤ 1000) :
    Calls Try.prog 7 #[.agg #[.int .i64 b, .bool false]] w fun e w' => e = .returned (.tuple #[.agg #[.int .i64 (b + 1), .bool true], .int .i64 0]) ∧ Below w.heap.size w w' := by
  have h2 : ¬ 16777215 ≤ b := by omega
  go_enter Try.func7, Try.ntmps7
  go_wp2
  refine bodyPost_ret (v := .tuple #[.agg #[.int .i64 (b + 1), .bool true], .int .i64 0]) (by simp [results, Try.results7, go_sem]) rfl ⟨rfl, ?_⟩
  repeat (first | exact alc0 _ _ | refine alc ?_ _ | (refine Below.setCell ?_ (by first | omega | (simp <;> omega)) _))
theorem eend_on (b : Int) (w : World) :
    Calls Try.prog 8 #[.agg #[.int .i64 b, .bool true]] w fun e w' => e = .returned (.tuple #[.agg #[.int .i64 b, .bool false], .int .i64 0]) ∧ Below w.heap.size w w' := by
  go_enter Try.func8, Try.ntmps8
  go_wp2
  refine bodyPost_ret (v := .tuple #[.agg #[.int .i64 b, .bool false], .int .i64 0]) (by simp [results, Try.results8, go_sem]) rfl ⟨rfl, ?_⟩
  repeat (first | exact alc0 _ _ | refine alc ?_ _ | (refine Below.setCell ?_ (by first | omega | (simp <;> omega)) _))
theorem eend_off (b : Int) (w : World) :
    Calls Try.prog 8 #[.agg #[.int .i64 b, .bool false]] w fun e w' => e = .returned (.tuple #[.agg #[.int .i64 b, .bool false], .int .i64 12]) ∧ Below w.heap.size w w' := by
  go_enter Try.func8, Try.ntmps8
  go_wp2
  refine bodyPost_ret (v := .tuple #[.agg #[.int .i64 b, .bool false], .int .i64 12]) (by simp [results, Try.results8, go_sem]) rfl ⟨rfl, ?_⟩
  repeat (first | exact alc0 _ _ | refine alc ?_ _ | (refine Below.setCell ?_ (by first | omega | (simp <;> omega)) _))
theorem enow (b : Int) (on : Bool) (w : World) :
    Calls Try.prog 9 #[.agg #[.int .i64 b, .bool on]] w fun e w' => e = .returned (.int .i64 b) ∧ Below w.heap.size w w' := by
  go_enter Try.func9, Try.ntmps9
  go_wp2
  go_ret
  exact ⟨rfl, alc0 _ _⟩
def endedI (b : Int) (on : Bool) : Int := if on then b - 1 else b
theorem epast (b : Int) (on : Bool) (s : Int) (w : World) (h0 : 0 ≤ b) (h1 : b ≤ 1000) :
    Calls Try.prog 5 #[.agg #[.int .i64 b, .bool on], .int .i64 s] w fun e w' => e = .returned (.bool (decide (s < endedI b on))) ∧ Below w.heap.size w w' := by
  cases on
  all_goals
    go_enter Try.func5, Try.ntmps5
    go_wp2
    go_ret
    exact ⟨rfl, alc0 _ _⟩
theorem epast_is (r : Bool) (b : Int) (on : Bool) (s : Int) (w : World) (h0 : 0 ≤ b) (h1 : b ≤ 1000) (h : decide (s < endedI b on) = r) :
    Calls Try.prog 5 #[.agg #[.int .i64 b, .bool on], .int .i64 s] w fun e w' => e = .returned (.bool r) ∧ Below w.heap.size w w' := by
  subst h; exact epast b on s w h0 h1

end Go.Proofs.Ytohamecjiidjdaa
