/- Contracts of package epoch. -/
import Derived.Test.YtldnaddcmnghkaaInts0
namespace Go.Proofs.Ytldnaddcmnghkaa
open Go.RowKit
set_option linter.unusedVariables false
set_option linter.unusedSimpArgs false

theorem ebegin_on (b : Int) (w : World) :
    Calls Try.prog 46 #[.agg #[.int .i64 b, .bool true]] w fun e w' => e = .returned (.tuple #[.agg #[.int .i64 b, .bool true], .int .i64 12]) ∧ Below w.heap.size w w' := by
  go_enter Try.func46, Try.ntmps46
  go_wp2
  refine bodyPost_ret (v := .tuple #[.agg #[.int .i64 b, .bool true], .int .i64 12]) (by simp [results, Try.results46, go_sem]) rfl ⟨rfl, ?_⟩
  repeat (first | exact alc0 _ _ | refine alc ?_ _ | (refine Below.setCell ?_ (by first | omega | (simp <;> omega)) _))
theorem ebegin_off (b : Int) (w : World) (h0 : 0 ≤ b) (h1 : b ≤ 1000) :
    Calls Try.prog 46 #[.agg #[.int .i64 b, .bool false]] w fun e w' => e = .returned (.tuple #[.agg #[.int .i64 (b + 1), .bool true], .int .i64 0]) ∧ Below w.heap.size w w' := by
  have h2 : ¬ 16777215 ≤ b := by omega
  go_enter Try.func46, Try.ntmps46
  go_wp2
  refine bodyPost_ret (v := .tuple #[.agg #[.int .i64 (b + 1), .bool true], .int .i64 0]) (by simp [results, Try.results46, go_sem]) rfl ⟨rfl, ?_⟩
  repeat (first | exact alc0 _ _ | refine alc ?_ _ | (refine Below.setCell ?_ (by first | omega | (simp <;> omega)) _))
theorem eend_on (b : Int) (w : World) :
    Calls Try.prog 47 #[.agg #[.int .i64 b, .bool true]] w fun e w' => e = .returned (.tuple #[.agg #[.int .i64 b, .bool false], .int .i64 0]) ∧ Below w.heap.size w w' := by
  go_enter Try.func47, Try.ntmps47
  go_wp2
  refine bodyPost_ret (v := .tuple #[.agg #[.int .i64 b, .bool false], .int .i64 0]) (by simp [results, Try.results47, go_sem]) rfl ⟨rfl, ?_⟩
  repeat (first | exact alc0 _ _ | refine alc ?_ _ | (refine Below.setCell ?_ (by first | omega | (simp <;> omega)) _))
theorem eend_off (b : Int) (w : World) :
    Calls Try.prog 47 #[.agg #[.int .i64 b, .bool false]] w fun e w' => e = .returned (.tuple #[.agg #[.int .i64 b, .bool false], .int .i64 12]) ∧ Below w.heap.size w w' := by
  go_enter Try.func47, Try.ntmps47
  go_wp2
  refine bodyPost_ret (v := .tuple #[.agg #[.int .i64 b, .bool false], .int .i64 12]) (by simp [results, Try.results47, go_sem]) rfl ⟨rfl, ?_⟩
  repeat (first | exact alc0 _ _ | refine alc ?_ _ | (refine Below.setCell ?_ (by first | omega | (simp <;> omega)) _))
theorem enow (b : Int) (on : Bool) (w : World) :
    Calls Try.prog 48 #[.agg #[.int .i64 b, .bool on]] w fun e w' => e = .returned (.int .i64 b) ∧ Below w.heap.size w w' := by
  go_enter Try.func48, Try.ntmps48
  go_wp2
  go_ret
  exact ⟨rfl, alc0 _ _⟩
theorem eon (b : Int) (on : Bool) (w : World) :
    Calls Try.prog 49 #[.agg #[.int .i64 b, .bool on]] w fun e w' => e = .returned (.bool on) ∧ Below w.heap.size w w' := by
  go_enter Try.func49, Try.ntmps49
  go_wp2
  go_ret
  exact ⟨rfl, alc0 _ _⟩
def endedI (b : Int) (on : Bool) : Int := if on then b - 1 else b
theorem epast (b : Int) (on : Bool) (s : Int) (w : World) (h0 : 0 ≤ b) (h1 : b ≤ 1000) :
    Calls Try.prog 51 #[.agg #[.int .i64 b, .bool on], .int .i64 s] w fun e w' => e = .returned (.bool (decide (s < endedI b on))) ∧ Below w.heap.size w w' := by
  cases on
  all_goals
    go_enter Try.func51, Try.ntmps51
    go_wp2
    go_ret
    exact ⟨rfl, alc0 _ _⟩
theorem epast_is (r : Bool) (b : Int) (on : Bool) (s : Int) (w : World) (h0 : 0 ≤ b) (h1 : b ≤ 1000) (h : decide (s < endedI b on) = r) :
    Calls Try.prog 51 #[.agg #[.int .i64 b, .bool on], .int .i64 s] w fun e w' => e = .returned (.bool r) ∧ Below w.heap.size w w' := by
  subst h; exact epast b on s w h0 h1

theorem e34awake_any (w : World) :
    Calls Try.prog 50 #[] w fun e w' => e = .returned (.bool true) ∧ Below w.heap.size w w' := by
  go_enter Try.func50, Try.ntmps50
  go_wp2_with fail
  refine (ebegin_off 0 _ (by decide) (by decide)).mono ?_
  rintro e w1 ⟨rfl, hb1⟩
  obtain ⟨hc1, hf1⟩ := bcell hb1
  go_wp2_with fail
  refine (eend_on _ _).mono ?_
  rintro e w2 ⟨rfl, hb2⟩
  obtain ⟨hc2, hf2⟩ := bcell hb2
  have hz2 : w1.heap.size < w2.heap.size := Nat.lt_of_lt_of_le (by simp) hb2.size
  go_wp2_with fail
  refine (enow _ _ _).mono ?_
  rintro e w3 ⟨rfl, hb3⟩
  obtain ⟨hc3, hf3⟩ := bcell hb3
  have hz3 : w2.heap.size < w3.heap.size := Nat.lt_of_lt_of_le (by simp) hb3.size
  have hz3b : w1.heap.size < w3.heap.size := by omega
  go_wp2_with fail
  refine (eon _ _ _).mono ?_
  rintro e w4 ⟨rfl, hb4⟩
  obtain ⟨hc4, hf4⟩ := bcell hb4
  have hz4 : w2.heap.size < w4.heap.size := Nat.lt_of_lt_of_le hz3 hb4.size
  have hz4b : w1.heap.size < w4.heap.size := by omega
  go_wp2_with fail
  refine (eon _ _ _).mono ?_
  rintro e w5 ⟨rfl, hb5⟩
  obtain ⟨hc5, hf5⟩ := bcell hb5
  have hz5 : w2.heap.size < w5.heap.size := Nat.lt_of_lt_of_le hz4 hb5.size
  have hz5b : w1.heap.size < w5.heap.size := by omega
  go_wp2_with fail
  refine (epast_is true _ _ _ _ (by decide) (by decide) (by decide)).mono ?_
  rintro e w6 ⟨rfl, hb6⟩
  obtain ⟨hc6, hf6⟩ := bcell hb6
  go_wp2_with fail
  refine (epast_is false _ _ _ _ (by decide) (by decide) (by decide)).mono ?_
  rintro e w7 ⟨rfl, hb7⟩
  go_wp2
  go_ret
  exact ⟨rfl, thn (thn (thn (thn (thn (alc (thn (alc hb1 _) hb2) _) hb3) hb4) hb5) hb6) hb7⟩
end Go.Proofs.Ytldnaddcmnghkaa
