/- What the statements of capa hold it against. -/
import Derived.Test.YtpciigahikciiaaCapa
namespace Go.Proofs.Ytpciigahikciiaa
open Go.RowKit
set_option linter.unusedVariables false

theorem rmay_any (b l c p t : Int) (v : Bool) (w : World) :
    Calls Try.prog 8 #[.agg #[.int .i64 b, .int .i64 l, .int .i64 c, .int .i64 p, .int .i64 t, .bool v]] w fun e w' => e = .returned (.bool (capMayB b l c p t v)) ∧ Below w.heap.size w w' := by
  cases v
  · go_enter Try.func8, Try.ntmps8
    go_wp2
    all_goals
      go_ret
      exact ⟨ret_bool (by simp [capMayB, *]), alc0 _ _⟩
  · by_cases h1 : b < 0
    · go_enter Try.func8, Try.ntmps8
      go_wp2
      go_ret
      exact ⟨ret_bool (by rw [eq_comm]; simp [capMayB, capOkB, mayB]; omega), alc0 _ _⟩
    · by_cases h2 : 262144 ≤ b
      · go_enter Try.func8, Try.ntmps8
        go_wp2
        go_ret
        exact ⟨ret_bool (by rw [eq_comm]; simp [capMayB, capOkB, mayB]; omega), alc0 _ _⟩
      · have h3 : b < 262144 := by omega
        have h4 : 0 ≤ b := by omega
        clear h1 h2
        go_enter Try.func8, Try.ntmps8
        go_wp2
        all_goals
          go_ret
          exact ⟨ret_bool (by rw [Bool.eq_iff_iff]; simp [capMayB, capOkB, mayB, pmayB] <;> omega), alc0 _ _⟩
theorem rmay_is (r : Bool) (b l c p t : Int) (v : Bool) (w : World) (h : capMayB b l c p t v = r) :
    Calls Try.prog 8 #[.agg #[.int .i64 b, .int .i64 l, .int .i64 c, .int .i64 p, .int .i64 t, .bool v]] w fun e w' => e = .returned (.bool r) ∧ Below w.heap.size w w' := by
  subst h; exact rmay_any b l c p t v w

def RCapPost (w : World) (e : Ending) (w' : World) : Prop :=
  ∃ (b l c p t : Int) (v : Bool), e = .returned (.agg #[.int .i64 b, .int .i64 l, .int .i64 c, .int .i64 p, .int .i64 t, .bool v]) ∧ (0 ≤ b ∧ b ≤ 2047 ∧ -16 ≤ c ∧ c ≤ 2500) ∧ Below w.heap.size w w'
set_option maxHeartbeats 800000 in
theorem rcap_any (b l c p t odd : Int) (v : Bool) (w : World) :
    Calls Try.prog 7 #[.agg #[.int .i64 b, .int .i64 l, .int .i64 c, .int .i64 p, .int .i64 t, .bool v], .int .i64 odd] w (RCapPost w) := by
  have e1 := and2047 b
  have e2 := and255 l
  have e3 := and255 c
  have e4 := and31 p
  have e5 := and15 t
  have e6 := and31 odd
  have q1 : 0 ≤ b % 2048 := Int.emod_nonneg _ (by decide)
  have q2 : b % 2048 < 2048 := Int.emod_lt_of_pos _ (by decide)
  have q3 : 0 ≤ l % 256 := Int.emod_nonneg _ (by decide)
  have q4 : l % 256 < 256 := Int.emod_lt_of_pos _ (by decide)
  have q5 : 0 ≤ c % 256 := Int.emod_nonneg _ (by decide)
  have q6 : c % 256 < 256 := Int.emod_lt_of_pos _ (by decide)
  generalize b % 2048 = B at *
  generalize l % 256 = L at *
  generalize c % 256 = C at *
  generalize p % 32 = P at *
  generalize t % 16 = T at *
  generalize odd % 32 = O at *
  go_enter Try.func7, Try.ntmps7
  go_wp2
  all_goals
    first
    | (refine bodyPost_ret (v := .agg #[.int .i64 0, .int .i64 0, .int .i64 0, .int .i64 0, .int .i64 0, .bool false]) ?_ rfl ?_
       · (simp [results, Try.results7, go_sem]; done)
       · exact ⟨_, _, _, _, _, _, rfl, (by omega), (by repeat (first | assumption | exact alc0 _ _ | refine alc ?_ _ | (refine Below.setCell ?_ (by first | omega | (simp <;> omega)) _)))⟩)
    | (refine bodyPost_ret (v := .agg #[.int .i64 B, .int .i64 0, .int .i64 (B + C - 16), .int .i64 P, .int .i64 T, .bool true]) ?_ rfl ?_
       · (simp [results, Try.results7, go_sem]; done)
       · exact ⟨_, _, _, _, _, _, rfl, (by omega), (by repeat (first | assumption | exact alc0 _ _ | refine alc ?_ _ | (refine Below.setCell ?_ (by first | omega | (simp <;> omega)) _)))⟩)
    | (refine bodyPost_ret (v := .agg #[.int .i64 B, .int .i64 (L + 1), .int .i64 (B + C - 16), .int .i64 P, .int .i64 16, .bool true]) ?_ rfl ?_
       · (simp [results, Try.results7, go_sem]; done)
       · exact ⟨_, _, _, _, _, _, rfl, (by omega), (by repeat (first | assumption | exact alc0 _ _ | refine alc ?_ _ | (refine Below.setCell ?_ (by first | omega | (simp <;> omega)) _)))⟩)
    | (refine bodyPost_ret (v := .agg #[.int .i64 B, .int .i64 (L + 1), .int .i64 (B + C - 16), .int .i64 P, .int .i64 T, .bool false]) ?_ rfl ?_
       · (simp [results, Try.results7, go_sem]; done)
       · exact ⟨_, _, _, _, _, _, rfl, (by omega), (by repeat (first | assumption | exact alc0 _ _ | refine alc ?_ _ | (refine Below.setCell ?_ (by first | omega | (simp <;> omega)) _)))⟩)
    | (refine bodyPost_ret (v := .agg #[.int .i64 B, .int .i64 (L + 1), .int .i64 (B + C - 16), .int .i64 P, .int .i64 T, .bool true]) ?_ rfl ?_
       · (simp [results, Try.results7, go_sem]; done)
       · exact ⟨_, _, _, _, _, _, rfl, (by omega), (by repeat (first | assumption | exact alc0 _ _ | refine alc ?_ _ | (refine Below.setCell ?_ (by first | omega | (simp <;> omega)) _)))⟩)
    | (refine bodyPost_ret (v := .agg #[.int .i64 B, .int .i64 (2048 - B), .int .i64 (B + C - 16), .int .i64 P, .int .i64 16, .bool true]) ?_ rfl ?_
       · (simp [results, Try.results7, go_sem]; done)
       · exact ⟨_, _, _, _, _, _, rfl, (by omega), (by repeat (first | assumption | exact alc0 _ _ | refine alc ?_ _ | (refine Below.setCell ?_ (by first | omega | (simp <;> omega)) _)))⟩)
    | (refine bodyPost_ret (v := .agg #[.int .i64 B, .int .i64 (2048 - B), .int .i64 (B + C - 16), .int .i64 P, .int .i64 T, .bool false]) ?_ rfl ?_
       · (simp [results, Try.results7, go_sem]; done)
       · exact ⟨_, _, _, _, _, _, rfl, (by omega), (by repeat (first | assumption | exact alc0 _ _ | refine alc ?_ _ | (refine Below.setCell ?_ (by first | omega | (simp <;> omega)) _)))⟩)
    | (refine bodyPost_ret (v := .agg #[.int .i64 B, .int .i64 (2048 - B), .int .i64 (B + C - 16), .int .i64 P, .int .i64 T, .bool true]) ?_ rfl ?_
       · (simp [results, Try.results7, go_sem]; done)
       · exact ⟨_, _, _, _, _, _, rfl, (by omega), (by repeat (first | assumption | exact alc0 _ _ | refine alc ?_ _ | (refine Below.setCell ?_ (by first | omega | (simp <;> omega)) _)))⟩)
end Go.Proofs.Ytpciigahikciiaa
