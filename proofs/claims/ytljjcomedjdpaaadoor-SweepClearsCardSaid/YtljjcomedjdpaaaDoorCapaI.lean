/- CapaI, CapaR in one text: a claim holds at most 60 files. -/
import Derived.Test.YtljjcomedjdpaaaDoorCapAt
import Derived.Deep.RegionHeld3
import Derived.Deep.QuietTactic
import Derived.BigQuiet
namespace Go.Proofs.YtljjcomedjdpaaaDoor
set_option maxRecDepth 100000
open Go.RowKit
set_option linter.unusedVariables false
set_option linter.unusedSimpArgs false

end Go.Proofs.YtljjcomedjdpaaaDoor
namespace Go.Proofs.YtljjcomedjdpaaaDoor
set_option maxRecDepth 100000
open Go.RowKit
set_option linter.unusedVariables false

def RCapPost (w : World) (e : Ending) (w' : World) : Prop :=
  ∃ (b l c p t : Int) (v : Bool), e = .returned (.agg #[.int .i64 b, .int .i64 l, .int .i64 c, .int .i64 p, .int .i64 t, .bool v]) ∧ (0 ≤ b ∧ b ≤ 2047 ∧ -16 ≤ c ∧ c ≤ 2500) ∧ Below w.heap.size w w'
set_option maxHeartbeats 800000 in
theorem rcap_any (b l c p t odd : Int) (v : Bool) (w : World) :
    Calls Tryd.prog 25 #[.agg #[.int .i64 b, .int .i64 l, .int .i64 c, .int .i64 p, .int .i64 t, .bool v], .int .i64 odd] w (RCapPost w) := by
  have e1 := and2047 b
  have e2 := and255 l
  have e3 := and255 c
  have e4 := and31 p
  have e5 := and15 t
  have e6 := and31 odd
  have q1 : 0 ≤ b % 2048 := Int.emod_nonneg _ (by decide)
  have q2 : b % 2048 < 2048 := Int.emod_lt_of_pos _ (by decide)
  have q3 : 0 ≤ l % 256 := Int.emod_nonneg _ (by decide)
  have q4 : l % 256 < 256 := Int.emod_lt_of_pos _ (by decide)
  have q5 : 0 ≤ c % 256 := Int.emod_nonneg _ (by decide)
  have q6 : c % 256 < 256 := Int.emod_lt_of_pos _ (by decide)
  generalize b % 2048 = B at *
  generalize l % 256 = L at *
  generalize c % 256 = C at *
  generalize p % 32 = P at *
  generalize t % 16 = T at *
  generalize odd % 32 = O at *
  go_enter Tryd.func25, Tryd.ntmps25
  go_wp2
  all_goals
    first
    | (refine bodyPost_ret (v := .agg #[.int .i64 0, .int .i64 0, .int .i64 0, .int .i64 0, .int .i64 0, .bool false]) ?_ rfl ?_
       · (simp [results, Tryd.results25, go_sem]; done)
       · exact ⟨_, _, _, _, _, _, rfl, (by omega), (by repeat (first | assumption | exact alc0 _ _ | refine alc ?_ _ | (refine Below.setCell ?_ (by first | omega | (simp <;> omega)) _)))⟩)
    | (refine bodyPost_ret (v := .agg #[.int .i64 B, .int .i64 0, .int .i64 (B + C - 16), .int .i64 P, .int .i64 T, .bool true]) ?_ rfl ?_
       · (simp [results, Tryd.results25, go_sem]; done)
       · exact ⟨_, _, _, _, _, _, rfl, (by omega), (by repeat (first | assumption | exact alc0 _ _ | refine alc ?_ _ | (refine Below.setCell ?_ (by first | omega | (simp <;> omega)) _)))⟩)
    | (refine bodyPost_ret (v := .agg #[.int .i64 B, .int .i64 (L + 1), .int .i64 (B + C - 16), .int .i64 P, .int .i64 16, .bool true]) ?_ rfl ?_
       · (simp [results, Tryd.results25, go_sem]; done)
       · exact ⟨_, _, _, _, _, _, rfl, (by omega), (by repeat (first | assumption | exact alc0 _ _ | refine alc ?_ _ | (refine Below.setCell ?_ (by first | omega | (simp <;> omega)) _)))⟩)
    | (refine bodyPost_ret (v := .agg #[.int .i64 B, .int .i64 (L + 1), .int .i64 (B + C - 16), .int .i64 P, .int .i64 T, .bool false]) ?_ rfl ?_
       · (simp [results, Tryd.results25, go_sem]; done)
       · exact ⟨_, _, _, _, _, _, rfl, (by omega), (by repeat (first | assumption | exact alc0 _ _ | refine alc ?_ _ | (refine Below.setCell ?_ (by first | omega | (simp <;> omega)) _)))⟩)
    | (refine bodyPost_ret (v := .agg #[.int .i64 B, .int .i64 (L + 1), .int .i64 (B + C - 16), .int .i64 P, .int .i64 T, .bool true]) ?_ rfl ?_
       · (simp [results, Tryd.results25, go_sem]; done)
       · exact ⟨_, _, _, _, _, _, rfl, (by omega), (by repeat (first | assumption | exact alc0 _ _ | refine alc ?_ _ | (refine Below.setCell ?_ (by first | omega | (simp <;> omega)) _)))⟩)
    | (refine bodyPost_ret (v := .agg #[.int .i64 B, .int .i64 (2048 - B), .int .i64 (B + C - 16), .int .i64 P, .int .i64 16, .bool true]) ?_ rfl ?_
       · (simp [results, Tryd.results25, go_sem]; done)
       · exact ⟨_, _, _, _, _, _, rfl, (by omega), (by repeat (first | assumption | exact alc0 _ _ | refine alc ?_ _ | (refine Below.setCell ?_ (by first | omega | (simp <;> omega)) _)))⟩)
    | (refine bodyPost_ret (v := .agg #[.int .i64 B, .int .i64 (2048 - B), .int .i64 (B + C - 16), .int .i64 P, .int .i64 T, .bool false]) ?_ rfl ?_
       · (simp [results, Tryd.results25, go_sem]; done)
       · exact ⟨_, _, _, _, _, _, rfl, (by omega), (by repeat (first | assumption | exact alc0 _ _ | refine alc ?_ _ | (refine Below.setCell ?_ (by first | omega | (simp <;> omega)) _)))⟩)
    | (refine bodyPost_ret (v := .agg #[.int .i64 B, .int .i64 (2048 - B), .int .i64 (B + C - 16), .int .i64 P, .int .i64 T, .bool true]) ?_ rfl ?_
       · (simp [results, Tryd.results25, go_sem]; done)
       · exact ⟨_, _, _, _, _, _, rfl, (by omega), (by repeat (first | assumption | exact alc0 _ _ | refine alc ?_ _ | (refine Below.setCell ?_ (by first | omega | (simp <;> omega)) _)))⟩)
end Go.Proofs.YtljjcomedjdpaaaDoor

