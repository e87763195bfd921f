/- ConfA. -/
import Derived.Test.YtanmmhbnjmglhaaZ50
namespace Go.Proofs.Ytanmmhbnjmglhaa
open Go.RowKit
set_option linter.unusedVariables false
set_option linter.unusedSimpArgs false
def CfB (am : Bool) (pg rg lg th ca ba sh re mo fi : Int) : Prop := (5 ≤ rg ∧ rg ≤ 8) ∧ (12 ≤ lg ∧ lg ≤ 75) ∧ (1 ≤ th ∧ th ≤ 4) ∧ (1 ≤ ba ∧ ba ≤ 8) ∧ (ba ≤ ca ∧ ca ≤ ba + 7) ∧ (0 ≤ sh ∧ sh ≤ 3) ∧ (6 ≤ re ∧ re ≤ 13) ∧ (0 ≤ fi ∧ fi ≤ 255) ∧ (1 ≤ mo ∧ mo ≤ 8000) ∧ (if am then pg = 20 * rg + lg else 3 ≤ pg ∧ pg ≤ 66)
theorem CfB.ok {am : Bool} {pg rg lg th ca ba sh re mo fi : Int} (h : CfB am pg rg lg th ca ba sh re mo fi) : CfOk pg rg lg th ca ba sh re mo fi ∧ rg * 20 + lg ≤ 235 := by
  unfold CfB at h
  obtain ⟨h1, h2, h3, h4, h5, h6, h7, h8, h9, h10⟩ := h
  have hp : 1 ≤ pg ∧ pg ≤ 1024 := by cases am <;> simp at h10 <;> omega
  unfold CfOk
  omega
def crpost (am : Bool) (w : World) (e : Ending) (w' : World) : Prop := ∃ pg rg lg th ca ba sh re mo fi key : Int, e = .returned (.agg #[.int .i64 pg, .int .i64 rg, .int .i64 lg, .int .i64 th, .int .i64 ca, .int .i64 ba, .int .i64 sh, .int .i64 re, .int .i64 mo, .int .i64 fi, .int .u64 key]) ∧ CfB am pg rg lg th ca ba sh re mo fi ∧ Below w.heap.size w w'
set_option maxHeartbeats 8000000 in
theorem crconf (n0 n1 n2 n3 : Int) (am : Bool) (w : World) :
    Calls Try.prog 6 #[.agg #[.int .i64 n0, .int .i64 n1, .int .i64 n2, .int .i64 n3], .bool am] w (crpost am w) := by
  have e0 := and3 n0
  have p0 : 0 ≤ n0 % 4 := Int.emod_nonneg _ (by decide)
  have q0 : n0 % 4 < 4 := Int.emod_lt_of_pos _ (by decide)
  generalize n0 % 4 = Q0 at e0 p0 q0
  have e1 := and63 (n0 / 4)
  have p1 : 0 ≤ n0 / 4 % 64 := Int.emod_nonneg _ (by decide)
  have q1 : n0 / 4 % 64 < 64 := Int.emod_lt_of_pos _ (by decide)
  generalize n0 / 4 % 64 = Q1 at e1 p1 q1
  have e2 := and3 n1
  have p2 : 0 ≤ n1 % 4 := Int.emod_nonneg _ (by decide)
  have q2 : n1 % 4 < 4 := Int.emod_lt_of_pos _ (by decide)
  generalize n1 % 4 = Q2 at e2 p2 q2
  have e3 := and7 (n1 / 4)
  have p3 : 0 ≤ n1 / 4 % 8 := Int.emod_nonneg _ (by decide)
  have q3 : n1 / 4 % 8 < 8 := Int.emod_lt_of_pos _ (by decide)
  generalize n1 / 4 % 8 = Q3 at e3 p3 q3
  have e4 := and3 (n1 / 32)
  have p4 : 0 ≤ n1 / 32 % 4 := Int.emod_nonneg _ (by decide)
  have q4 : n1 / 32 % 4 < 4 := Int.emod_lt_of_pos _ (by decide)
  generalize n1 / 32 % 4 = Q4 at e4 p4 q4
  have e5 := and7 n2
  have p5 : 0 ≤ n2 % 8 := Int.emod_nonneg _ (by decide)
  have q5 : n2 % 8 < 8 := Int.emod_lt_of_pos _ (by decide)
  generalize n2 % 8 = Q5 at e5 p5 q5
  have e6 := and255 (n2 / 8)
  have p6 : 0 ≤ n2 / 8 % 256 := Int.emod_nonneg _ (by decide)
  have q6 : n2 / 8 % 256 < 256 := Int.emod_lt_of_pos _ (by decide)
  generalize n2 / 8 % 256 = Q6 at e6 p6 q6
  have e7 := and24 n3
  have p7 : 0 ≤ n3 % 16777216 := Int.emod_nonneg _ (by decide)
  have q7 : n3 % 16777216 < 16777216 := Int.emod_lt_of_pos _ (by decide)
  generalize n3 % 16777216 = Q7 at e7 p7 q7
  have e8 := and7 (n1 / 128)
  have p8 : 0 ≤ n1 / 128 % 8 := Int.emod_nonneg _ (by decide)
  have q8 : n1 / 128 % 8 < 8 := Int.emod_lt_of_pos _ (by decide)
  generalize n1 / 128 % 8 = Q8 at e8 p8 q8
  have e9 := and7 (n2 / 2048)
  have p9 : 0 ≤ n2 / 2048 % 8 := Int.emod_nonneg _ (by decide)
  have q9 : n2 / 2048 % 8 < 8 := Int.emod_lt_of_pos _ (by decide)
  generalize n2 / 2048 % 8 = Q9 at e9 p9 q9
  have e10 := and63 (n3 / 16777216)
  have p10 : 0 ≤ n3 / 16777216 % 64 := Int.emod_nonneg _ (by decide)
  have q10 : n3 / 16777216 % 64 < 64 := Int.emod_lt_of_pos _ (by decide)
  generalize n3 / 16777216 % 64 = Q10 at e10 p10 q10
  have s9 : Q9 = 0 ∨ Q9 = 1 ∨ Q9 = 2 ∨ Q9 = 3 ∨ Q9 = 4 ∨ Q9 = 5 ∨ Q9 = 6 ∨ Q9 = 7 := by omega
  have H9 := Lib.hid s9
  clear s9
  go_enter Try.func6, Try.ntmps6
  go_upto_region 3 with (fail)
  rcases H9.out with rfl | rfl | rfl | rfl | rfl | rfl | rfl | rfl
  · cases am
    · go_wp2
      refine bodyPost_ret (v := .agg #[.int .i64 (3 + Q10), .int .i64 (5 + Q0), .int .i64 (12 + Q1), .int .i64 (1 + Q2), .int .i64 (1 + Q3 + Q8), .int .i64 (1 + Q3), .int .i64 Q4, .int .i64 (6 + Q5), .int .i64 48, .int .i64 Q6, .int .u64 Q7]) (by simp [results, Try.results6, go_sem]) rfl ⟨_, _, _, _, _, _, _, _, _, _, _, rfl, ?_, (by repeat (first | with_reducible assumption | with_reducible exact alc0 _ _ | with_reducible refine alc ?_ _ | (with_reducible refine Below.setCell ?_ (by first | omega | (simp <;> omega)) _)))⟩
      unfold CfB
      simp
      omega
    · go_wp2
      refine bodyPost_ret (v := .agg #[.int .i64 (20 * (5 + Q0) + (12 + Q1)), .int .i64 (5 + Q0), .int .i64 (12 + Q1), .int .i64 (1 + Q2), .int .i64 (1 + Q3 + Q8), .int .i64 (1 + Q3), .int .i64 Q4, .int .i64 (6 + Q5), .int .i64 48, .int .i64 Q6, .int .u64 Q7]) (by simp [results, Try.results6, go_sem]) rfl ⟨_, _, _, _, _, _, _, _, _, _, _, rfl, ?_, (by repeat (first | with_reducible assumption | with_reducible exact alc0 _ _ | with_reducible refine alc ?_ _ | (with_reducible refine Below.setCell ?_ (by first | omega | (simp <;> omega)) _)))⟩
      unfold CfB
      simp
      omega
  · cases am
    · go_wp2
      refine bodyPost_ret (v := .agg #[.int .i64 (3 + Q10), .int .i64 (5 + Q0), .int .i64 (12 + Q1), .int .i64 (1 + Q2), .int .i64 (1 + Q3 + Q8), .int .i64 (1 + Q3), .int .i64 Q4, .int .i64 (6 + Q5), .int .i64 300, .int .i64 Q6, .int .u64 Q7]) (by simp [results, Try.results6, go_sem]) rfl ⟨_, _, _, _, _, _, _, _, _, _, _, rfl, ?_, (by repeat (first | with_reducible assumption | with_reducible exact alc0 _ _ | with_reducible refine alc ?_ _ | (with_reducible refine Below.setCell ?_ (by first | omega | (simp <;> omega)) _)))⟩
      unfold CfB
      simp
      omega
    · go_wp2
      refine bodyPost_ret (v := .agg #[.int .i64 (20 * (5 + Q0) + (12 + Q1)), .int .i64 (5 + Q0), .int .i64 (12 + Q1), .int .i64 (1 + Q2), .int .i64 (1 + Q3 + Q8), .int .i64 (1 + Q3), .int .i64 Q4, .int .i64 (6 + Q5), .int .i64 300, .int .i64 Q6, .int .u64 Q7]) (by simp [results, Try.results6, go_sem]) rfl ⟨_, _, _, _, _, _, _, _, _, _, _, rfl, ?_, (by repeat (first | with_reducible assumption | with_reducible exact alc0 _ _ | with_reducible refine alc ?_ _ | (with_reducible refine Below.setCell ?_ (by first | omega | (simp <;> omega)) _)))⟩
      unfold CfB
      simp
      omega
  · cases am
    · go_wp2
      refine bodyPost_ret (v := .agg #[.int .i64 (3 + Q10), .int .i64 (5 + Q0), .int .i64 (12 + Q1), .int .i64 (1 + Q2), .int .i64 (1 + Q3 + Q8), .int .i64 (1 + Q3), .int .i64 Q4, .int .i64 (6 + Q5), .int .i64 1024, .int .i64 Q6, .int .u64 Q7]) (by simp [results, Try.results6, go_sem]) rfl ⟨_, _, _, _, _, _, _, _, _, _, _, rfl, ?_, (by repeat (first | with_reducible assumption | with_reducible exact alc0 _ _ | with_reducible refine alc ?_ _ | (with_reducible refine Below.setCell ?_ (by first | omega | (simp <;> omega)) _)))⟩
      unfold CfB
      simp
      omega
    · go_wp2
      refine bodyPost_ret (v := .agg #[.int .i64 (20 * (5 + Q0) + (12 + Q1)), .int .i64 (5 + Q0), .int .i64 (12 + Q1), .int .i64 (1 + Q2), .int .i64 (1 + Q3 + Q8), .int .i64 (1 + Q3), .int .i64 Q4, .int .i64 (6 + Q5), .int .i64 1024, .int .i64 Q6, .int .u64 Q7]) (by simp [results, Try.results6, go_sem]) rfl ⟨_, _, _, _, _, _, _, _, _, _, _, rfl, ?_, (by repeat (first | with_reducible assumption | with_reducible exact alc0 _ _ | with_reducible refine alc ?_ _ | (with_reducible refine Below.setCell ?_ (by first | omega | (simp <;> omega)) _)))⟩
      unfold CfB
      simp
      omega
  · cases am
    · go_wp2
      refine bodyPost_ret (v := .agg #[.int .i64 (3 + Q10), .int .i64 (5 + Q0), .int .i64 (12 + Q1), .int .i64 (1 + Q2), .int .i64 (1 + Q3 + Q8), .int .i64 (1 + Q3), .int .i64 Q4, .int .i64 (6 + Q5), .int .i64 3000, .int .i64 Q6, .int .u64 Q7]) (by simp [results, Try.results6, go_sem]) rfl ⟨_, _, _, _, _, _, _, _, _, _, _, rfl, ?_, (by repeat (first | with_reducible assumption | with_reducible exact alc0 _ _ | with_reducible refine alc ?_ _ | (with_reducible refine Below.setCell ?_ (by first | omega | (simp <;> omega)) _)))⟩
      unfold CfB
      simp
      omega
    · go_wp2
      refine bodyPost_ret (v := .agg #[.int .i64 (20 * (5 + Q0) + (12 + Q1)), .int .i64 (5 + Q0), .int .i64 (12 + Q1), .int .i64 (1 + Q2), .int .i64 (1 + Q3 + Q8), .int .i64 (1 + Q3), .int .i64 Q4, .int .i64 (6 + Q5), .int .i64 3000, .int .i64 Q6, .int .u64 Q7]) (by simp [results, Try.results6, go_sem]) rfl ⟨_, _, _, _, _, _, _, _, _, _, _, rfl, ?_, (by repeat (first | with_reducible assumption | with_reducible exact alc0 _ _ | with_reducible refine alc ?_ _ | (with_reducible refine Below.setCell ?_ (by first | omega | (simp <;> omega)) _)))⟩
      unfold CfB
      simp
      omega
  · cases am
    · go_wp2
      refine bodyPost_ret (v := .agg #[.int .i64 (3 + Q10), .int .i64 (5 + Q0), .int .i64 (12 + Q1), .int .i64 (1 + Q2), .int .i64 (1 + Q3 + Q8), .int .i64 (1 + Q3), .int .i64 Q4, .int .i64 (6 + Q5), .int .i64 8000, .int .i64 Q6, .int .u64 Q7]) (by simp [results, Try.results6, go_sem]) rfl ⟨_, _, _, _, _, _, _, _, _, _, _, rfl, ?_, (by repeat (first | with_reducible assumption | with_reducible exact alc0 _ _ | with_reducible refine alc ?_ _ | (with_reducible refine Below.setCell ?_ (by first | omega | (simp <;> omega)) _)))⟩
      unfold CfB
      simp
      omega
    · go_wp2
      refine bodyPost_ret (v := .agg #[.int .i64 (20 * (5 + Q0) + (12 + Q1)), .int .i64 (5 + Q0), .int .i64 (12 + Q1), .int .i64 (1 + Q2), .int .i64 (1 + Q3 + Q8), .int .i64 (1 + Q3), .int .i64 Q4, .int .i64 (6 + Q5), .int .i64 8000, .int .i64 Q6, .int .u64 Q7]) (by simp [results, Try.results6, go_sem]) rfl ⟨_, _, _, _, _, _, _, _, _, _, _, rfl, ?_, (by repeat (first | with_reducible assumption | with_reducible exact alc0 _ _ | with_reducible refine alc ?_ _ | (with_reducible refine Below.setCell ?_ (by first | omega | (simp <;> omega)) _)))⟩
      unfold CfB
      simp
      omega
  · cases am
    · go_wp2
      refine bodyPost_ret (v := .agg #[.int .i64 (3 + Q10), .int .i64 (5 + Q0), .int .i64 (12 + Q1), .int .i64 (1 + Q2), .int .i64 (1 + Q3 + Q8), .int .i64 (1 + Q3), .int .i64 Q4, .int .i64 (6 + Q5), .int .i64 1500, .int .i64 Q6, .int .u64 Q7]) (by simp [results, Try.results6, go_sem]) rfl ⟨_, _, _, _, _, _, _, _, _, _, _, rfl, ?_, (by repeat (first | with_reducible assumption | with_reducible exact alc0 _ _ | with_reducible refine alc ?_ _ | (with_reducible refine Below.setCell ?_ (by first | omega | (simp <;> omega)) _)))⟩
      unfold CfB
      simp
      omega
    · go_wp2
      refine bodyPost_ret (v := .agg #[.int .i64 (20 * (5 + Q0) + (12 + Q1)), .int .i64 (5 + Q0), .int .i64 (12 + Q1), .int .i64 (1 + Q2), .int .i64 (1 + Q3 + Q8), .int .i64 (1 + Q3), .int .i64 Q4, .int .i64 (6 + Q5), .int .i64 1500, .int .i64 Q6, .int .u64 Q7]) (by simp [results, Try.results6, go_sem]) rfl ⟨_, _, _, _, _, _, _, _, _, _, _, rfl, ?_, (by repeat (first | with_reducible assumption | with_reducible exact alc0 _ _ | with_reducible refine alc ?_ _ | (with_reducible refine Below.setCell ?_ (by first | omega | (simp <;> omega)) _)))⟩
      unfold CfB
      simp
      omega
  · cases am
    · go_wp2
      refine bodyPost_ret (v := .agg #[.int .i64 (3 + Q10), .int .i64 (5 + Q0), .int .i64 (12 + Q1), .int .i64 (1 + Q2), .int .i64 (1 + Q3 + Q8), .int .i64 (1 + Q3), .int .i64 Q4, .int .i64 (6 + Q5), .int .i64 20, .int .i64 Q6, .int .u64 Q7]) (by simp [results, Try.results6, go_sem]) rfl ⟨_, _, _, _, _, _, _, _, _, _, _, rfl, ?_, (by repeat (first | with_reducible assumption | with_reducible exact alc0 _ _ | with_reducible refine alc ?_ _ | (with_reducible refine Below.setCell ?_ (by first | omega | (simp <;> omega)) _)))⟩
      unfold CfB
      simp
      omega
    · go_wp2
      refine bodyPost_ret (v := .agg #[.int .i64 (20 * (5 + Q0) + (12 + Q1)), .int .i64 (5 + Q0), .int .i64 (12 + Q1), .int .i64 (1 + Q2), .int .i64 (1 + Q3 + Q8), .int .i64 (1 + Q3), .int .i64 Q4, .int .i64 (6 + Q5), .int .i64 20, .int .i64 Q6, .int .u64 Q7]) (by simp [results, Try.results6, go_sem]) rfl ⟨_, _, _, _, _, _, _, _, _, _, _, rfl, ?_, (by repeat (first | with_reducible assumption | with_reducible exact alc0 _ _ | with_reducible refine alc ?_ _ | (with_reducible refine Below.setCell ?_ (by first | omega | (simp <;> omega)) _)))⟩
      unfold CfB
      simp
      omega
  · cases am
    · go_wp2
      refine bodyPost_ret (v := .agg #[.int .i64 (3 + Q10), .int .i64 (5 + Q0), .int .i64 (12 + Q1), .int .i64 (1 + Q2), .int .i64 (1 + Q3 + Q8), .int .i64 (1 + Q3), .int .i64 Q4, .int .i64 (6 + Q5), .int .i64 1, .int .i64 Q6, .int .u64 Q7]) (by simp [results, Try.results6, go_sem]) rfl ⟨_, _, _, _, _, _, _, _, _, _, _, rfl, ?_, (by repeat (first | with_reducible assumption | with_reducible exact alc0 _ _ | with_reducible refine alc ?_ _ | (with_reducible refine Below.setCell ?_ (by first | omega | (simp <;> omega)) _)))⟩
      unfold CfB
      simp
      omega
    · go_wp2
      refine bodyPost_ret (v := .agg #[.int .i64 (20 * (5 + Q0) + (12 + Q1)), .int .i64 (5 + Q0), .int .i64 (12 + Q1), .int .i64 (1 + Q2), .int .i64 (1 + Q3 + Q8), .int .i64 (1 + Q3), .int .i64 Q4, .int .i64 (6 + Q5), .int .i64 1, .int .i64 Q6, .int .u64 Q7]) (by simp [results, Try.results6, go_sem]) rfl ⟨_, _, _, _, _, _, _, _, _, _, _, rfl, ?_, (by repeat (first | with_reducible assumption | with_reducible exact alc0 _ _ | with_reducible refine alc ?_ _ | (with_reducible refine Below.setCell ?_ (by first | omega | (simp <;> omega)) _)))⟩
      unfold CfB
      simp
      omega
end Go.Proofs.Ytanmmhbnjmglhaa
