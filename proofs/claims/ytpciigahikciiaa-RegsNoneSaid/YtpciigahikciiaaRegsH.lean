/- The walk of RegsNone. -/
import Derived.Test.YtpciigahikciiaaRegsG0
import Derived.Test.YtpciigahikciiaaRegsG1
import Derived.Test.YtpciigahikciiaaRegsG2
import Derived.Test.YtpciigahikciiaaRegsG3
import Derived.Test.YtpciigahikciiaaRegsG4
import Derived.Test.YtpciigahikciiaaRegsG5
import Derived.Test.YtpciigahikciiaaRegsG6
namespace Go.Proofs.Ytpciigahikciiaa
open Go.RowKit
set_option linter.unusedVariables false

theorem walkRegsNone (a0 : Int) (a1 : Int) (a2_0 : Int) (a2_1 : Int) (a2_2 : Int) (a2_3 : Int) (a2_4 : Int) (a2_5 : Bool) (w : World) (w0 : (Lit.int .i64 a0).wf = true) (w1 : (Lit.int .i64 a1).wf = true) (w2_0 : (Lit.int .i64 a2_0).wf = true) (w2_1 : (Lit.int .i64 a2_1).wf = true) (w2_2 : (Lit.int .i64 a2_2).wf = true) (w2_3 : (Lit.int .i64 a2_3).wf = true) (w2_4 : (Lit.int .i64 a2_4).wf = true) :
    Calls Try.prog 4 #[.int .i64 a0, .int .i64 a1, .agg #[.int .i64 a2_0, .int .i64 a2_1, .int .i64 a2_2, .int .i64 a2_3, .int .i64 a2_4, .bool a2_5]] w fun e w' => e = .returned (.bool true) ∧ Below w.heap.size w w' := by
  have key : ∃ k : Nat, (k : Int) = min (max a0 0) 64 := ⟨(min (max a0 0) 64).toNat, by omega⟩
  obtain ⟨k, hk⟩ := key
  have hs : a0 < 0 ∨ (0 ≤ a0 ∧ a0 ≤ 64) ∨ 64 < a0 := by omega
  rcases hs with hs | ⟨hs1, hs2⟩ | hs
  · have h0 : (k : Int) = 0 := by omega
    rcases Int.lt_or_le a1 0 with hi | hi
    · exact rnAlo a0 k hs h0 a1 hi _ _ _ _ _ _ w
    · exact rnAhi a0 k hs h0 a1 hi (by omega) _ _ _ _ _ _ w
  · obtain rfl : a0 = k := by omega
    rcases Int.lt_or_le a1 0 with hi | hi
    · exact rnBlo k (by omega) (by omega) a1 hi _ _ _ _ _ _ w
    · by_cases hj : a1 < (k : Int)
      · obtain ⟨H, rfl⟩ := Int.eq_ofNat_of_zero_le hi
        cases hm : capMayB a2_0 a2_1 a2_2 a2_3 a2_4 a2_5
        · exact rnBfalse k (by omega) (by omega) H (by omega) hj _ _ _ _ _ _ w hm
        · exact rnBtrue k (by omega) (by omega) H (by omega) hj _ _ _ _ _ _ w hm
      · exact rnBhi k (by omega) (by omega) a1 hi hj _ _ _ _ _ _ w
  · have h0 : (k : Int) = 64 := by omega
    rcases Int.lt_or_le a1 0 with hi | hi
    · exact rnClo a0 k (by omega) hs h0 a1 hi _ _ _ _ _ _ w
    · by_cases hj : a1 < 64
      · obtain ⟨H, rfl⟩ := Int.eq_ofNat_of_zero_le hi
        cases hm : capMayB a2_0 a2_1 a2_2 a2_3 a2_4 a2_5
        · exact rnCfalse a0 k (by omega) hs h0 H (by omega) hj _ _ _ _ _ _ w hm
        · exact rnCtrue a0 k (by omega) hs h0 H (by omega) hj _ _ _ _ _ _ w hm
      · exact rnChi a0 k (by omega) hs h0 a1 hi hj _ _ _ _ _ _ w
end Go.Proofs.Ytpciigahikciiaa
