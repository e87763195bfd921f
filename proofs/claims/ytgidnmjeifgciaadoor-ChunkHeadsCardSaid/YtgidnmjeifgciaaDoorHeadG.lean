/- The walk of HeadAny. -/
import Derived.Test.YtgidnmjeifgciaaDoorHeadE
namespace Go.Proofs.YtgidnmjeifgciaaDoor
set_option maxRecDepth 100000
open Go.RowKit
set_option linter.unusedVariables false
set_option linter.unusedSimpArgs false

theorem hread_no (key at_ : Int) (g cap : Nat) (f : Nat → Nat) (w : World) (H : RowU g 16 w f) (hf : ∀ i, f i < 256) (hcap : 16 ≤ cap) (hk0 : 0 ≤ key) (hk1 : key < 18446744073709551616) (h : readOk key at_ f = false) :
    Calls Tryd.prog 93 #[.int .u64 key, .int .i64 at_, .slice (some ⟨g, 0, none⟩) 16 cap] w fun e w' => e = .returned (.tuple #[.agg #[.int .i64 0, .int .i64 0, .int .i64 0, .int .i64 0, .int .i64 0], .int .i64 11]) ∧ Below w.heap.size w w' := by
  refine (hread key at_ g cap f w H hf hcap hk0 hk1).mono fun e w' q => ?_
  unfold HReadPost at q
  rw [h, if_neg (by simp)] at q
  exact q
theorem hread_yes (key at_ : Int) (g cap : Nat) (f : Nat → Nat) (w : World) (H : RowU g 16 w f) (hf : ∀ i, f i < 256) (hcap : 16 ≤ cap) (hk0 : 0 ≤ key) (hk1 : key < 18446744073709551616) (h : readOk key at_ f = true) (F1 F2 F3 N E : Nat) (e1 : f 1 = F1) (e2 : f 2 = F2) (e3 : f 3 = F3) (e4 : get3 f 4 = N) (e5 : get3 f 7 = E) :
    Calls Tryd.prog 93 #[.int .u64 key, .int .i64 at_, .slice (some ⟨g, 0, none⟩) 16 cap] w fun e w' => e = .returned (.tuple #[.agg #[.int .i64 F1, .int .i64 F2, .int .i64 F3, .int .i64 N, .int .i64 E], .int .i64 0]) ∧ Below w.heap.size w w' := by
  refine (hread key at_ g cap f w H hf hcap hk0 hk1).mono fun e w' q => ?_
  unfold HReadPost at q
  rw [h, if_pos rfl, e1, e2, e3, e4, e5] at q
  exact q
end Go.Proofs.YtgidnmjeifgciaaDoor
