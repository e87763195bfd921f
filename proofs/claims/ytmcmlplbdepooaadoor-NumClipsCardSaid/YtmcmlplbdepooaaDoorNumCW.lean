/- The walk of NumClips, whole. -/
import Derived.Test.YtmcmlplbdepooaaDoorNumCR
import Derived.Test.YtmcmlplbdepooaaDoorRow
namespace Go.Proofs.YtmcmlplbdepooaaDoor
open Go.RowKit
set_option linter.unusedVariables false
theorem walkNumClips (a0 : Int) (a1_0 : Int) (a1_1 : Int) (a2 : Option Addr) (len2 cap2 : Nat) (z2 : List Int) (w : World) (w0 : (Lit.int .i64 a0).wf = true) (w1_0 : (Lit.int .i64 a1_0).wf = true) (w1_1 : (Lit.int .i64 a1_1).wf = true) (w2 : IsRow .i64 w a2 len2 cap2 z2) (ht : PowTab w) :
    Calls Tryd.prog 5 #[.int .i64 a0, .agg #[.int .i64 a1_0, .int .i64 a1_1], .slice a2 len2 cap2] w fun e w' => e = .returned (.bool true) ∧ Below w.heap.size w w' := by
  rcases w2.at with h | ⟨b, off, rfl, hl, hm, hz, hc, hw⟩
  · subst h
    exact clips_nil a0 a1_0 a1_1 a2 cap2 w ht
  · by_cases h0 : len2 = 0
    · subst h0; exact clips_nil a0 a1_0 a1_1 _ cap2 w ht
    · refine clips_row a0 a1_0 a1_1 b off len2 cap2 (min len2 9) (z2.take (min len2 9)) w ht hl hm (by omega) (by omega) (by simp; omega) (World.block_lt_of_cell? w _ (hc 0 (by omega))) fun i hi => ?_
      rw [hc i (by omega)]
      simp [List.getD, hi]
end Go.Proofs.YtmcmlplbdepooaaDoor
