/- BrMX. -/
import Derived.Test.YtnfcpohbdkionaaGreatDoorZ49
import Derived.Test.YtnfcpohbdkionaaGreatDoorZ50
import Derived.Test.YtnfcpohbdkionaaGreatDoorZ51
import Derived.Test.YtnfcpohbdkionaaGreatDoorZ52
namespace Go.Proofs.YtnfcpohbdkionaaGreatDoor
set_option maxRecDepth 100000
open Go.RowKit Go.ChangeMaps Go.MapKept
set_option linter.unusedVariables false
theorem bmem_t (sb0 sl0 b l c p t : Int) (v : Bool) (b' l' c' p' t' : Int) (v' : Bool) (W : World) (ht : TzTab W) : Calls Tryz.prog 3 #[.agg #[.int .i64 sb0, .int .i64 sl0], .agg #[.int .i64 b, .int .i64 l, .int .i64 c, .int .i64 p, .int .i64 t, .bool v], .agg #[.int .i64 b', .int .i64 l', .int .i64 c', .int .i64 p', .int .i64 t', .bool v']] W fun e w' => e = .returned (.bool true) ∧ Below W.heap.size W w' := brStep.2.2.2.2 brStep_tree brStep_ra brStep_rb brStep_rc sb0 sl0 b l c p t v b' l' c' p' t' v' W ht
theorem walkBarrierMemory (a0_0 : Int) (a0_1 : Int) (a1_0 : Int) (a1_1 : Int) (a1_2 : Int) (a1_3 : Int) (a1_4 : Int) (a1_5 : Bool) (a2_0 : Int) (a2_1 : Int) (a2_2 : Int) (a2_3 : Int) (a2_4 : Int) (a2_5 : Bool) (w : World) (w0_0 : (Lit.int .i64 a0_0).wf = true) (w0_1 : (Lit.int .i64 a0_1).wf = true) (w1_0 : (Lit.int .i64 a1_0).wf = true) (w1_1 : (Lit.int .i64 a1_1).wf = true) (w1_2 : (Lit.int .i64 a1_2).wf = true) (w1_3 : (Lit.int .i64 a1_3).wf = true) (w1_4 : (Lit.int .i64 a1_4).wf = true) (w2_0 : (Lit.int .i64 a2_0).wf = true) (w2_1 : (Lit.int .i64 a2_1).wf = true) (w2_2 : (Lit.int .i64 a2_2).wf = true) (w2_3 : (Lit.int .i64 a2_3).wf = true) (w2_4 : (Lit.int .i64 a2_4).wf = true) (ht : TzTab w) :
    Calls Tryz.prog 3 #[.agg #[.int .i64 a0_0, .int .i64 a0_1], .agg #[.int .i64 a1_0, .int .i64 a1_1, .int .i64 a1_2, .int .i64 a1_3, .int .i64 a1_4, .bool a1_5], .agg #[.int .i64 a2_0, .int .i64 a2_1, .int .i64 a2_2, .int .i64 a2_3, .int .i64 a2_4, .bool a2_5]] w fun e w' => e = .returned (.bool true) ∧ Below w.heap.size w w' := by
  exact bmem_t _ _ _ _ _ _ _ _ _ _ _ _ _ _ w ht
end Go.Proofs.YtnfcpohbdkionaaGreatDoor
