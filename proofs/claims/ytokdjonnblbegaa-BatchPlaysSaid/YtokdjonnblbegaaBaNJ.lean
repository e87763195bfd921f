/- The walk, joined. -/
import Derived.Test.YtokdjonnblbegaaBaNPwa
import Derived.Test.YtokdjonnblbegaaBaNPwb
import Derived.Test.YtokdjonnblbegaaBaNPwc
import Derived.Test.YtokdjonnblbegaaBaNPwd
import Derived.Test.YtokdjonnblbegaaBaNPtl
import Derived.Test.YtokdjonnblbegaaBaNPout
namespace Go.Proofs.Ytokdjonnblbegaa
set_option maxRecDepth 100000
open Go.RowKit Go.Maps
theorem bplays_t (n : Int) (A0 : Option Addr) (l0 : List AV) (c0 : Nat) (W : World) (ll0 : l0.length ≤ 9223372036854775807) (hp0 : ACTS W A0 l0) : Calls Try.prog 3 #[.int .i64 n, .slice A0 l0.length c0] W fun e w' => e = .returned (.bool true) ∧ Below W.heap.size W w' := bpStep.2.2.2.2.2.2 bpStep_wa bpStep_wb bpStep_wc bpStep_wd bpStep_tl bpStep_out n A0 l0 c0 W ll0 hp0
end Go.Proofs.Ytokdjonnblbegaa
