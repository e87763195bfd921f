/- The zero of tags.Tags. -/
import Derived.Test.YtgjahmdfkbdcpaaRows
import Derived.Test.YtgjahmdfkbdcpaaInt
import Derived.WalkKit
import Derived.ProofKit
import Derived.OpenShut
import Derived.Lib.Hide
import Derived.Deep.WholeRow
namespace Go.Proofs.Ytgjahmdfkbdcpaa
open Go.RowKit
def tagZ : Array Value := Array.replicate 8192 (.int .u8 0)
set_option maxRecDepth 1000000 in
theorem tagInfo : (Try.prog.info? 35).map (fun i => (i.zero, i.size)) = some (some (.agg tagZ), 8192) := by kernel_rfl
set_option maxRecDepth 1000000 in
theorem tagBuilt : Try.prog.built 35 ((#[] : Array (Nat × Value)).toList) = some tagZ := by kernel_rfl
theorem tagSize : tagZ.size = 8192 := by simp [tagZ]
theorem tagOne : tagZ.all (·.oneCell') = true := by
  rw [Array.all_eq_true]
  intro i h
  simp [tagZ, Value.oneCell']
end Go.Proofs.Ytgjahmdfkbdcpaa
