/- The zero of tags.Tags. -/
import Derived.Test.YtgidnmjeifgciaaDoorRows
import Derived.Test.YtgidnmjeifgciaaDoorInt
import Derived.WalkKit
import Derived.ProofKit
import Derived.OpenShut
import Derived.Lib.Hide
import Derived.Deep.WholeRow
namespace Go.Proofs.YtgidnmjeifgciaaDoor
set_option maxRecDepth 100000
open Go.RowKit
def tagZ : Array Value := Array.replicate 8192 (.int .u8 0)
set_option maxRecDepth 1000000 in
theorem tagInfo : (Tryd.prog.info? 152).map (fun i => (i.zero, i.size)) = some (some (.agg tagZ), 8192) := by kernel_rfl
set_option maxRecDepth 1000000 in
theorem tagBuilt : Tryd.prog.built 152 ((#[] : Array (Nat × Value)).toList) = some tagZ := by kernel_rfl
theorem tagSize : tagZ.size = 8192 := by simp [tagZ]
theorem tagOne : tagZ.all (·.oneCell') = true := by
  rw [Array.all_eq_true]
  intro i h
  simp [tagZ, Value.oneCell']
end Go.Proofs.YtgidnmjeifgciaaDoor
