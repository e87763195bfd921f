/-
  No cell of these rows narrows 'for every input' (looked for: loops, veiled, ifaces, maps, wideKeys, modest, calm, conditions, laid).
  DERIVED. THE GIVEN ROWS OF THIS SEAT. 5 by the template 'for every input the law returns true; each argument reads behind the call as it read before'; 0 by the template 'total and deterministic' (their statements: YtahggokeelgjdaaTotals.lean).
  GIVEN WITH THE SEED: the statements are not yours to turn. If you find one false, say at which input.
  Laid BY PROGRAM, IN A SANDBOX (cutbox-rows.mjs): the forced cells as the released guide's own fill.sh prints them over the translation 7b3f8e3b4d426499… (all of the seat's roots in one cut). By AI agents, Wed Nov 11 2026. No macro, syntax, notation, axiom, sorry.
-/
import Derived.Test.YtahggokeelgjdaaChecked
import GoSem.Claim
import GoSem.ClaimJoined
import GoSem.ClaimMapViews
import Derived.JoinedTies
import Derived.KernelRfl
namespace Go.Proofs.Ytahggokeelgjdaa
/- THE CELL 'sum', in the pinned program and in every row, IS THE sha256 OF THE DUMP (.gsa) THAT YtahggokeelgjdaaProg.lean LOADS. Nothing in Lean hashes anything: it is a label: what it is worth is what the hold of that sum in a sandbox is worth. -/
noncomputable def Try.pinned : Pinned := { name := "ytahggokeelgjdaa", sum := "7b3f8e3b4d42649912a42c28636b31fde1dffb8ef911727fe5b63f49e6bfc72e", checked := Try.checked }
namespace Rows
def none {H : Type} : Left H := { results := [], args := [] }

/-- 'cubbyholelaw54.TraceBytes': WHATEVER THE INPUT: true; the input reads as it did. -/
def traceBytesSpec : ChangeSpec := { name := "traceBytes", fn := fun _ => fun
  | [d1, d2] => { results := [.lit (.bool true)], args := [d1, d2] }
  | _ => none }
def traceBytesRow : OpenClaim := { program := "ytahggokeelgjdaa", sum := "7b3f8e3b4d42649912a42c28636b31fde1dffb8ef911727fe5b63f49e6bfc72e", func := "cubbyhole/cubbyholelaw54.TraceBytes", spec := "traceBytes", apart := false }
def TraceBytesSaid : Prop := traceBytesRow.holds Try.pinned (OpenSpec.ofChange traceBytesSpec)

/-- ITS FALSE NEIGHBOUR: 'it returns false'. Refute it at one input. -/
def traceBytesWrong : ChangeSpec := { name := "traceBytes", fn := fun _ => fun
  | [d1, d2] => { results := [.lit (.bool false)], args := [d1, d2] }
  | _ => none }
def TraceBytesWrongFalsely : Prop := traceBytesRow.holds Try.pinned (OpenSpec.ofChange traceBytesWrong)

/-- 'cubbyholelaw54.TraceBack': WHATEVER THE INPUT: true; the input reads as it did. -/
def traceBackSpec : ChangeSpec := { name := "traceBack", fn := fun _ => fun
  | [d] => { results := [.lit (.bool true)], args := [d] }
  | _ => none }
def traceBackRow : OpenClaim := { program := "ytahggokeelgjdaa", sum := "7b3f8e3b4d42649912a42c28636b31fde1dffb8ef911727fe5b63f49e6bfc72e", func := "cubbyhole/cubbyholelaw54.TraceBack", spec := "traceBack", apart := false }
def TraceBackSaid : Prop := traceBackRow.holds Try.pinned (OpenSpec.ofChange traceBackSpec)

/-- ITS FALSE NEIGHBOUR: 'it returns false'. Refute it at one input. -/
def traceBackWrong : ChangeSpec := { name := "traceBack", fn := fun _ => fun
  | [d] => { results := [.lit (.bool false)], args := [d] }
  | _ => none }
def TraceBackWrongFalsely : Prop := traceBackRow.holds Try.pinned (OpenSpec.ofChange traceBackWrong)

/-- 'cubbyholelaw54.TraceAny': WHATEVER THE INPUT: true; the input reads as it did. -/
def traceAnySpec : ChangeSpec := { name := "traceAny", fn := fun _ => fun
  | [d] => { results := [.lit (.bool true)], args := [d] }
  | _ => none }
def traceAnyRow : OpenClaim := { program := "ytahggokeelgjdaa", sum := "7b3f8e3b4d42649912a42c28636b31fde1dffb8ef911727fe5b63f49e6bfc72e", func := "cubbyhole/cubbyholelaw54.TraceAny", spec := "traceAny", apart := false }
def TraceAnySaid : Prop := traceAnyRow.holds Try.pinned (OpenSpec.ofChange traceAnySpec)

/-- ITS FALSE NEIGHBOUR: 'it returns false'. Refute it at one input. -/
def traceAnyWrong : ChangeSpec := { name := "traceAny", fn := fun _ => fun
  | [d] => { results := [.lit (.bool false)], args := [d] }
  | _ => none }
def TraceAnyWrongFalsely : Prop := traceAnyRow.holds Try.pinned (OpenSpec.ofChange traceAnyWrong)

/-- 'cubbyholelaw54.TraceSame': WHATEVER THE INPUT: true; the input reads as it did. -/
def traceSameSpec : ChangeSpec := { name := "traceSame", fn := fun _ => fun
  | [d1, d2, d3] => { results := [.lit (.bool true)], args := [d1, d2, d3] }
  | _ => none }
def traceSameRow : OpenClaim := { program := "ytahggokeelgjdaa", sum := "7b3f8e3b4d42649912a42c28636b31fde1dffb8ef911727fe5b63f49e6bfc72e", func := "cubbyhole/cubbyholelaw54.TraceSame", spec := "traceSame", unfollowed := true, recurses := true, apart := false }
def TraceSameSaid : Prop := traceSameRow.holds Try.pinned (OpenSpec.ofChange traceSameSpec)

/-- ITS FALSE NEIGHBOUR: 'it returns false'. Refute it at one input. -/
def traceSameWrong : ChangeSpec := { name := "traceSame", fn := fun _ => fun
  | [d1, d2, d3] => { results := [.lit (.bool false)], args := [d1, d2, d3] }
  | _ => none }
def TraceSameWrongFalsely : Prop := traceSameRow.holds Try.pinned (OpenSpec.ofChange traceSameWrong)

/-- 'cubbyholelaw51.DrillBelow': WHATEVER THE INPUT: true; the input reads as it did. -/
def drillBelowSpec : ChangeSpec := { name := "drillBelow", fn := fun _ => fun
  | [d1, d2] => { results := [.lit (.bool true)], args := [d1, d2] }
  | _ => none }
def drillBelowRow : OpenClaim := { program := "ytahggokeelgjdaa", sum := "7b3f8e3b4d42649912a42c28636b31fde1dffb8ef911727fe5b63f49e6bfc72e", func := "cubbyhole/cubbyholelaw51.DrillBelow", spec := "drillBelow", apart := false }
def DrillBelowSaid : Prop := drillBelowRow.holds Try.pinned (OpenSpec.ofChange drillBelowSpec)

/-- ITS FALSE NEIGHBOUR: 'it returns false'. Refute it at one input. -/
def drillBelowWrong : ChangeSpec := { name := "drillBelow", fn := fun _ => fun
  | [d1, d2] => { results := [.lit (.bool false)], args := [d1, d2] }
  | _ => none }
def DrillBelowWrongFalsely : Prop := drillBelowRow.holds Try.pinned (OpenSpec.ofChange drillBelowWrong)

/- THE SECOND FORM. 'bulk': how many values and letters a reading holds, each counted each time it is reached (what is shared counts as often as it is met; a slice's spare places count too). A statement '..UptoSaid' is the law's where the arguments, and the package variables that the reading takes, are together of bulk at most 1048576: NARROWER than '..Said'. Prove '..Said' where nothing that the law and all that it calls make is longer than what came in: it says more and counts as full. Else prove '..UptoSaid'. A law counts once. -/
mutual
def uptoBulk {H : Type} : DataW H → Nat
  | .lit (.string bytes) => bytes.length + 1
  | .lit _ => 1
  | .nil => 1
  | .ptr d => uptoBulk d + 1
  | .slice elems spare => uptoBulkAll elems + uptoBulkAll spare + 1
  | .agg parts => uptoBulkAll parts + 1
  | .iface _ d => uptoBulk d + 1
  | .map entries => uptoBulkEntries entries + 1
  | .held _ => 1
def uptoBulkAll {H : Type} : List (DataW H) → Nat
  | [] => 0
  | d :: r => uptoBulk d + uptoBulkAll r
def uptoBulkEntries {H : Type} : List (Lit × DataW H) → Nat
  | [] => 0
  | x :: r => uptoBulkEntry x + uptoBulkEntries r
def uptoBulkEntry {H : Type} : Lit × DataW H → Nat
  | (.string bytes, d) => bytes.length + uptoBulk d + 1
  | (_, d) => uptoBulk d + 1
 end
def uptoSmall : (H : Type) → List (DataW H) → Bool := fun _ ds => decide (uptoBulkAll ds ≤ 1048576)
def OpenSpec.upto (s : _root_.Go.ChangeSpec) : _root_.Go.OpenSpec := { _root_.Go.OpenSpec.ofChange s with cond := some uptoSmall }

/-- 'cubbyholelaw54.TraceBytes', WHERE WHAT IT READS IS OF BULK AT MOST 1048576: true; the input reads as it did. -/
def traceBytesUptoRow : OpenClaim := { program := "ytahggokeelgjdaa", sum := "7b3f8e3b4d42649912a42c28636b31fde1dffb8ef911727fe5b63f49e6bfc72e", func := "cubbyhole/cubbyholelaw54.TraceBytes", spec := "traceBytes", apart := false, narrowed := true }
def TraceBytesUptoSaid : Prop := traceBytesUptoRow.holds Try.pinned (OpenSpec.upto traceBytesSpec)

/-- 'cubbyholelaw54.TraceBack', WHERE WHAT IT READS IS OF BULK AT MOST 1048576: true; the input reads as it did. -/
def traceBackUptoRow : OpenClaim := { program := "ytahggokeelgjdaa", sum := "7b3f8e3b4d42649912a42c28636b31fde1dffb8ef911727fe5b63f49e6bfc72e", func := "cubbyhole/cubbyholelaw54.TraceBack", spec := "traceBack", apart := false, narrowed := true }
def TraceBackUptoSaid : Prop := traceBackUptoRow.holds Try.pinned (OpenSpec.upto traceBackSpec)

/-- 'cubbyholelaw54.TraceAny', WHERE WHAT IT READS IS OF BULK AT MOST 1048576: true; the input reads as it did. -/
def traceAnyUptoRow : OpenClaim := { program := "ytahggokeelgjdaa", sum := "7b3f8e3b4d42649912a42c28636b31fde1dffb8ef911727fe5b63f49e6bfc72e", func := "cubbyhole/cubbyholelaw54.TraceAny", spec := "traceAny", apart := false, narrowed := true }
def TraceAnyUptoSaid : Prop := traceAnyUptoRow.holds Try.pinned (OpenSpec.upto traceAnySpec)

/-- 'cubbyholelaw54.TraceSame', WHERE WHAT IT READS IS OF BULK AT MOST 1048576: true; the input reads as it did. -/
def traceSameUptoRow : OpenClaim := { program := "ytahggokeelgjdaa", sum := "7b3f8e3b4d42649912a42c28636b31fde1dffb8ef911727fe5b63f49e6bfc72e", func := "cubbyhole/cubbyholelaw54.TraceSame", spec := "traceSame", unfollowed := true, recurses := true, apart := false, narrowed := true }
def TraceSameUptoSaid : Prop := traceSameUptoRow.holds Try.pinned (OpenSpec.upto traceSameSpec)

/-- 'cubbyholelaw51.DrillBelow', WHERE WHAT IT READS IS OF BULK AT MOST 1048576: true; the input reads as it did. -/
def drillBelowUptoRow : OpenClaim := { program := "ytahggokeelgjdaa", sum := "7b3f8e3b4d42649912a42c28636b31fde1dffb8ef911727fe5b63f49e6bfc72e", func := "cubbyhole/cubbyholelaw51.DrillBelow", spec := "drillBelow", apart := false, narrowed := true }
def DrillBelowUptoSaid : Prop := drillBelowUptoRow.holds Try.pinned (OpenSpec.upto drillBelowSpec)

end Rows
end Go.Proofs.Ytahggokeelgjdaa
