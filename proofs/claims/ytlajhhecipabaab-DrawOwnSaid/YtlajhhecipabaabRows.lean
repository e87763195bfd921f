/-
  No cell of these rows narrows 'for every input' (looked for: loops, veiled, ifaces, maps, wideKeys, modest, calm, conditions, laid).
  DERIVED. THE GIVEN ROWS OF THIS SEAT. 4 by the template 'for every input the law returns true; each argument reads behind the call as it read before'; 0 by the template 'total and deterministic' (their statements: YtlajhhecipabaabTotals.lean).
  GIVEN WITH THE SEED: the statements are not yours to turn. If you find one false, say at which input.
  Laid BY PROGRAM, IN A SANDBOX (cutbox-rows.mjs): the forced cells as the released guide's own fill.sh prints them over the translation d807fa29769e7e43… (all of the seat's roots in one cut). By AI agents, Wed Nov 11 2026. No macro, syntax, notation, axiom, sorry.
-/
import Derived.Test.YtlajhhecipabaabChecked
import GoSem.Claim
import GoSem.ClaimJoined
import GoSem.ClaimMapViews
import Derived.JoinedTies
import Derived.KernelRfl
namespace Go.Proofs.Ytlajhhecipabaab
/- THE CELL 'sum', in the pinned program and in every row, IS THE sha256 OF THE DUMP (.gsa) THAT YtlajhhecipabaabProg.lean LOADS. Nothing in Lean hashes anything: it is a label: what it is worth is what the hold of that sum in a sandbox is worth. -/
noncomputable def Try.pinned : Pinned := { name := "ytlajhhecipabaab", sum := "d807fa29769e7e4319d2a2bca9769e3b4f82b39fb04f0afed0506bb48afa429b", checked := Try.checked }
namespace Rows
def none {H : Type} : Left H := { results := [], args := [] }

/-- 'cubbyholelaw20.PickNext': WHATEVER THE INPUT: true; the input reads as it did. -/
def pickNextSpec : ChangeSpec := { name := "pickNext", fn := fun _ => fun
  | [d1, d2] => { results := [.lit (.bool true)], args := [d1, d2] }
  | _ => none }
def pickNextRow : OpenClaim := { program := "ytlajhhecipabaab", sum := "d807fa29769e7e4319d2a2bca9769e3b4f82b39fb04f0afed0506bb48afa429b", func := "cubbyhole/cubbyholelaw20.PickNext", spec := "pickNext", apart := false }
def PickNextSaid : Prop := pickNextRow.holds Try.pinned (OpenSpec.ofChange pickNextSpec)

/-- ITS FALSE NEIGHBOUR: 'it returns false'. Refute it at one input. -/
def pickNextWrong : ChangeSpec := { name := "pickNext", fn := fun _ => fun
  | [d1, d2] => { results := [.lit (.bool false)], args := [d1, d2] }
  | _ => none }
def PickNextWrongFalsely : Prop := pickNextRow.holds Try.pinned (OpenSpec.ofChange pickNextWrong)

/-- 'cubbyholelaw20.PickThree': WHATEVER THE INPUT: true; the input reads as it did. -/
def pickThreeSpec : ChangeSpec := { name := "pickThree", fn := fun _ => fun
  | [d1, d2, d3] => { results := [.lit (.bool true)], args := [d1, d2, d3] }
  | _ => none }
def pickThreeRow : OpenClaim := { program := "ytlajhhecipabaab", sum := "d807fa29769e7e4319d2a2bca9769e3b4f82b39fb04f0afed0506bb48afa429b", func := "cubbyhole/cubbyholelaw20.PickThree", spec := "pickThree", apart := false }
def PickThreeSaid : Prop := pickThreeRow.holds Try.pinned (OpenSpec.ofChange pickThreeSpec)

/-- ITS FALSE NEIGHBOUR: 'it returns false'. Refute it at one input. -/
def pickThreeWrong : ChangeSpec := { name := "pickThree", fn := fun _ => fun
  | [d1, d2, d3] => { results := [.lit (.bool false)], args := [d1, d2, d3] }
  | _ => none }
def PickThreeWrongFalsely : Prop := pickThreeRow.holds Try.pinned (OpenSpec.ofChange pickThreeWrong)

/-- 'cubbyholelaw22.DrawNext': WHATEVER THE INPUT: true; the input reads as it did. -/
def drawNextSpec : ChangeSpec := { name := "drawNext", fn := fun _ => fun
  | [d1, d2, d3] => { results := [.lit (.bool true)], args := [d1, d2, d3] }
  | _ => none }
def drawNextRow : OpenClaim := { program := "ytlajhhecipabaab", sum := "d807fa29769e7e4319d2a2bca9769e3b4f82b39fb04f0afed0506bb48afa429b", func := "cubbyhole/cubbyholelaw22.DrawNext", spec := "drawNext", apart := false }
def DrawNextSaid : Prop := drawNextRow.holds Try.pinned (OpenSpec.ofChange drawNextSpec)

/-- ITS FALSE NEIGHBOUR: 'it returns false'. Refute it at one input. -/
def drawNextWrong : ChangeSpec := { name := "drawNext", fn := fun _ => fun
  | [d1, d2, d3] => { results := [.lit (.bool false)], args := [d1, d2, d3] }
  | _ => none }
def DrawNextWrongFalsely : Prop := drawNextRow.holds Try.pinned (OpenSpec.ofChange drawNextWrong)

/-- 'cubbyholelaw22.DrawOwn': WHATEVER THE INPUT: true; the input reads as it did. -/
def drawOwnSpec : ChangeSpec := { name := "drawOwn", fn := fun _ => fun
  | [d1, d2] => { results := [.lit (.bool true)], args := [d1, d2] }
  | _ => none }
def drawOwnRow : OpenClaim := { program := "ytlajhhecipabaab", sum := "d807fa29769e7e4319d2a2bca9769e3b4f82b39fb04f0afed0506bb48afa429b", func := "cubbyhole/cubbyholelaw22.DrawOwn", spec := "drawOwn", apart := false }
def DrawOwnSaid : Prop := drawOwnRow.holds Try.pinned (OpenSpec.ofChange drawOwnSpec)

/-- ITS FALSE NEIGHBOUR: 'it returns false'. Refute it at one input. -/
def drawOwnWrong : ChangeSpec := { name := "drawOwn", fn := fun _ => fun
  | [d1, d2] => { results := [.lit (.bool false)], args := [d1, d2] }
  | _ => none }
def DrawOwnWrongFalsely : Prop := drawOwnRow.holds Try.pinned (OpenSpec.ofChange drawOwnWrong)

/- THE SECOND FORM. 'bulk': how many values and letters a reading holds, each counted each time it is reached (what is shared counts as often as it is met; a slice's spare places count too). A statement '..UptoSaid' is the law's where the arguments, and the package variables that the reading takes, are together of bulk at most 1048576: NARROWER than '..Said'. Prove '..Said' where nothing that the law and all that it calls make is longer than what came in: it says more and counts as full. Else prove '..UptoSaid'. A law counts once. -/
mutual
def uptoBulk {H : Type} : DataW H → Nat
  | .lit (.string bytes) => bytes.length + 1
  | .lit _ => 1
  | .nil => 1
  | .ptr d => uptoBulk d + 1
  | .slice elems spare => uptoBulkAll elems + uptoBulkAll spare + 1
  | .agg parts => uptoBulkAll parts + 1
  | .iface _ d => uptoBulk d + 1
  | .map entries => uptoBulkEntries entries + 1
  | .held _ => 1
def uptoBulkAll {H : Type} : List (DataW H) → Nat
  | [] => 0
  | d :: r => uptoBulk d + uptoBulkAll r
def uptoBulkEntries {H : Type} : List (Lit × DataW H) → Nat
  | [] => 0
  | x :: r => uptoBulkEntry x + uptoBulkEntries r
def uptoBulkEntry {H : Type} : Lit × DataW H → Nat
  | (.string bytes, d) => bytes.length + uptoBulk d + 1
  | (_, d) => uptoBulk d + 1
 end
def uptoSmall : (H : Type) → List (DataW H) → Bool := fun _ ds => decide (uptoBulkAll ds ≤ 1048576)
def OpenSpec.upto (s : _root_.Go.ChangeSpec) : _root_.Go.OpenSpec := { _root_.Go.OpenSpec.ofChange s with cond := some uptoSmall }

/-- 'cubbyholelaw20.PickNext', WHERE WHAT IT READS IS OF BULK AT MOST 1048576: true; the input reads as it did. -/
def pickNextUptoRow : OpenClaim := { program := "ytlajhhecipabaab", sum := "d807fa29769e7e4319d2a2bca9769e3b4f82b39fb04f0afed0506bb48afa429b", func := "cubbyhole/cubbyholelaw20.PickNext", spec := "pickNext", apart := false, narrowed := true }
def PickNextUptoSaid : Prop := pickNextUptoRow.holds Try.pinned (OpenSpec.upto pickNextSpec)

/-- 'cubbyholelaw20.PickThree', WHERE WHAT IT READS IS OF BULK AT MOST 1048576: true; the input reads as it did. -/
def pickThreeUptoRow : OpenClaim := { program := "ytlajhhecipabaab", sum := "d807fa29769e7e4319d2a2bca9769e3b4f82b39fb04f0afed0506bb48afa429b", func := "cubbyhole/cubbyholelaw20.PickThree", spec := "pickThree", apart := false, narrowed := true }
def PickThreeUptoSaid : Prop := pickThreeUptoRow.holds Try.pinned (OpenSpec.upto pickThreeSpec)

/-- 'cubbyholelaw22.DrawNext', WHERE WHAT IT READS IS OF BULK AT MOST 1048576: true; the input reads as it did. -/
def drawNextUptoRow : OpenClaim := { program := "ytlajhhecipabaab", sum := "d807fa29769e7e4319d2a2bca9769e3b4f82b39fb04f0afed0506bb48afa429b", func := "cubbyhole/cubbyholelaw22.DrawNext", spec := "drawNext", apart := false, narrowed := true }
def DrawNextUptoSaid : Prop := drawNextUptoRow.holds Try.pinned (OpenSpec.upto drawNextSpec)

/-- 'cubbyholelaw22.DrawOwn', WHERE WHAT IT READS IS OF BULK AT MOST 1048576: true; the input reads as it did. -/
def drawOwnUptoRow : OpenClaim := { program := "ytlajhhecipabaab", sum := "d807fa29769e7e4319d2a2bca9769e3b4f82b39fb04f0afed0506bb48afa429b", func := "cubbyhole/cubbyholelaw22.DrawOwn", spec := "drawOwn", apart := false, narrowed := true }
def DrawOwnUptoSaid : Prop := drawOwnUptoRow.holds Try.pinned (OpenSpec.upto drawOwnSpec)

end Rows
end Go.Proofs.Ytlajhhecipabaab
