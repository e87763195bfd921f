/-
  No cell of these rows narrows 'for every input' (looked for: loops, veiled, ifaces, maps, wideKeys, modest, calm, conditions, laid).
  DERIVED. THE GIVEN ROWS OF THIS SEAT. 6 by the template 'for every input the law returns true; each argument reads behind the call as it read before'; 0 by the template 'total and deterministic' (their statements: YtbmcgoodilomlaaTotals.lean).
  GIVEN WITH THE SEED: the statements are not yours to turn. If you find one false, say at which input.
  Laid BY PROGRAM, IN A SANDBOX (cutbox-rows.mjs): the forced cells as the released guide's own fill.sh prints them over the translation bc7846bbe2af0907… (all of the seat's roots in one cut). By AI agents, Wed Nov 11 2026. No macro, syntax, notation, axiom, sorry.
-/
import Derived.Test.YtbmcgoodilomlaaChecked
import GoSem.Claim
import GoSem.ClaimJoined
import GoSem.ClaimMapViews
import Derived.JoinedTies
import Derived.KernelRfl
namespace Go.Proofs.Ytbmcgoodilomlaa
/- THE CELL 'sum', in the pinned program and in every row, IS THE sha256 OF THE DUMP (.gsa) THAT YtbmcgoodilomlaaProg.lean LOADS. Nothing in Lean hashes anything: it is a label: what it is worth is what the hold of that sum in a sandbox is worth. -/
noncomputable def Try.pinned : Pinned := { name := "ytbmcgoodilomlaa", sum := "bc7846bbe2af0907b3e6c603aceaa389affc7e0d02bd7e05b91799939314ed63", checked := Try.checked }
namespace Rows
def none {H : Type} : Left H := { results := [], args := [] }

/-- 'cubbyholelaw22.DrawNext': WHATEVER THE INPUT: true; the input reads as it did. -/
def drawNextSpec : ChangeSpec := { name := "drawNext", fn := fun _ => fun
  | [d1, d2, d3] => { results := [.lit (.bool true)], args := [d1, d2, d3] }
  | _ => none }
def drawNextRow : OpenClaim := { program := "ytbmcgoodilomlaa", sum := "bc7846bbe2af0907b3e6c603aceaa389affc7e0d02bd7e05b91799939314ed63", func := "cubbyhole/cubbyholelaw22.DrawNext", spec := "drawNext", plainKeys := false, apart := false }
def DrawNextSaid : Prop := drawNextRow.holds Try.pinned (OpenSpec.ofChange drawNextSpec)

/-- ITS FALSE NEIGHBOUR: 'it returns false'. Refute it at one input. -/
def drawNextWrong : ChangeSpec := { name := "drawNext", fn := fun _ => fun
  | [d1, d2, d3] => { results := [.lit (.bool false)], args := [d1, d2, d3] }
  | _ => none }
def DrawNextWrongFalsely : Prop := drawNextRow.holds Try.pinned (OpenSpec.ofChange drawNextWrong)

/-- 'cubbyholelaw22.DrawOwn': WHATEVER THE INPUT: true; the input reads as it did. -/
def drawOwnSpec : ChangeSpec := { name := "drawOwn", fn := fun _ => fun
  | [d1, d2] => { results := [.lit (.bool true)], args := [d1, d2] }
  | _ => none }
def drawOwnRow : OpenClaim := { program := "ytbmcgoodilomlaa", sum := "bc7846bbe2af0907b3e6c603aceaa389affc7e0d02bd7e05b91799939314ed63", func := "cubbyhole/cubbyholelaw22.DrawOwn", spec := "drawOwn", plainKeys := false, apart := false }
def DrawOwnSaid : Prop := drawOwnRow.holds Try.pinned (OpenSpec.ofChange drawOwnSpec)

/-- ITS FALSE NEIGHBOUR: 'it returns false'. Refute it at one input. -/
def drawOwnWrong : ChangeSpec := { name := "drawOwn", fn := fun _ => fun
  | [d1, d2] => { results := [.lit (.bool false)], args := [d1, d2] }
  | _ => none }
def DrawOwnWrongFalsely : Prop := drawOwnRow.holds Try.pinned (OpenSpec.ofChange drawOwnWrong)

/-- 'cubbyholelaw23.ShufOrder': WHATEVER THE INPUT: true; the input reads as it did. -/
def shufOrderSpec : ChangeSpec := { name := "shufOrder", fn := fun _ => fun
  | [d1, d2] => { results := [.lit (.bool true)], args := [d1, d2] }
  | _ => none }
def shufOrderRow : OpenClaim := { program := "ytbmcgoodilomlaa", sum := "bc7846bbe2af0907b3e6c603aceaa389affc7e0d02bd7e05b91799939314ed63", func := "cubbyhole/cubbyholelaw23.ShufOrder", spec := "shufOrder", plainKeys := false, apart := false }
def ShufOrderSaid : Prop := shufOrderRow.holds Try.pinned (OpenSpec.ofChange shufOrderSpec)

/-- ITS FALSE NEIGHBOUR: 'it returns false'. Refute it at one input. -/
def shufOrderWrong : ChangeSpec := { name := "shufOrder", fn := fun _ => fun
  | [d1, d2] => { results := [.lit (.bool false)], args := [d1, d2] }
  | _ => none }
def ShufOrderWrongFalsely : Prop := shufOrderRow.holds Try.pinned (OpenSpec.ofChange shufOrderWrong)

/-- 'cubbyholelaw23.ShufBack': WHATEVER THE INPUT: true; the input reads as it did. -/
def shufBackSpec : ChangeSpec := { name := "shufBack", fn := fun _ => fun
  | [d1, d2, d3] => { results := [.lit (.bool true)], args := [d1, d2, d3] }
  | _ => none }
def shufBackRow : OpenClaim := { program := "ytbmcgoodilomlaa", sum := "bc7846bbe2af0907b3e6c603aceaa389affc7e0d02bd7e05b91799939314ed63", func := "cubbyhole/cubbyholelaw23.ShufBack", spec := "shufBack", plainKeys := false, apart := false }
def ShufBackSaid : Prop := shufBackRow.holds Try.pinned (OpenSpec.ofChange shufBackSpec)

/-- ITS FALSE NEIGHBOUR: 'it returns false'. Refute it at one input. -/
def shufBackWrong : ChangeSpec := { name := "shufBack", fn := fun _ => fun
  | [d1, d2, d3] => { results := [.lit (.bool false)], args := [d1, d2, d3] }
  | _ => none }
def ShufBackWrongFalsely : Prop := shufBackRow.holds Try.pinned (OpenSpec.ofChange shufBackWrong)

/-- 'cubbyholelaw19.StateNext': WHATEVER THE INPUT: true; the input reads as it did. -/
def stateNextSpec : ChangeSpec := { name := "stateNext", fn := fun _ => fun
  | [d1, d2] => { results := [.lit (.bool true)], args := [d1, d2] }
  | _ => none }
def stateNextRow : OpenClaim := { program := "ytbmcgoodilomlaa", sum := "bc7846bbe2af0907b3e6c603aceaa389affc7e0d02bd7e05b91799939314ed63", func := "cubbyhole/cubbyholelaw19.StateNext", spec := "stateNext", plainKeys := false, apart := false }
def StateNextSaid : Prop := stateNextRow.holds Try.pinned (OpenSpec.ofChange stateNextSpec)

/-- ITS FALSE NEIGHBOUR: 'it returns false'. Refute it at one input. -/
def stateNextWrong : ChangeSpec := { name := "stateNext", fn := fun _ => fun
  | [d1, d2] => { results := [.lit (.bool false)], args := [d1, d2] }
  | _ => none }
def StateNextWrongFalsely : Prop := stateNextRow.holds Try.pinned (OpenSpec.ofChange stateNextWrong)

/-- 'cubbyholelaw19.StateRuns': WHATEVER THE INPUT: true; the input reads as it did. -/
def stateRunsSpec : ChangeSpec := { name := "stateRuns", fn := fun _ => fun
  | [d1, d2] => { results := [.lit (.bool true)], args := [d1, d2] }
  | _ => none }
def stateRunsRow : OpenClaim := { program := "ytbmcgoodilomlaa", sum := "bc7846bbe2af0907b3e6c603aceaa389affc7e0d02bd7e05b91799939314ed63", func := "cubbyhole/cubbyholelaw19.StateRuns", spec := "stateRuns", plainKeys := false, apart := false }
def StateRunsSaid : Prop := stateRunsRow.holds Try.pinned (OpenSpec.ofChange stateRunsSpec)

/-- ITS FALSE NEIGHBOUR: 'it returns false'. Refute it at one input. -/
def stateRunsWrong : ChangeSpec := { name := "stateRuns", fn := fun _ => fun
  | [d1, d2] => { results := [.lit (.bool false)], args := [d1, d2] }
  | _ => none }
def StateRunsWrongFalsely : Prop := stateRunsRow.holds Try.pinned (OpenSpec.ofChange stateRunsWrong)

/- THE SECOND FORM. 'bulk': how many values and letters a reading holds, each counted each time it is reached (what is shared counts as often as it is met; a slice's spare places count too). A statement '..UptoSaid' is the law's where the arguments, and the package variables that the reading takes, are together of bulk at most 1048576: NARROWER than '..Said'. Prove '..Said' where nothing that the law and all that it calls make is longer than what came in: it says more and counts as full. Else prove '..UptoSaid'. A law counts once. -/
mutual
def uptoBulk {H : Type} : DataW H → Nat
  | .lit (.string bytes) => bytes.length + 1
  | .lit _ => 1
  | .nil => 1
  | .ptr d => uptoBulk d + 1
  | .slice elems spare => uptoBulkAll elems + uptoBulkAll spare + 1
  | .agg parts => uptoBulkAll parts + 1
  | .iface _ d => uptoBulk d + 1
  | .map entries => uptoBulkEntries entries + 1
  | .held _ => 1
def uptoBulkAll {H : Type} : List (DataW H) → Nat
  | [] => 0
  | d :: r => uptoBulk d + uptoBulkAll r
def uptoBulkEntries {H : Type} : List (Lit × DataW H) → Nat
  | [] => 0
  | x :: r => uptoBulkEntry x + uptoBulkEntries r
def uptoBulkEntry {H : Type} : Lit × DataW H → Nat
  | (.string bytes, d) => bytes.length + uptoBulk d + 1
  | (_, d) => uptoBulk d + 1
 end
def uptoSmall : (H : Type) → List (DataW H) → Bool := fun _ ds => decide (uptoBulkAll ds ≤ 1048576)
def OpenSpec.upto (s : _root_.Go.ChangeSpec) : _root_.Go.OpenSpec := { _root_.Go.OpenSpec.ofChange s with cond := some uptoSmall }

/-- 'cubbyholelaw22.DrawNext', WHERE WHAT IT READS IS OF BULK AT MOST 1048576: true; the input reads as it did. -/
def drawNextUptoRow : OpenClaim := { program := "ytbmcgoodilomlaa", sum := "bc7846bbe2af0907b3e6c603aceaa389affc7e0d02bd7e05b91799939314ed63", func := "cubbyhole/cubbyholelaw22.DrawNext", spec := "drawNext", plainKeys := false, apart := false, narrowed := true }
def DrawNextUptoSaid : Prop := drawNextUptoRow.holds Try.pinned (OpenSpec.upto drawNextSpec)

/-- 'cubbyholelaw22.DrawOwn', WHERE WHAT IT READS IS OF BULK AT MOST 1048576: true; the input reads as it did. -/
def drawOwnUptoRow : OpenClaim := { program := "ytbmcgoodilomlaa", sum := "bc7846bbe2af0907b3e6c603aceaa389affc7e0d02bd7e05b91799939314ed63", func := "cubbyhole/cubbyholelaw22.DrawOwn", spec := "drawOwn", plainKeys := false, apart := false, narrowed := true }
def DrawOwnUptoSaid : Prop := drawOwnUptoRow.holds Try.pinned (OpenSpec.upto drawOwnSpec)

/-- 'cubbyholelaw23.ShufOrder', WHERE WHAT IT READS IS OF BULK AT MOST 1048576: true; the input reads as it did. -/
def shufOrderUptoRow : OpenClaim := { program := "ytbmcgoodilomlaa", sum := "bc7846bbe2af0907b3e6c603aceaa389affc7e0d02bd7e05b91799939314ed63", func := "cubbyhole/cubbyholelaw23.ShufOrder", spec := "shufOrder", plainKeys := false, apart := false, narrowed := true }
def ShufOrderUptoSaid : Prop := shufOrderUptoRow.holds Try.pinned (OpenSpec.upto shufOrderSpec)

/-- 'cubbyholelaw23.ShufBack', WHERE WHAT IT READS IS OF BULK AT MOST 1048576: true; the input reads as it did. -/
def shufBackUptoRow : OpenClaim := { program := "ytbmcgoodilomlaa", sum := "bc7846bbe2af0907b3e6c603aceaa389affc7e0d02bd7e05b91799939314ed63", func := "cubbyhole/cubbyholelaw23.ShufBack", spec := "shufBack", plainKeys := false, apart := false, narrowed := true }
def ShufBackUptoSaid : Prop := shufBackUptoRow.holds Try.pinned (OpenSpec.upto shufBackSpec)

/-- 'cubbyholelaw19.StateNext', WHERE WHAT IT READS IS OF BULK AT MOST 1048576: true; the input reads as it did. -/
def stateNextUptoRow : OpenClaim := { program := "ytbmcgoodilomlaa", sum := "bc7846bbe2af0907b3e6c603aceaa389affc7e0d02bd7e05b91799939314ed63", func := "cubbyhole/cubbyholelaw19.StateNext", spec := "stateNext", plainKeys := false, apart := false, narrowed := true }
def StateNextUptoSaid : Prop := stateNextUptoRow.holds Try.pinned (OpenSpec.upto stateNextSpec)

/-- 'cubbyholelaw19.StateRuns', WHERE WHAT IT READS IS OF BULK AT MOST 1048576: true; the input reads as it did. -/
def stateRunsUptoRow : OpenClaim := { program := "ytbmcgoodilomlaa", sum := "bc7846bbe2af0907b3e6c603aceaa389affc7e0d02bd7e05b91799939314ed63", func := "cubbyhole/cubbyholelaw19.StateRuns", spec := "stateRuns", plainKeys := false, apart := false, narrowed := true }
def StateRunsUptoSaid : Prop := stateRunsUptoRow.holds Try.pinned (OpenSpec.upto stateRunsSpec)

end Rows
end Go.Proofs.Ytbmcgoodilomlaa
