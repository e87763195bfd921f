/-
  No cell of these rows narrows 'for every input' (looked for: loops, veiled, ifaces, maps, wideKeys, modest, calm, conditions, laid).
  DERIVED. THE GIVEN ROWS OF THIS SEAT. 12 by the template 'for every input the law returns true; each argument reads behind the call as it read before'; 0 by the template 'total and deterministic' (their statements: YtlajhhecipabaaaTotals.lean).
  GIVEN WITH THE SEED: the statements are not yours to turn. If you find one false, say at which input.
  Laid BY PROGRAM, IN A SANDBOX (cutbox-rows.mjs): the forced cells as the released guide's own fill.sh prints them over the translation 7583e36dc9069f7a… (all of the seat's roots in one cut). By AI agents, Wed Nov 11 2026. No macro, syntax, notation, axiom, sorry.
-/
import Derived.Test.YtlajhhecipabaaaChecked
import GoSem.Claim
import GoSem.ClaimJoined
import GoSem.ClaimMapViews
import Derived.JoinedTies
import Derived.KernelRfl
namespace Go.Proofs.Ytlajhhecipabaaa
/- THE CELL 'sum', in the pinned program and in every row, IS THE sha256 OF THE DUMP (.gsa) THAT YtlajhhecipabaaaProg.lean LOADS. Nothing in Lean hashes anything: it is a label: what it is worth is what the hold of that sum in a sandbox is worth. -/
noncomputable def Try.pinned : Pinned := { name := "ytlajhhecipabaaa", sum := "7583e36dc9069f7a39dcbee40a3be6e84e827e46940b9abee661331bef96bd28", checked := Try.checked }
namespace Rows
def none {H : Type} : Left H := { results := [], args := [] }

/-- 'cubbyholelaw09.PermSets': WHATEVER THE INPUT: true; the input reads as it did. -/
def permSetsSpec : ChangeSpec := { name := "permSets", fn := fun _ => fun
  | [d1, d2] => { results := [.lit (.bool true)], args := [d1, d2] }
  | _ => none }
def permSetsRow : OpenClaim := { program := "ytlajhhecipabaaa", sum := "7583e36dc9069f7a39dcbee40a3be6e84e827e46940b9abee661331bef96bd28", func := "cubbyhole/cubbyholelaw09.PermSets", spec := "permSets", plainKeys := false, apart := false }
def PermSetsSaid : Prop := permSetsRow.holds Try.pinned (OpenSpec.ofChange permSetsSpec)

/-- ITS FALSE NEIGHBOUR: 'it returns false'. Refute it at one input. -/
def permSetsWrong : ChangeSpec := { name := "permSets", fn := fun _ => fun
  | [d1, d2] => { results := [.lit (.bool false)], args := [d1, d2] }
  | _ => none }
def PermSetsWrongFalsely : Prop := permSetsRow.holds Try.pinned (OpenSpec.ofChange permSetsWrong)

/-- 'cubbyholelaw09.PermTexts': WHATEVER THE INPUT: true; the input reads as it did. -/
def permTextsSpec : ChangeSpec := { name := "permTexts", fn := fun _ => fun
  | [d1, d2] => { results := [.lit (.bool true)], args := [d1, d2] }
  | _ => none }
def permTextsRow : OpenClaim := { program := "ytlajhhecipabaaa", sum := "7583e36dc9069f7a39dcbee40a3be6e84e827e46940b9abee661331bef96bd28", func := "cubbyhole/cubbyholelaw09.PermTexts", spec := "permTexts", plainKeys := false, apart := false }
def PermTextsSaid : Prop := permTextsRow.holds Try.pinned (OpenSpec.ofChange permTextsSpec)

/-- ITS FALSE NEIGHBOUR: 'it returns false'. Refute it at one input. -/
def permTextsWrong : ChangeSpec := { name := "permTexts", fn := fun _ => fun
  | [d1, d2] => { results := [.lit (.bool false)], args := [d1, d2] }
  | _ => none }
def PermTextsWrongFalsely : Prop := permTextsRow.holds Try.pinned (OpenSpec.ofChange permTextsWrong)

/-- 'cubbyholelaw10.CapaMay': WHATEVER THE INPUT: true; the input reads as it did. -/
def capaMaySpec : ChangeSpec := { name := "capaMay", fn := fun _ => fun
  | [d1, d2, d3] => { results := [.lit (.bool true)], args := [d1, d2, d3] }
  | _ => none }
def capaMayRow : OpenClaim := { program := "ytlajhhecipabaaa", sum := "7583e36dc9069f7a39dcbee40a3be6e84e827e46940b9abee661331bef96bd28", func := "cubbyhole/cubbyholelaw10.CapaMay", spec := "capaMay", plainKeys := false, apart := false }
def CapaMaySaid : Prop := capaMayRow.holds Try.pinned (OpenSpec.ofChange capaMaySpec)

/-- ITS FALSE NEIGHBOUR: 'it returns false'. Refute it at one input. -/
def capaMayWrong : ChangeSpec := { name := "capaMay", fn := fun _ => fun
  | [d1, d2, d3] => { results := [.lit (.bool false)], args := [d1, d2, d3] }
  | _ => none }
def CapaMayWrongFalsely : Prop := capaMayRow.holds Try.pinned (OpenSpec.ofChange capaMayWrong)

/-- 'cubbyholelaw10.CapaIn': WHATEVER THE INPUT: true; the input reads as it did. -/
def capaInSpec : ChangeSpec := { name := "capaIn", fn := fun _ => fun
  | [d1, d2, d3] => { results := [.lit (.bool true)], args := [d1, d2, d3] }
  | _ => none }
def capaInRow : OpenClaim := { program := "ytlajhhecipabaaa", sum := "7583e36dc9069f7a39dcbee40a3be6e84e827e46940b9abee661331bef96bd28", func := "cubbyhole/cubbyholelaw10.CapaIn", spec := "capaIn", plainKeys := false, apart := false }
def CapaInSaid : Prop := capaInRow.holds Try.pinned (OpenSpec.ofChange capaInSpec)

/-- ITS FALSE NEIGHBOUR: 'it returns false'. Refute it at one input. -/
def capaInWrong : ChangeSpec := { name := "capaIn", fn := fun _ => fun
  | [d1, d2, d3] => { results := [.lit (.bool false)], args := [d1, d2, d3] }
  | _ => none }
def CapaInWrongFalsely : Prop := capaInRow.holds Try.pinned (OpenSpec.ofChange capaInWrong)

/-- 'cubbyholelaw16.ClassFor': WHATEVER THE INPUT: true; the input reads as it did. -/
def classForSpec : ChangeSpec := { name := "classFor", fn := fun _ => fun
  | [d1, d2] => { results := [.lit (.bool true)], args := [d1, d2] }
  | _ => none }
def classForRow : OpenClaim := { program := "ytlajhhecipabaaa", sum := "7583e36dc9069f7a39dcbee40a3be6e84e827e46940b9abee661331bef96bd28", func := "cubbyhole/cubbyholelaw16.ClassFor", spec := "classFor", plainKeys := false, apart := false }
def ClassForSaid : Prop := classForRow.holds Try.pinned (OpenSpec.ofChange classForSpec)

/-- ITS FALSE NEIGHBOUR: 'it returns false'. Refute it at one input. -/
def classForWrong : ChangeSpec := { name := "classFor", fn := fun _ => fun
  | [d1, d2] => { results := [.lit (.bool false)], args := [d1, d2] }
  | _ => none }
def ClassForWrongFalsely : Prop := classForRow.holds Try.pinned (OpenSpec.ofChange classForWrong)

/-- 'cubbyholelaw16.ClassFit': WHATEVER THE INPUT: true; the input reads as it did. -/
def classFitSpec : ChangeSpec := { name := "classFit", fn := fun _ => fun
  | [d1, d2] => { results := [.lit (.bool true)], args := [d1, d2] }
  | _ => none }
def classFitRow : OpenClaim := { program := "ytlajhhecipabaaa", sum := "7583e36dc9069f7a39dcbee40a3be6e84e827e46940b9abee661331bef96bd28", func := "cubbyhole/cubbyholelaw16.ClassFit", spec := "classFit", plainKeys := false, apart := false }
def ClassFitSaid : Prop := classFitRow.holds Try.pinned (OpenSpec.ofChange classFitSpec)

/-- ITS FALSE NEIGHBOUR: 'it returns false'. Refute it at one input. -/
def classFitWrong : ChangeSpec := { name := "classFit", fn := fun _ => fun
  | [d1, d2] => { results := [.lit (.bool false)], args := [d1, d2] }
  | _ => none }
def ClassFitWrongFalsely : Prop := classFitRow.holds Try.pinned (OpenSpec.ofChange classFitWrong)

/-- 'cubbyholelaw16.ClassTight': WHATEVER THE INPUT: true; the input reads as it did. -/
def classTightSpec : ChangeSpec := { name := "classTight", fn := fun _ => fun
  | [d] => { results := [.lit (.bool true)], args := [d] }
  | _ => none }
def classTightRow : OpenClaim := { program := "ytlajhhecipabaaa", sum := "7583e36dc9069f7a39dcbee40a3be6e84e827e46940b9abee661331bef96bd28", func := "cubbyhole/cubbyholelaw16.ClassTight", spec := "classTight", plainKeys := false, apart := false }
def ClassTightSaid : Prop := classTightRow.holds Try.pinned (OpenSpec.ofChange classTightSpec)

/-- ITS FALSE NEIGHBOUR: 'it returns false'. Refute it at one input. -/
def classTightWrong : ChangeSpec := { name := "classTight", fn := fun _ => fun
  | [d] => { results := [.lit (.bool false)], args := [d] }
  | _ => none }
def ClassTightWrongFalsely : Prop := classTightRow.holds Try.pinned (OpenSpec.ofChange classTightWrong)

/-- 'cubbyholelaw17.MixTurns': WHATEVER THE INPUT: true; the input reads as it did. -/
def mixTurnsSpec : ChangeSpec := { name := "mixTurns", fn := fun _ => fun
  | [d1, d2, d3] => { results := [.lit (.bool true)], args := [d1, d2, d3] }
  | _ => none }
def mixTurnsRow : OpenClaim := { program := "ytlajhhecipabaaa", sum := "7583e36dc9069f7a39dcbee40a3be6e84e827e46940b9abee661331bef96bd28", func := "cubbyhole/cubbyholelaw17.MixTurns", spec := "mixTurns", plainKeys := false, apart := false }
def MixTurnsSaid : Prop := mixTurnsRow.holds Try.pinned (OpenSpec.ofChange mixTurnsSpec)

/-- ITS FALSE NEIGHBOUR: 'it returns false'. Refute it at one input. -/
def mixTurnsWrong : ChangeSpec := { name := "mixTurns", fn := fun _ => fun
  | [d1, d2, d3] => { results := [.lit (.bool false)], args := [d1, d2, d3] }
  | _ => none }
def MixTurnsWrongFalsely : Prop := mixTurnsRow.holds Try.pinned (OpenSpec.ofChange mixTurnsWrong)

/-- 'cubbyholelaw17.MixSums': WHATEVER THE INPUT: true; the input reads as it did. -/
def mixSumsSpec : ChangeSpec := { name := "mixSums", fn := fun _ => fun
  | [d1, d2, d3] => { results := [.lit (.bool true)], args := [d1, d2, d3] }
  | _ => none }
def mixSumsRow : OpenClaim := { program := "ytlajhhecipabaaa", sum := "7583e36dc9069f7a39dcbee40a3be6e84e827e46940b9abee661331bef96bd28", func := "cubbyhole/cubbyholelaw17.MixSums", spec := "mixSums", plainKeys := false, apart := false }
def MixSumsSaid : Prop := mixSumsRow.holds Try.pinned (OpenSpec.ofChange mixSumsSpec)

/-- ITS FALSE NEIGHBOUR: 'it returns false'. Refute it at one input. -/
def mixSumsWrong : ChangeSpec := { name := "mixSums", fn := fun _ => fun
  | [d1, d2, d3] => { results := [.lit (.bool false)], args := [d1, d2, d3] }
  | _ => none }
def MixSumsWrongFalsely : Prop := mixSumsRow.holds Try.pinned (OpenSpec.ofChange mixSumsWrong)

/-- 'cubbyholelaw19.StateNext': WHATEVER THE INPUT: true; the input reads as it did. -/
def stateNextSpec : ChangeSpec := { name := "stateNext", fn := fun _ => fun
  | [d1, d2] => { results := [.lit (.bool true)], args := [d1, d2] }
  | _ => none }
def stateNextRow : OpenClaim := { program := "ytlajhhecipabaaa", sum := "7583e36dc9069f7a39dcbee40a3be6e84e827e46940b9abee661331bef96bd28", func := "cubbyhole/cubbyholelaw19.StateNext", spec := "stateNext", plainKeys := false, apart := false }
def StateNextSaid : Prop := stateNextRow.holds Try.pinned (OpenSpec.ofChange stateNextSpec)

/-- ITS FALSE NEIGHBOUR: 'it returns false'. Refute it at one input. -/
def stateNextWrong : ChangeSpec := { name := "stateNext", fn := fun _ => fun
  | [d1, d2] => { results := [.lit (.bool false)], args := [d1, d2] }
  | _ => none }
def StateNextWrongFalsely : Prop := stateNextRow.holds Try.pinned (OpenSpec.ofChange stateNextWrong)

/-- 'cubbyholelaw19.StateRuns': WHATEVER THE INPUT: true; the input reads as it did. -/
def stateRunsSpec : ChangeSpec := { name := "stateRuns", fn := fun _ => fun
  | [d1, d2] => { results := [.lit (.bool true)], args := [d1, d2] }
  | _ => none }
def stateRunsRow : OpenClaim := { program := "ytlajhhecipabaaa", sum := "7583e36dc9069f7a39dcbee40a3be6e84e827e46940b9abee661331bef96bd28", func := "cubbyhole/cubbyholelaw19.StateRuns", spec := "stateRuns", plainKeys := false, apart := false }
def StateRunsSaid : Prop := stateRunsRow.holds Try.pinned (OpenSpec.ofChange stateRunsSpec)

/-- ITS FALSE NEIGHBOUR: 'it returns false'. Refute it at one input. -/
def stateRunsWrong : ChangeSpec := { name := "stateRuns", fn := fun _ => fun
  | [d1, d2] => { results := [.lit (.bool false)], args := [d1, d2] }
  | _ => none }
def StateRunsWrongFalsely : Prop := stateRunsRow.holds Try.pinned (OpenSpec.ofChange stateRunsWrong)

/-- 'cubbyholelaw20.PickOf': WHATEVER THE INPUT: true; the input reads as it did. -/
def pickOfSpec : ChangeSpec := { name := "pickOf", fn := fun _ => fun
  | [d1, d2] => { results := [.lit (.bool true)], args := [d1, d2] }
  | _ => none }
def pickOfRow : OpenClaim := { program := "ytlajhhecipabaaa", sum := "7583e36dc9069f7a39dcbee40a3be6e84e827e46940b9abee661331bef96bd28", func := "cubbyhole/cubbyholelaw20.PickOf", spec := "pickOf", plainKeys := false, apart := false }
def PickOfSaid : Prop := pickOfRow.holds Try.pinned (OpenSpec.ofChange pickOfSpec)

/-- ITS FALSE NEIGHBOUR: 'it returns false'. Refute it at one input. -/
def pickOfWrong : ChangeSpec := { name := "pickOf", fn := fun _ => fun
  | [d1, d2] => { results := [.lit (.bool false)], args := [d1, d2] }
  | _ => none }
def PickOfWrongFalsely : Prop := pickOfRow.holds Try.pinned (OpenSpec.ofChange pickOfWrong)

/- THE SECOND FORM. 'bulk': how many values and letters a reading holds, each counted each time it is reached (what is shared counts as often as it is met; a slice's spare places count too). A statement '..UptoSaid' is the law's where the arguments, and the package variables that the reading takes, are together of bulk at most 1048576: NARROWER than '..Said'. Prove '..Said' where nothing that the law and all that it calls make is longer than what came in: it says more and counts as full. Else prove '..UptoSaid'. A law counts once. -/
mutual
def uptoBulk {H : Type} : DataW H → Nat
  | .lit (.string bytes) => bytes.length + 1
  | .lit _ => 1
  | .nil => 1
  | .ptr d => uptoBulk d + 1
  | .slice elems spare => uptoBulkAll elems + uptoBulkAll spare + 1
  | .agg parts => uptoBulkAll parts + 1
  | .iface _ d => uptoBulk d + 1
  | .map entries => uptoBulkEntries entries + 1
  | .held _ => 1
def uptoBulkAll {H : Type} : List (DataW H) → Nat
  | [] => 0
  | d :: r => uptoBulk d + uptoBulkAll r
def uptoBulkEntries {H : Type} : List (Lit × DataW H) → Nat
  | [] => 0
  | x :: r => uptoBulkEntry x + uptoBulkEntries r
def uptoBulkEntry {H : Type} : Lit × DataW H → Nat
  | (.string bytes, d) => bytes.length + uptoBulk d + 1
  | (_, d) => uptoBulk d + 1
 end
def uptoSmall : (H : Type) → List (DataW H) → Bool := fun _ ds => decide (uptoBulkAll ds ≤ 1048576)
def OpenSpec.upto (s : _root_.Go.ChangeSpec) : _root_.Go.OpenSpec := { _root_.Go.OpenSpec.ofChange s with cond := some uptoSmall }

/-- 'cubbyholelaw09.PermSets', WHERE WHAT IT READS IS OF BULK AT MOST 1048576: true; the input reads as it did. -/
def permSetsUptoRow : OpenClaim := { program := "ytlajhhecipabaaa", sum := "7583e36dc9069f7a39dcbee40a3be6e84e827e46940b9abee661331bef96bd28", func := "cubbyhole/cubbyholelaw09.PermSets", spec := "permSets", plainKeys := false, apart := false, narrowed := true }
def PermSetsUptoSaid : Prop := permSetsUptoRow.holds Try.pinned (OpenSpec.upto permSetsSpec)

/-- 'cubbyholelaw09.PermTexts', WHERE WHAT IT READS IS OF BULK AT MOST 1048576: true; the input reads as it did. -/
def permTextsUptoRow : OpenClaim := { program := "ytlajhhecipabaaa", sum := "7583e36dc9069f7a39dcbee40a3be6e84e827e46940b9abee661331bef96bd28", func := "cubbyhole/cubbyholelaw09.PermTexts", spec := "permTexts", plainKeys := false, apart := false, narrowed := true }
def PermTextsUptoSaid : Prop := permTextsUptoRow.holds Try.pinned (OpenSpec.upto permTextsSpec)

/-- 'cubbyholelaw10.CapaMay', WHERE WHAT IT READS IS OF BULK AT MOST 1048576: true; the input reads as it did. -/
def capaMayUptoRow : OpenClaim := { program := "ytlajhhecipabaaa", sum := "7583e36dc9069f7a39dcbee40a3be6e84e827e46940b9abee661331bef96bd28", func := "cubbyhole/cubbyholelaw10.CapaMay", spec := "capaMay", plainKeys := false, apart := false, narrowed := true }
def CapaMayUptoSaid : Prop := capaMayUptoRow.holds Try.pinned (OpenSpec.upto capaMaySpec)

/-- 'cubbyholelaw10.CapaIn', WHERE WHAT IT READS IS OF BULK AT MOST 1048576: true; the input reads as it did. -/
def capaInUptoRow : OpenClaim := { program := "ytlajhhecipabaaa", sum := "7583e36dc9069f7a39dcbee40a3be6e84e827e46940b9abee661331bef96bd28", func := "cubbyhole/cubbyholelaw10.CapaIn", spec := "capaIn", plainKeys := false, apart := false, narrowed := true }
def CapaInUptoSaid : Prop := capaInUptoRow.holds Try.pinned (OpenSpec.upto capaInSpec)

/-- 'cubbyholelaw16.ClassFor', WHERE WHAT IT READS IS OF BULK AT MOST 1048576: true; the input reads as it did. -/
def classForUptoRow : OpenClaim := { program := "ytlajhhecipabaaa", sum := "7583e36dc9069f7a39dcbee40a3be6e84e827e46940b9abee661331bef96bd28", func := "cubbyhole/cubbyholelaw16.ClassFor", spec := "classFor", plainKeys := false, apart := false, narrowed := true }
def ClassForUptoSaid : Prop := classForUptoRow.holds Try.pinned (OpenSpec.upto classForSpec)

/-- 'cubbyholelaw16.ClassFit', WHERE WHAT IT READS IS OF BULK AT MOST 1048576: true; the input reads as it did. -/
def classFitUptoRow : OpenClaim := { program := "ytlajhhecipabaaa", sum := "7583e36dc9069f7a39dcbee40a3be6e84e827e46940b9abee661331bef96bd28", func := "cubbyhole/cubbyholelaw16.ClassFit", spec := "classFit", plainKeys := false, apart := false, narrowed := true }
def ClassFitUptoSaid : Prop := classFitUptoRow.holds Try.pinned (OpenSpec.upto classFitSpec)

/-- 'cubbyholelaw16.ClassTight', WHERE WHAT IT READS IS OF BULK AT MOST 1048576: true; the input reads as it did. -/
def classTightUptoRow : OpenClaim := { program := "ytlajhhecipabaaa", sum := "7583e36dc9069f7a39dcbee40a3be6e84e827e46940b9abee661331bef96bd28", func := "cubbyhole/cubbyholelaw16.ClassTight", spec := "classTight", plainKeys := false, apart := false, narrowed := true }
def ClassTightUptoSaid : Prop := classTightUptoRow.holds Try.pinned (OpenSpec.upto classTightSpec)

/-- 'cubbyholelaw17.MixTurns', WHERE WHAT IT READS IS OF BULK AT MOST 1048576: true; the input reads as it did. -/
def mixTurnsUptoRow : OpenClaim := { program := "ytlajhhecipabaaa", sum := "7583e36dc9069f7a39dcbee40a3be6e84e827e46940b9abee661331bef96bd28", func := "cubbyhole/cubbyholelaw17.MixTurns", spec := "mixTurns", plainKeys := false, apart := false, narrowed := true }
def MixTurnsUptoSaid : Prop := mixTurnsUptoRow.holds Try.pinned (OpenSpec.upto mixTurnsSpec)

/-- 'cubbyholelaw17.MixSums', WHERE WHAT IT READS IS OF BULK AT MOST 1048576: true; the input reads as it did. -/
def mixSumsUptoRow : OpenClaim := { program := "ytlajhhecipabaaa", sum := "7583e36dc9069f7a39dcbee40a3be6e84e827e46940b9abee661331bef96bd28", func := "cubbyhole/cubbyholelaw17.MixSums", spec := "mixSums", plainKeys := false, apart := false, narrowed := true }
def MixSumsUptoSaid : Prop := mixSumsUptoRow.holds Try.pinned (OpenSpec.upto mixSumsSpec)

/-- 'cubbyholelaw19.StateNext', WHERE WHAT IT READS IS OF BULK AT MOST 1048576: true; the input reads as it did. -/
def stateNextUptoRow : OpenClaim := { program := "ytlajhhecipabaaa", sum := "7583e36dc9069f7a39dcbee40a3be6e84e827e46940b9abee661331bef96bd28", func := "cubbyhole/cubbyholelaw19.StateNext", spec := "stateNext", plainKeys := false, apart := false, narrowed := true }
def StateNextUptoSaid : Prop := stateNextUptoRow.holds Try.pinned (OpenSpec.upto stateNextSpec)

/-- 'cubbyholelaw19.StateRuns', WHERE WHAT IT READS IS OF BULK AT MOST 1048576: true; the input reads as it did. -/
def stateRunsUptoRow : OpenClaim := { program := "ytlajhhecipabaaa", sum := "7583e36dc9069f7a39dcbee40a3be6e84e827e46940b9abee661331bef96bd28", func := "cubbyhole/cubbyholelaw19.StateRuns", spec := "stateRuns", plainKeys := false, apart := false, narrowed := true }
def StateRunsUptoSaid : Prop := stateRunsUptoRow.holds Try.pinned (OpenSpec.upto stateRunsSpec)

/-- 'cubbyholelaw20.PickOf', WHERE WHAT IT READS IS OF BULK AT MOST 1048576: true; the input reads as it did. -/
def pickOfUptoRow : OpenClaim := { program := "ytlajhhecipabaaa", sum := "7583e36dc9069f7a39dcbee40a3be6e84e827e46940b9abee661331bef96bd28", func := "cubbyhole/cubbyholelaw20.PickOf", spec := "pickOf", plainKeys := false, apart := false, narrowed := true }
def PickOfUptoSaid : Prop := pickOfUptoRow.holds Try.pinned (OpenSpec.upto pickOfSpec)

end Rows
end Go.Proofs.Ytlajhhecipabaaa
