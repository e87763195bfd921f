/-
  No cell of these rows narrows 'for every input' (looked for: loops, veiled, ifaces, maps, wideKeys, modest, calm, conditions, laid).
  DERIVED. THE GIVEN ROWS OF THIS SEAT. 12 by the template 'for every input the law returns true; each argument reads behind the call as it read before'; 0 by the template 'total and deterministic' (their statements: YtldnaddcmnghkaaTotals.lean).
  GIVEN WITH THE SEED: the statements are not yours to turn. If you find one false, say at which input.
  Laid BY PROGRAM, IN A SANDBOX (cutbox-rows.mjs): the forced cells as the released guide's own fill.sh prints them over the translation 0eade2a4ae613152… (all of the seat's roots in one cut). By AI agents, Wed Nov 11 2026. No macro, syntax, notation, axiom, sorry.
-/
import Derived.Test.YtldnaddcmnghkaaChecked
import GoSem.Claim
import GoSem.ClaimJoined
import GoSem.ClaimMapViews
import Derived.JoinedTies
import Derived.KernelRfl
namespace Go.Proofs.Ytldnaddcmnghkaa
/- THE CELL 'sum', in the pinned program and in every row, IS THE sha256 OF THE DUMP (.gsa) THAT YtldnaddcmnghkaaProg.lean LOADS. Nothing in Lean hashes anything: it is a label: what it is worth is what the hold of that sum in a sandbox is worth. -/
noncomputable def Try.pinned : Pinned := { name := "ytldnaddcmnghkaa", sum := "0eade2a4ae613152986094b3ba125ecfaccbf60287f828cf764675444b710f6f", checked := Try.checked }
namespace Rows
def none {H : Type} : Left H := { results := [], args := [] }

/-- 'cubbyholelaw11.CodeBack': WHATEVER THE INPUT: true; the input reads as it did. -/
def codeBackSpec : ChangeSpec := { name := "codeBack", fn := fun _ => fun
  | [d1, d2] => { results := [.lit (.bool true)], args := [d1, d2] }
  | _ => none }
def codeBackRow : OpenClaim := { program := "ytldnaddcmnghkaa", sum := "0eade2a4ae613152986094b3ba125ecfaccbf60287f828cf764675444b710f6f", func := "cubbyhole/cubbyholelaw11.CodeBack", spec := "codeBack", apart := false }
def CodeBackSaid : Prop := codeBackRow.holds Try.pinned (OpenSpec.ofChange codeBackSpec)

/-- ITS FALSE NEIGHBOUR: 'it returns false'. Refute it at one input. -/
def codeBackWrong : ChangeSpec := { name := "codeBack", fn := fun _ => fun
  | [d1, d2] => { results := [.lit (.bool false)], args := [d1, d2] }
  | _ => none }
def CodeBackWrongFalsely : Prop := codeBackRow.holds Try.pinned (OpenSpec.ofChange codeBackWrong)

/-- 'cubbyholelaw11.CodeAny': WHATEVER THE INPUT: true; the input reads as it did. -/
def codeAnySpec : ChangeSpec := { name := "codeAny", fn := fun _ => fun
  | [d1, d2, d3] => { results := [.lit (.bool true)], args := [d1, d2, d3] }
  | _ => none }
def codeAnyRow : OpenClaim := { program := "ytldnaddcmnghkaa", sum := "0eade2a4ae613152986094b3ba125ecfaccbf60287f828cf764675444b710f6f", func := "cubbyhole/cubbyholelaw11.CodeAny", spec := "codeAny", apart := false }
def CodeAnySaid : Prop := codeAnyRow.holds Try.pinned (OpenSpec.ofChange codeAnySpec)

/-- ITS FALSE NEIGHBOUR: 'it returns false'. Refute it at one input. -/
def codeAnyWrong : ChangeSpec := { name := "codeAny", fn := fun _ => fun
  | [d1, d2, d3] => { results := [.lit (.bool false)], args := [d1, d2, d3] }
  | _ => none }
def CodeAnyWrongFalsely : Prop := codeAnyRow.holds Try.pinned (OpenSpec.ofChange codeAnyWrong)

/-- 'cubbyholelaw12.DeriveOne': WHATEVER THE INPUT: true; the input reads as it did. -/
def deriveOneSpec : ChangeSpec := { name := "deriveOne", fn := fun _ => fun
  | [d1, d2, d3] => { results := [.lit (.bool true)], args := [d1, d2, d3] }
  | _ => none }
def deriveOneRow : OpenClaim := { program := "ytldnaddcmnghkaa", sum := "0eade2a4ae613152986094b3ba125ecfaccbf60287f828cf764675444b710f6f", func := "cubbyhole/cubbyholelaw12.DeriveOne", spec := "deriveOne", apart := false }
def DeriveOneSaid : Prop := deriveOneRow.holds Try.pinned (OpenSpec.ofChange deriveOneSpec)

/-- ITS FALSE NEIGHBOUR: 'it returns false'. Refute it at one input. -/
def deriveOneWrong : ChangeSpec := { name := "deriveOne", fn := fun _ => fun
  | [d1, d2, d3] => { results := [.lit (.bool false)], args := [d1, d2, d3] }
  | _ => none }
def DeriveOneWrongFalsely : Prop := deriveOneRow.holds Try.pinned (OpenSpec.ofChange deriveOneWrong)

/-- 'cubbyholelaw12.DeriveLess': WHATEVER THE INPUT: true; the input reads as it did. -/
def deriveLessSpec : ChangeSpec := { name := "deriveLess", fn := fun _ => fun
  | [d1, d2] => { results := [.lit (.bool true)], args := [d1, d2] }
  | _ => none }
def deriveLessRow : OpenClaim := { program := "ytldnaddcmnghkaa", sum := "0eade2a4ae613152986094b3ba125ecfaccbf60287f828cf764675444b710f6f", func := "cubbyhole/cubbyholelaw12.DeriveLess", spec := "deriveLess", apart := false }
def DeriveLessSaid : Prop := deriveLessRow.holds Try.pinned (OpenSpec.ofChange deriveLessSpec)

/-- ITS FALSE NEIGHBOUR: 'it returns false'. Refute it at one input. -/
def deriveLessWrong : ChangeSpec := { name := "deriveLess", fn := fun _ => fun
  | [d1, d2] => { results := [.lit (.bool false)], args := [d1, d2] }
  | _ => none }
def DeriveLessWrongFalsely : Prop := deriveLessRow.holds Try.pinned (OpenSpec.ofChange deriveLessWrong)

/-- 'cubbyholelaw18.HeadBack': WHATEVER THE INPUT: true; the input reads as it did. -/
def headBackSpec : ChangeSpec := { name := "headBack", fn := fun _ => fun
  | [d1, d2, d3] => { results := [.lit (.bool true)], args := [d1, d2, d3] }
  | _ => none }
def headBackRow : OpenClaim := { program := "ytldnaddcmnghkaa", sum := "0eade2a4ae613152986094b3ba125ecfaccbf60287f828cf764675444b710f6f", func := "cubbyhole/cubbyholelaw18.HeadBack", spec := "headBack", apart := false }
def HeadBackSaid : Prop := headBackRow.holds Try.pinned (OpenSpec.ofChange headBackSpec)

/-- ITS FALSE NEIGHBOUR: 'it returns false'. Refute it at one input. -/
def headBackWrong : ChangeSpec := { name := "headBack", fn := fun _ => fun
  | [d1, d2, d3] => { results := [.lit (.bool false)], args := [d1, d2, d3] }
  | _ => none }
def HeadBackWrongFalsely : Prop := headBackRow.holds Try.pinned (OpenSpec.ofChange headBackWrong)

/-- 'cubbyholelaw18.HeadAny': WHATEVER THE INPUT: true; the input reads as it did. -/
def headAnySpec : ChangeSpec := { name := "headAny", fn := fun _ => fun
  | [d1, d2, d3] => { results := [.lit (.bool true)], args := [d1, d2, d3] }
  | _ => none }
def headAnyRow : OpenClaim := { program := "ytldnaddcmnghkaa", sum := "0eade2a4ae613152986094b3ba125ecfaccbf60287f828cf764675444b710f6f", func := "cubbyhole/cubbyholelaw18.HeadAny", spec := "headAny", apart := false }
def HeadAnySaid : Prop := headAnyRow.holds Try.pinned (OpenSpec.ofChange headAnySpec)

/-- ITS FALSE NEIGHBOUR: 'it returns false'. Refute it at one input. -/
def headAnyWrong : ChangeSpec := { name := "headAny", fn := fun _ => fun
  | [d1, d2, d3] => { results := [.lit (.bool false)], args := [d1, d2, d3] }
  | _ => none }
def HeadAnyWrongFalsely : Prop := headAnyRow.holds Try.pinned (OpenSpec.ofChange headAnyWrong)

/-- 'cubbyholelaw23.ShufOrder': WHATEVER THE INPUT: true; the input reads as it did. -/
def shufOrderSpec : ChangeSpec := { name := "shufOrder", fn := fun _ => fun
  | [d1, d2] => { results := [.lit (.bool true)], args := [d1, d2] }
  | _ => none }
def shufOrderRow : OpenClaim := { program := "ytldnaddcmnghkaa", sum := "0eade2a4ae613152986094b3ba125ecfaccbf60287f828cf764675444b710f6f", func := "cubbyhole/cubbyholelaw23.ShufOrder", spec := "shufOrder", apart := false }
def ShufOrderSaid : Prop := shufOrderRow.holds Try.pinned (OpenSpec.ofChange shufOrderSpec)

/-- ITS FALSE NEIGHBOUR: 'it returns false'. Refute it at one input. -/
def shufOrderWrong : ChangeSpec := { name := "shufOrder", fn := fun _ => fun
  | [d1, d2] => { results := [.lit (.bool false)], args := [d1, d2] }
  | _ => none }
def ShufOrderWrongFalsely : Prop := shufOrderRow.holds Try.pinned (OpenSpec.ofChange shufOrderWrong)

/-- 'cubbyholelaw23.ShufBack': WHATEVER THE INPUT: true; the input reads as it did. -/
def shufBackSpec : ChangeSpec := { name := "shufBack", fn := fun _ => fun
  | [d1, d2, d3] => { results := [.lit (.bool true)], args := [d1, d2, d3] }
  | _ => none }
def shufBackRow : OpenClaim := { program := "ytldnaddcmnghkaa", sum := "0eade2a4ae613152986094b3ba125ecfaccbf60287f828cf764675444b710f6f", func := "cubbyhole/cubbyholelaw23.ShufBack", spec := "shufBack", apart := false }
def ShufBackSaid : Prop := shufBackRow.holds Try.pinned (OpenSpec.ofChange shufBackSpec)

/-- ITS FALSE NEIGHBOUR: 'it returns false'. Refute it at one input. -/
def shufBackWrong : ChangeSpec := { name := "shufBack", fn := fun _ => fun
  | [d1, d2, d3] => { results := [.lit (.bool false)], args := [d1, d2, d3] }
  | _ => none }
def ShufBackWrongFalsely : Prop := shufBackRow.holds Try.pinned (OpenSpec.ofChange shufBackWrong)

/-- 'cubbyholelaw29.GuardNeed': WHATEVER THE INPUT: true; the input reads as it did. -/
def guardNeedSpec : ChangeSpec := { name := "guardNeed", fn := fun _ => fun
  | [d1, d2] => { results := [.lit (.bool true)], args := [d1, d2] }
  | _ => none }
def guardNeedRow : OpenClaim := { program := "ytldnaddcmnghkaa", sum := "0eade2a4ae613152986094b3ba125ecfaccbf60287f828cf764675444b710f6f", func := "cubbyhole/cubbyholelaw29.GuardNeed", spec := "guardNeed", apart := false }
def GuardNeedSaid : Prop := guardNeedRow.holds Try.pinned (OpenSpec.ofChange guardNeedSpec)

/-- ITS FALSE NEIGHBOUR: 'it returns false'. Refute it at one input. -/
def guardNeedWrong : ChangeSpec := { name := "guardNeed", fn := fun _ => fun
  | [d1, d2] => { results := [.lit (.bool false)], args := [d1, d2] }
  | _ => none }
def GuardNeedWrongFalsely : Prop := guardNeedRow.holds Try.pinned (OpenSpec.ofChange guardNeedWrong)

/-- 'cubbyholelaw29.GuardLay': WHATEVER THE INPUT: true; the input reads as it did. -/
def guardLaySpec : ChangeSpec := { name := "guardLay", fn := fun _ => fun
  | [d1, d2, d3] => { results := [.lit (.bool true)], args := [d1, d2, d3] }
  | _ => none }
def guardLayRow : OpenClaim := { program := "ytldnaddcmnghkaa", sum := "0eade2a4ae613152986094b3ba125ecfaccbf60287f828cf764675444b710f6f", func := "cubbyhole/cubbyholelaw29.GuardLay", spec := "guardLay", apart := false }
def GuardLaySaid : Prop := guardLayRow.holds Try.pinned (OpenSpec.ofChange guardLaySpec)

/-- ITS FALSE NEIGHBOUR: 'it returns false'. Refute it at one input. -/
def guardLayWrong : ChangeSpec := { name := "guardLay", fn := fun _ => fun
  | [d1, d2, d3] => { results := [.lit (.bool false)], args := [d1, d2, d3] }
  | _ => none }
def GuardLayWrongFalsely : Prop := guardLayRow.holds Try.pinned (OpenSpec.ofChange guardLayWrong)

/-- 'cubbyholelaw34.EpochPlays': WHATEVER THE INPUT: true; the input reads as it did. -/
def epochPlaysSpec : ChangeSpec := { name := "epochPlays", fn := fun _ => fun
  | [d1, d2] => { results := [.lit (.bool true)], args := [d1, d2] }
  | _ => none }
def epochPlaysRow : OpenClaim := { program := "ytldnaddcmnghkaa", sum := "0eade2a4ae613152986094b3ba125ecfaccbf60287f828cf764675444b710f6f", func := "cubbyhole/cubbyholelaw34.EpochPlays", spec := "epochPlays", apart := false }
def EpochPlaysSaid : Prop := epochPlaysRow.holds Try.pinned (OpenSpec.ofChange epochPlaysSpec)

/-- ITS FALSE NEIGHBOUR: 'it returns false'. Refute it at one input. -/
def epochPlaysWrong : ChangeSpec := { name := "epochPlays", fn := fun _ => fun
  | [d1, d2] => { results := [.lit (.bool false)], args := [d1, d2] }
  | _ => none }
def EpochPlaysWrongFalsely : Prop := epochPlaysRow.holds Try.pinned (OpenSpec.ofChange epochPlaysWrong)

/-- 'cubbyholelaw38.ConfCheck': WHATEVER THE INPUT: true; the input reads as it did. -/
def confCheckSpec : ChangeSpec := { name := "confCheck", fn := fun _ => fun
  | [d1, d2, d3] => { results := [.lit (.bool true)], args := [d1, d2, d3] }
  | _ => none }
def confCheckRow : OpenClaim := { program := "ytldnaddcmnghkaa", sum := "0eade2a4ae613152986094b3ba125ecfaccbf60287f828cf764675444b710f6f", func := "cubbyhole/cubbyholelaw38.ConfCheck", spec := "confCheck", apart := false }
def ConfCheckSaid : Prop := confCheckRow.holds Try.pinned (OpenSpec.ofChange confCheckSpec)

/-- ITS FALSE NEIGHBOUR: 'it returns false'. Refute it at one input. -/
def confCheckWrong : ChangeSpec := { name := "confCheck", fn := fun _ => fun
  | [d1, d2, d3] => { results := [.lit (.bool false)], args := [d1, d2, d3] }
  | _ => none }
def ConfCheckWrongFalsely : Prop := confCheckRow.holds Try.pinned (OpenSpec.ofChange confCheckWrong)

/- THE SECOND FORM. 'bulk': how many values and letters a reading holds, each counted each time it is reached (what is shared counts as often as it is met; a slice's spare places count too). A statement '..UptoSaid' is the law's where the arguments, and the package variables that the reading takes, are together of bulk at most 1048576: NARROWER than '..Said'. Prove '..Said' where nothing that the law and all that it calls make is longer than what came in: it says more and counts as full. Else prove '..UptoSaid'. A law counts once. -/
mutual
def uptoBulk {H : Type} : DataW H → Nat
  | .lit (.string bytes) => bytes.length + 1
  | .lit _ => 1
  | .nil => 1
  | .ptr d => uptoBulk d + 1
  | .slice elems spare => uptoBulkAll elems + uptoBulkAll spare + 1
  | .agg parts => uptoBulkAll parts + 1
  | .iface _ d => uptoBulk d + 1
  | .map entries => uptoBulkEntries entries + 1
  | .held _ => 1
def uptoBulkAll {H : Type} : List (DataW H) → Nat
  | [] => 0
  | d :: r => uptoBulk d + uptoBulkAll r
def uptoBulkEntries {H : Type} : List (Lit × DataW H) → Nat
  | [] => 0
  | x :: r => uptoBulkEntry x + uptoBulkEntries r
def uptoBulkEntry {H : Type} : Lit × DataW H → Nat
  | (.string bytes, d) => bytes.length + uptoBulk d + 1
  | (_, d) => uptoBulk d + 1
 end
def uptoSmall : (H : Type) → List (DataW H) → Bool := fun _ ds => decide (uptoBulkAll ds ≤ 1048576)
def OpenSpec.upto (s : _root_.Go.ChangeSpec) : _root_.Go.OpenSpec := { _root_.Go.OpenSpec.ofChange s with cond := some uptoSmall }

/-- 'cubbyholelaw11.CodeBack', WHERE WHAT IT READS IS OF BULK AT MOST 1048576: true; the input reads as it did. -/
def codeBackUptoRow : OpenClaim := { program := "ytldnaddcmnghkaa", sum := "0eade2a4ae613152986094b3ba125ecfaccbf60287f828cf764675444b710f6f", func := "cubbyhole/cubbyholelaw11.CodeBack", spec := "codeBack", apart := false, narrowed := true }
def CodeBackUptoSaid : Prop := codeBackUptoRow.holds Try.pinned (OpenSpec.upto codeBackSpec)

/-- 'cubbyholelaw11.CodeAny', WHERE WHAT IT READS IS OF BULK AT MOST 1048576: true; the input reads as it did. -/
def codeAnyUptoRow : OpenClaim := { program := "ytldnaddcmnghkaa", sum := "0eade2a4ae613152986094b3ba125ecfaccbf60287f828cf764675444b710f6f", func := "cubbyhole/cubbyholelaw11.CodeAny", spec := "codeAny", apart := false, narrowed := true }
def CodeAnyUptoSaid : Prop := codeAnyUptoRow.holds Try.pinned (OpenSpec.upto codeAnySpec)

/-- 'cubbyholelaw12.DeriveOne', WHERE WHAT IT READS IS OF BULK AT MOST 1048576: true; the input reads as it did. -/
def deriveOneUptoRow : OpenClaim := { program := "ytldnaddcmnghkaa", sum := "0eade2a4ae613152986094b3ba125ecfaccbf60287f828cf764675444b710f6f", func := "cubbyhole/cubbyholelaw12.DeriveOne", spec := "deriveOne", apart := false, narrowed := true }
def DeriveOneUptoSaid : Prop := deriveOneUptoRow.holds Try.pinned (OpenSpec.upto deriveOneSpec)

/-- 'cubbyholelaw12.DeriveLess', WHERE WHAT IT READS IS OF BULK AT MOST 1048576: true; the input reads as it did. -/
def deriveLessUptoRow : OpenClaim := { program := "ytldnaddcmnghkaa", sum := "0eade2a4ae613152986094b3ba125ecfaccbf60287f828cf764675444b710f6f", func := "cubbyhole/cubbyholelaw12.DeriveLess", spec := "deriveLess", apart := false, narrowed := true }
def DeriveLessUptoSaid : Prop := deriveLessUptoRow.holds Try.pinned (OpenSpec.upto deriveLessSpec)

/-- 'cubbyholelaw18.HeadBack', WHERE WHAT IT READS IS OF BULK AT MOST 1048576: true; the input reads as it did. -/
def headBackUptoRow : OpenClaim := { program := "ytldnaddcmnghkaa", sum := "0eade2a4ae613152986094b3ba125ecfaccbf60287f828cf764675444b710f6f", func := "cubbyhole/cubbyholelaw18.HeadBack", spec := "headBack", apart := false, narrowed := true }
def HeadBackUptoSaid : Prop := headBackUptoRow.holds Try.pinned (OpenSpec.upto headBackSpec)

/-- 'cubbyholelaw18.HeadAny', WHERE WHAT IT READS IS OF BULK AT MOST 1048576: true; the input reads as it did. -/
def headAnyUptoRow : OpenClaim := { program := "ytldnaddcmnghkaa", sum := "0eade2a4ae613152986094b3ba125ecfaccbf60287f828cf764675444b710f6f", func := "cubbyhole/cubbyholelaw18.HeadAny", spec := "headAny", apart := false, narrowed := true }
def HeadAnyUptoSaid : Prop := headAnyUptoRow.holds Try.pinned (OpenSpec.upto headAnySpec)

/-- 'cubbyholelaw23.ShufOrder', WHERE WHAT IT READS IS OF BULK AT MOST 1048576: true; the input reads as it did. -/
def shufOrderUptoRow : OpenClaim := { program := "ytldnaddcmnghkaa", sum := "0eade2a4ae613152986094b3ba125ecfaccbf60287f828cf764675444b710f6f", func := "cubbyhole/cubbyholelaw23.ShufOrder", spec := "shufOrder", apart := false, narrowed := true }
def ShufOrderUptoSaid : Prop := shufOrderUptoRow.holds Try.pinned (OpenSpec.upto shufOrderSpec)

/-- 'cubbyholelaw23.ShufBack', WHERE WHAT IT READS IS OF BULK AT MOST 1048576: true; the input reads as it did. -/
def shufBackUptoRow : OpenClaim := { program := "ytldnaddcmnghkaa", sum := "0eade2a4ae613152986094b3ba125ecfaccbf60287f828cf764675444b710f6f", func := "cubbyhole/cubbyholelaw23.ShufBack", spec := "shufBack", apart := false, narrowed := true }
def ShufBackUptoSaid : Prop := shufBackUptoRow.holds Try.pinned (OpenSpec.upto shufBackSpec)

/-- 'cubbyholelaw29.GuardNeed', WHERE WHAT IT READS IS OF BULK AT MOST 1048576: true; the input reads as it did. -/
def guardNeedUptoRow : OpenClaim := { program := "ytldnaddcmnghkaa", sum := "0eade2a4ae613152986094b3ba125ecfaccbf60287f828cf764675444b710f6f", func := "cubbyhole/cubbyholelaw29.GuardNeed", spec := "guardNeed", apart := false, narrowed := true }
def GuardNeedUptoSaid : Prop := guardNeedUptoRow.holds Try.pinned (OpenSpec.upto guardNeedSpec)

/-- 'cubbyholelaw29.GuardLay', WHERE WHAT IT READS IS OF BULK AT MOST 1048576: true; the input reads as it did. -/
def guardLayUptoRow : OpenClaim := { program := "ytldnaddcmnghkaa", sum := "0eade2a4ae613152986094b3ba125ecfaccbf60287f828cf764675444b710f6f", func := "cubbyhole/cubbyholelaw29.GuardLay", spec := "guardLay", apart := false, narrowed := true }
def GuardLayUptoSaid : Prop := guardLayUptoRow.holds Try.pinned (OpenSpec.upto guardLaySpec)

/-- 'cubbyholelaw34.EpochPlays', WHERE WHAT IT READS IS OF BULK AT MOST 1048576: true; the input reads as it did. -/
def epochPlaysUptoRow : OpenClaim := { program := "ytldnaddcmnghkaa", sum := "0eade2a4ae613152986094b3ba125ecfaccbf60287f828cf764675444b710f6f", func := "cubbyhole/cubbyholelaw34.EpochPlays", spec := "epochPlays", apart := false, narrowed := true }
def EpochPlaysUptoSaid : Prop := epochPlaysUptoRow.holds Try.pinned (OpenSpec.upto epochPlaysSpec)

/-- 'cubbyholelaw38.ConfCheck', WHERE WHAT IT READS IS OF BULK AT MOST 1048576: true; the input reads as it did. -/
def confCheckUptoRow : OpenClaim := { program := "ytldnaddcmnghkaa", sum := "0eade2a4ae613152986094b3ba125ecfaccbf60287f828cf764675444b710f6f", func := "cubbyhole/cubbyholelaw38.ConfCheck", spec := "confCheck", apart := false, narrowed := true }
def ConfCheckUptoSaid : Prop := confCheckUptoRow.holds Try.pinned (OpenSpec.upto confCheckSpec)

end Rows
end Go.Proofs.Ytldnaddcmnghkaa
