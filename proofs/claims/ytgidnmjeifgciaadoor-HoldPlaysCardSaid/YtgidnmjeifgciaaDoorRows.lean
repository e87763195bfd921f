/-
  NARROWER THAN 'FOR EVERY INPUT', by the rows' own cells (each row's printed sentence says how): MemPlays: laid · MemTagged: laid · MemSame: laid · HoldPlays: laid · HoldApart: laid · ChunkHeads: laid · ChunkTags: laid.
  DERIVED. THE GIVEN ROWS OF THIS SEAT. 7 by the template 'for every input the law returns true; each argument reads behind the call as it read before'; 0 by the template 'total and deterministic' (their statements: YtgidnmjeifgciaaDoorTotals.lean).
  GIVEN WITH THE SEED: the statements are not yours to turn. If you find one false, say at which input.
  Laid BY PROGRAM, IN A SANDBOX (cutbox-rows.mjs): the forced cells as the released guide's own fill.sh prints them over the translation 07a449c2b833e32e… (all of the seat's roots in one cut). By AI agents, Wed Nov 11 2026. No macro, syntax, notation, axiom, sorry.
-/
import Derived.Test.YtgidnmjeifgciaaDoorChecked
import GoSem.Claim
import GoSem.ClaimJoined
import GoSem.ClaimMapViews
import Derived.JoinedTies
import Derived.KernelRfl
namespace Go.Proofs.YtgidnmjeifgciaaDoor
/- THE CELL 'sum', in the pinned program and in every row, IS THE sha256 OF THE DUMP (.gsa) THAT YtgidnmjeifgciaaDoorProg.lean LOADS. Nothing in Lean hashes anything: it is a label: what it is worth is what the hold of that sum in a sandbox is worth. -/
noncomputable def Tryd.pinned : Pinned := { name := "ytgidnmjeifgciaadoor", sum := "07a449c2b833e32ea2cd57628007badad634b259e0ee31409af2cbac9910fecc", checked := Tryd.checked }
namespace Rows
def none {H : Type} : Left H := { results := [], args := [] }

/- WHAT THE LISTED PACKAGE-LEVEL VARIABLES READ AS WHEN THE CALL BEGINS. Each datum BY PROGRAM (the guide's laid-datum.mjs) off the statement by which the dump's own 'gosem.cut.vars' lays the variable. In a bare row this is a premise. The card (YtgidnmjeifgciaaDoorCards.lean) ties it to the program's text. -/
def laid_math_bits_deBruijn64tab {H : Type} : DataW H := .agg [.lit (.int .u8 0), .lit (.int .u8 1), .lit (.int .u8 56), .lit (.int .u8 2), .lit (.int .u8 57), .lit (.int .u8 49), .lit (.int .u8 28), .lit (.int .u8 3), .lit (.int .u8 61), .lit (.int .u8 58), .lit (.int .u8 42), .lit (.int .u8 50), .lit (.int .u8 38), .lit (.int .u8 29), .lit (.int .u8 17), .lit (.int .u8 4), .lit (.int .u8 62), .lit (.int .u8 47), .lit (.int .u8 59), .lit (.int .u8 36), .lit (.int .u8 45), .lit (.int .u8 43), .lit (.int .u8 51), .lit (.int .u8 22), .lit (.int .u8 53), .lit (.int .u8 39), .lit (.int .u8 33), .lit (.int .u8 30), .lit (.int .u8 24), .lit (.int .u8 18), .lit (.int .u8 12), .lit (.int .u8 5), .lit (.int .u8 63), .lit (.int .u8 55), .lit (.int .u8 48), .lit (.int .u8 27), .lit (.int .u8 60), .lit (.int .u8 41), .lit (.int .u8 37), .lit (.int .u8 16), .lit (.int .u8 46), .lit (.int .u8 35), .lit (.int .u8 44), .lit (.int .u8 21), .lit (.int .u8 52), .lit (.int .u8 32), .lit (.int .u8 23), .lit (.int .u8 11), .lit (.int .u8 54), .lit (.int .u8 26), .lit (.int .u8 40), .lit (.int .u8 15), .lit (.int .u8 34), .lit (.int .u8 20), .lit (.int .u8 31), .lit (.int .u8 10), .lit (.int .u8 25), .lit (.int .u8 14), .lit (.int .u8 19), .lit (.int .u8 9), .lit (.int .u8 13), .lit (.int .u8 8), .lit (.int .u8 7), .lit (.int .u8 6)]

/-- 'cubbyholelaw08.MemPlays': WHATEVER THE INPUT: true; the input reads as it did. -/
def memPlaysSpec : ChangeSpec := { name := "memPlays", fn := fun _ => fun
  | [d] => { results := [.lit (.bool true)], args := [d] }
  | _ => none }
def memPlaysRow : OpenClaim := { program := "ytgidnmjeifgciaadoor", sum := "07a449c2b833e32ea2cd57628007badad634b259e0ee31409af2cbac9910fecc", func := "cubbyhole/cubbyholelaw08.MemPlays", spec := "memPlays", unfollowed := true, recurses := true, named := ["math/bits.deBruijn64tab"], plainKeys := false, apart := false, laid := [("math/bits.deBruijn64tab", laid_math_bits_deBruijn64tab)] }
def MemPlaysSaid : Prop := memPlaysRow.holds Tryd.pinned (OpenSpec.ofChange memPlaysSpec)

/-- ITS FALSE NEIGHBOUR: 'it returns false'. Refute it at one input. -/
def memPlaysWrong : ChangeSpec := { name := "memPlays", fn := fun _ => fun
  | [d] => { results := [.lit (.bool false)], args := [d] }
  | _ => none }
def MemPlaysWrongFalsely : Prop := memPlaysRow.holds Tryd.pinned (OpenSpec.ofChange memPlaysWrong)

/-- 'cubbyholelaw08.MemTagged': WHATEVER THE INPUT: true; the input reads as it did. -/
def memTaggedSpec : ChangeSpec := { name := "memTagged", fn := fun _ => fun
  | [d1, d2, d3] => { results := [.lit (.bool true)], args := [d1, d2, d3] }
  | _ => none }
def memTaggedRow : OpenClaim := { program := "ytgidnmjeifgciaadoor", sum := "07a449c2b833e32ea2cd57628007badad634b259e0ee31409af2cbac9910fecc", func := "cubbyhole/cubbyholelaw08.MemTagged", spec := "memTagged", unfollowed := true, recurses := true, named := ["math/bits.deBruijn64tab"], plainKeys := false, apart := false, laid := [("math/bits.deBruijn64tab", laid_math_bits_deBruijn64tab)] }
def MemTaggedSaid : Prop := memTaggedRow.holds Tryd.pinned (OpenSpec.ofChange memTaggedSpec)

/-- ITS FALSE NEIGHBOUR: 'it returns false'. Refute it at one input. -/
def memTaggedWrong : ChangeSpec := { name := "memTagged", fn := fun _ => fun
  | [d1, d2, d3] => { results := [.lit (.bool false)], args := [d1, d2, d3] }
  | _ => none }
def MemTaggedWrongFalsely : Prop := memTaggedRow.holds Tryd.pinned (OpenSpec.ofChange memTaggedWrong)

/-- 'cubbyholelaw08.MemSame': WHATEVER THE INPUT: true; the input reads as it did. -/
def memSameSpec : ChangeSpec := { name := "memSame", fn := fun _ => fun
  | [d1, d2] => { results := [.lit (.bool true)], args := [d1, d2] }
  | _ => none }
def memSameRow : OpenClaim := { program := "ytgidnmjeifgciaadoor", sum := "07a449c2b833e32ea2cd57628007badad634b259e0ee31409af2cbac9910fecc", func := "cubbyhole/cubbyholelaw08.MemSame", spec := "memSame", unfollowed := true, recurses := true, named := ["math/bits.deBruijn64tab"], plainKeys := false, apart := false, laid := [("math/bits.deBruijn64tab", laid_math_bits_deBruijn64tab)] }
def MemSameSaid : Prop := memSameRow.holds Tryd.pinned (OpenSpec.ofChange memSameSpec)

/-- ITS FALSE NEIGHBOUR: 'it returns false'. Refute it at one input. -/
def memSameWrong : ChangeSpec := { name := "memSame", fn := fun _ => fun
  | [d1, d2] => { results := [.lit (.bool false)], args := [d1, d2] }
  | _ => none }
def MemSameWrongFalsely : Prop := memSameRow.holds Tryd.pinned (OpenSpec.ofChange memSameWrong)

/-- 'cubbyholelaw14.HoldPlays': WHATEVER THE INPUT: true; the input reads as it did. -/
def holdPlaysSpec : ChangeSpec := { name := "holdPlays", fn := fun _ => fun
  | [d] => { results := [.lit (.bool true)], args := [d] }
  | _ => none }
def holdPlaysRow : OpenClaim := { program := "ytgidnmjeifgciaadoor", sum := "07a449c2b833e32ea2cd57628007badad634b259e0ee31409af2cbac9910fecc", func := "cubbyhole/cubbyholelaw14.HoldPlays", spec := "holdPlays", unfollowed := true, recurses := true, named := ["math/bits.deBruijn64tab"], plainKeys := false, apart := false, laid := [("math/bits.deBruijn64tab", laid_math_bits_deBruijn64tab)] }
def HoldPlaysSaid : Prop := holdPlaysRow.holds Tryd.pinned (OpenSpec.ofChange holdPlaysSpec)

/-- ITS FALSE NEIGHBOUR: 'it returns false'. Refute it at one input. -/
def holdPlaysWrong : ChangeSpec := { name := "holdPlays", fn := fun _ => fun
  | [d] => { results := [.lit (.bool false)], args := [d] }
  | _ => none }
def HoldPlaysWrongFalsely : Prop := holdPlaysRow.holds Tryd.pinned (OpenSpec.ofChange holdPlaysWrong)

/-- 'cubbyholelaw14.HoldApart': WHATEVER THE INPUT: true; the input reads as it did. -/
def holdApartSpec : ChangeSpec := { name := "holdApart", fn := fun _ => fun
  | [d1, d2] => { results := [.lit (.bool true)], args := [d1, d2] }
  | _ => none }
def holdApartRow : OpenClaim := { program := "ytgidnmjeifgciaadoor", sum := "07a449c2b833e32ea2cd57628007badad634b259e0ee31409af2cbac9910fecc", func := "cubbyhole/cubbyholelaw14.HoldApart", spec := "holdApart", unfollowed := true, recurses := true, named := ["math/bits.deBruijn64tab"], plainKeys := false, apart := false, laid := [("math/bits.deBruijn64tab", laid_math_bits_deBruijn64tab)] }
def HoldApartSaid : Prop := holdApartRow.holds Tryd.pinned (OpenSpec.ofChange holdApartSpec)

/-- ITS FALSE NEIGHBOUR: 'it returns false'. Refute it at one input. -/
def holdApartWrong : ChangeSpec := { name := "holdApart", fn := fun _ => fun
  | [d1, d2] => { results := [.lit (.bool false)], args := [d1, d2] }
  | _ => none }
def HoldApartWrongFalsely : Prop := holdApartRow.holds Tryd.pinned (OpenSpec.ofChange holdApartWrong)

/-- 'cubbyholelaw21.ChunkHeads': WHATEVER THE INPUT: true; the input reads as it did. -/
def chunkHeadsSpec : ChangeSpec := { name := "chunkHeads", fn := fun _ => fun
  | [d1, d2, d3] => { results := [.lit (.bool true)], args := [d1, d2, d3] }
  | _ => none }
def chunkHeadsRow : OpenClaim := { program := "ytgidnmjeifgciaadoor", sum := "07a449c2b833e32ea2cd57628007badad634b259e0ee31409af2cbac9910fecc", func := "cubbyhole/cubbyholelaw21.ChunkHeads", spec := "chunkHeads", unfollowed := true, recurses := true, named := ["math/bits.deBruijn64tab"], plainKeys := false, apart := false, laid := [("math/bits.deBruijn64tab", laid_math_bits_deBruijn64tab)] }
def ChunkHeadsSaid : Prop := chunkHeadsRow.holds Tryd.pinned (OpenSpec.ofChange chunkHeadsSpec)

/-- ITS FALSE NEIGHBOUR: 'it returns false'. Refute it at one input. -/
def chunkHeadsWrong : ChangeSpec := { name := "chunkHeads", fn := fun _ => fun
  | [d1, d2, d3] => { results := [.lit (.bool false)], args := [d1, d2, d3] }
  | _ => none }
def ChunkHeadsWrongFalsely : Prop := chunkHeadsRow.holds Tryd.pinned (OpenSpec.ofChange chunkHeadsWrong)

/-- 'cubbyholelaw21.ChunkTags': WHATEVER THE INPUT: true; the input reads as it did. -/
def chunkTagsSpec : ChangeSpec := { name := "chunkTags", fn := fun _ => fun
  | [d1, d2, d3] => { results := [.lit (.bool true)], args := [d1, d2, d3] }
  | _ => none }
def chunkTagsRow : OpenClaim := { program := "ytgidnmjeifgciaadoor", sum := "07a449c2b833e32ea2cd57628007badad634b259e0ee31409af2cbac9910fecc", func := "cubbyhole/cubbyholelaw21.ChunkTags", spec := "chunkTags", unfollowed := true, recurses := true, named := ["math/bits.deBruijn64tab"], plainKeys := false, apart := false, laid := [("math/bits.deBruijn64tab", laid_math_bits_deBruijn64tab)] }
def ChunkTagsSaid : Prop := chunkTagsRow.holds Tryd.pinned (OpenSpec.ofChange chunkTagsSpec)

/-- ITS FALSE NEIGHBOUR: 'it returns false'. Refute it at one input. -/
def chunkTagsWrong : ChangeSpec := { name := "chunkTags", fn := fun _ => fun
  | [d1, d2, d3] => { results := [.lit (.bool false)], args := [d1, d2, d3] }
  | _ => none }
def ChunkTagsWrongFalsely : Prop := chunkTagsRow.holds Tryd.pinned (OpenSpec.ofChange chunkTagsWrong)

/- THE SECOND FORM. 'bulk': how many values and letters a reading holds, each counted each time it is reached (what is shared counts as often as it is met; a slice's spare places count too). A statement '..UptoSaid' is the law's where the arguments, and the package variables that the reading takes, are together of bulk at most 1048576: NARROWER than '..Said'. Prove '..Said' where nothing that the law and all that it calls make is longer than what came in: it says more and counts as full. Else prove '..UptoSaid'. A law counts once. -/
mutual
def uptoBulk {H : Type} : DataW H → Nat
  | .lit (.string bytes) => bytes.length + 1
  | .lit _ => 1
  | .nil => 1
  | .ptr d => uptoBulk d + 1
  | .slice elems spare => uptoBulkAll elems + uptoBulkAll spare + 1
  | .agg parts => uptoBulkAll parts + 1
  | .iface _ d => uptoBulk d + 1
  | .map entries => uptoBulkEntries entries + 1
  | .held _ => 1
def uptoBulkAll {H : Type} : List (DataW H) → Nat
  | [] => 0
  | d :: r => uptoBulk d + uptoBulkAll r
def uptoBulkEntries {H : Type} : List (Lit × DataW H) → Nat
  | [] => 0
  | x :: r => uptoBulkEntry x + uptoBulkEntries r
def uptoBulkEntry {H : Type} : Lit × DataW H → Nat
  | (.string bytes, d) => bytes.length + uptoBulk d + 1
  | (_, d) => uptoBulk d + 1
 end
def uptoSmall : (H : Type) → List (DataW H) → Bool := fun _ ds => decide (uptoBulkAll ds ≤ 1048576)
def OpenSpec.upto (s : _root_.Go.ChangeSpec) : _root_.Go.OpenSpec := { _root_.Go.OpenSpec.ofChange s with cond := some uptoSmall }

/-- 'cubbyholelaw08.MemPlays', WHERE WHAT IT READS IS OF BULK AT MOST 1048576: true; the input reads as it did. -/
def memPlaysUptoRow : OpenClaim := { program := "ytgidnmjeifgciaadoor", sum := "07a449c2b833e32ea2cd57628007badad634b259e0ee31409af2cbac9910fecc", func := "cubbyhole/cubbyholelaw08.MemPlays", spec := "memPlays", unfollowed := true, recurses := true, named := ["math/bits.deBruijn64tab"], plainKeys := false, apart := false, laid := [("math/bits.deBruijn64tab", laid_math_bits_deBruijn64tab)], narrowed := true }
def MemPlaysUptoSaid : Prop := memPlaysUptoRow.holds Tryd.pinned (OpenSpec.upto memPlaysSpec)

/-- 'cubbyholelaw08.MemTagged', WHERE WHAT IT READS IS OF BULK AT MOST 1048576: true; the input reads as it did. -/
def memTaggedUptoRow : OpenClaim := { program := "ytgidnmjeifgciaadoor", sum := "07a449c2b833e32ea2cd57628007badad634b259e0ee31409af2cbac9910fecc", func := "cubbyhole/cubbyholelaw08.MemTagged", spec := "memTagged", unfollowed := true, recurses := true, named := ["math/bits.deBruijn64tab"], plainKeys := false, apart := false, laid := [("math/bits.deBruijn64tab", laid_math_bits_deBruijn64tab)], narrowed := true }
def MemTaggedUptoSaid : Prop := memTaggedUptoRow.holds Tryd.pinned (OpenSpec.upto memTaggedSpec)

/-- 'cubbyholelaw08.MemSame', WHERE WHAT IT READS IS OF BULK AT MOST 1048576: true; the input reads as it did. -/
def memSameUptoRow : OpenClaim := { program := "ytgidnmjeifgciaadoor", sum := "07a449c2b833e32ea2cd57628007badad634b259e0ee31409af2cbac9910fecc", func := "cubbyhole/cubbyholelaw08.MemSame", spec := "memSame", unfollowed := true, recurses := true, named := ["math/bits.deBruijn64tab"], plainKeys := false, apart := false, laid := [("math/bits.deBruijn64tab", laid_math_bits_deBruijn64tab)], narrowed := true }
def MemSameUptoSaid : Prop := memSameUptoRow.holds Tryd.pinned (OpenSpec.upto memSameSpec)

/-- 'cubbyholelaw14.HoldPlays', WHERE WHAT IT READS IS OF BULK AT MOST 1048576: true; the input reads as it did. -/
def holdPlaysUptoRow : OpenClaim := { program := "ytgidnmjeifgciaadoor", sum := "07a449c2b833e32ea2cd57628007badad634b259e0ee31409af2cbac9910fecc", func := "cubbyhole/cubbyholelaw14.HoldPlays", spec := "holdPlays", unfollowed := true, recurses := true, named := ["math/bits.deBruijn64tab"], plainKeys := false, apart := false, laid := [("math/bits.deBruijn64tab", laid_math_bits_deBruijn64tab)], narrowed := true }
def HoldPlaysUptoSaid : Prop := holdPlaysUptoRow.holds Tryd.pinned (OpenSpec.upto holdPlaysSpec)

/-- 'cubbyholelaw14.HoldApart', WHERE WHAT IT READS IS OF BULK AT MOST 1048576: true; the input reads as it did. -/
def holdApartUptoRow : OpenClaim := { program := "ytgidnmjeifgciaadoor", sum := "07a449c2b833e32ea2cd57628007badad634b259e0ee31409af2cbac9910fecc", func := "cubbyhole/cubbyholelaw14.HoldApart", spec := "holdApart", unfollowed := true, recurses := true, named := ["math/bits.deBruijn64tab"], plainKeys := false, apart := false, laid := [("math/bits.deBruijn64tab", laid_math_bits_deBruijn64tab)], narrowed := true }
def HoldApartUptoSaid : Prop := holdApartUptoRow.holds Tryd.pinned (OpenSpec.upto holdApartSpec)

/-- 'cubbyholelaw21.ChunkHeads', WHERE WHAT IT READS IS OF BULK AT MOST 1048576: true; the input reads as it did. -/
def chunkHeadsUptoRow : OpenClaim := { program := "ytgidnmjeifgciaadoor", sum := "07a449c2b833e32ea2cd57628007badad634b259e0ee31409af2cbac9910fecc", func := "cubbyhole/cubbyholelaw21.ChunkHeads", spec := "chunkHeads", unfollowed := true, recurses := true, named := ["math/bits.deBruijn64tab"], plainKeys := false, apart := false, laid := [("math/bits.deBruijn64tab", laid_math_bits_deBruijn64tab)], narrowed := true }
def ChunkHeadsUptoSaid : Prop := chunkHeadsUptoRow.holds Tryd.pinned (OpenSpec.upto chunkHeadsSpec)

/-- 'cubbyholelaw21.ChunkTags', WHERE WHAT IT READS IS OF BULK AT MOST 1048576: true; the input reads as it did. -/
def chunkTagsUptoRow : OpenClaim := { program := "ytgidnmjeifgciaadoor", sum := "07a449c2b833e32ea2cd57628007badad634b259e0ee31409af2cbac9910fecc", func := "cubbyhole/cubbyholelaw21.ChunkTags", spec := "chunkTags", unfollowed := true, recurses := true, named := ["math/bits.deBruijn64tab"], plainKeys := false, apart := false, laid := [("math/bits.deBruijn64tab", laid_math_bits_deBruijn64tab)], narrowed := true }
def ChunkTagsUptoSaid : Prop := chunkTagsUptoRow.holds Tryd.pinned (OpenSpec.upto chunkTagsSpec)

end Rows
end Go.Proofs.YtgidnmjeifgciaaDoor
