/-
  DERIVED. GIVEN WITH THE SEED: THE CARDS: each row of YtgidnmjeifgciaaDoorRows.lean that lists a variable, with what it lists TIED to the program's text (the seventh form; the later family's looks); each row that meets fmt, with fmt's text TOLD by the authors' own Lean function (tested against real Go, not proved from fmt's source: count such statements apart). THE CARD IS WHAT COUNTS. Prove the row's statement (the work); the ties are given (YtgidnmjeifgciaaDoorTie.lean); close each card by the builder's one call (the guide's Derived/Test/ToyasCard.lean, 'card_holds'). Laid BY PROGRAM, IN A SANDBOX (cutbox-door.mjs). By AI agents, Wed Nov 11 2026. No macro, syntax, notation, axiom, sorry.
-/
import Derived.Test.YtgidnmjeifgciaaDoorRows
import GoSem.ClaimSeven
namespace Go.Proofs.YtgidnmjeifgciaaDoor
namespace Rows

/-- THE TIED CARD OF 'cubbyholelaw08.MemPlays'. -/
def memPlaysCard : Claim7 := { stood := { row := memPlaysRow, standIns := [], harness := (true, "4f89dec1866ca7b45215934ab05fd161c7494b52ebf5356f68102f42cf387a17"), looks := false }, kinds := [], alts := [], laidByText := true, laidKinds := [.data], laidTests := true, laidLooks := .later }
def MemPlaysCardSaid : Prop := Claim7.holds Tryd.pinned (.plain (OpenSpec.ofChange memPlaysSpec)) memPlaysCard

/-- THE TIED CARD OF 'cubbyholelaw08.MemTagged'. -/
def memTaggedCard : Claim7 := { stood := { row := memTaggedRow, standIns := [], harness := (true, "4f89dec1866ca7b45215934ab05fd161c7494b52ebf5356f68102f42cf387a17"), looks := false }, kinds := [], alts := [], laidByText := true, laidKinds := [.data], laidTests := true, laidLooks := .later }
def MemTaggedCardSaid : Prop := Claim7.holds Tryd.pinned (.plain (OpenSpec.ofChange memTaggedSpec)) memTaggedCard

/-- THE TIED CARD OF 'cubbyholelaw08.MemSame'. -/
def memSameCard : Claim7 := { stood := { row := memSameRow, standIns := [], harness := (true, "4f89dec1866ca7b45215934ab05fd161c7494b52ebf5356f68102f42cf387a17"), looks := false }, kinds := [], alts := [], laidByText := true, laidKinds := [.data], laidTests := true, laidLooks := .later }
def MemSameCardSaid : Prop := Claim7.holds Tryd.pinned (.plain (OpenSpec.ofChange memSameSpec)) memSameCard

/-- THE TIED CARD OF 'cubbyholelaw14.HoldPlays'. -/
def holdPlaysCard : Claim7 := { stood := { row := holdPlaysRow, standIns := [], harness := (true, "4f89dec1866ca7b45215934ab05fd161c7494b52ebf5356f68102f42cf387a17"), looks := false }, kinds := [], alts := [], laidByText := true, laidKinds := [.data], laidTests := true, laidLooks := .later }
def HoldPlaysCardSaid : Prop := Claim7.holds Tryd.pinned (.plain (OpenSpec.ofChange holdPlaysSpec)) holdPlaysCard

/-- THE TIED CARD OF 'cubbyholelaw14.HoldApart'. -/
def holdApartCard : Claim7 := { stood := { row := holdApartRow, standIns := [], harness := (true, "4f89dec1866ca7b45215934ab05fd161c7494b52ebf5356f68102f42cf387a17"), looks := false }, kinds := [], alts := [], laidByText := true, laidKinds := [.data], laidTests := true, laidLooks := .later }
def HoldApartCardSaid : Prop := Claim7.holds Tryd.pinned (.plain (OpenSpec.ofChange holdApartSpec)) holdApartCard

/-- THE TIED CARD OF 'cubbyholelaw21.ChunkHeads'. -/
def chunkHeadsCard : Claim7 := { stood := { row := chunkHeadsRow, standIns := [], harness := (true, "4f89dec1866ca7b45215934ab05fd161c7494b52ebf5356f68102f42cf387a17"), looks := false }, kinds := [], alts := [], laidByText := true, laidKinds := [.data], laidTests := true, laidLooks := .later }
def ChunkHeadsCardSaid : Prop := Claim7.holds Tryd.pinned (.plain (OpenSpec.ofChange chunkHeadsSpec)) chunkHeadsCard

/-- THE TIED CARD OF 'cubbyholelaw21.ChunkTags'. -/
def chunkTagsCard : Claim7 := { stood := { row := chunkTagsRow, standIns := [], harness := (true, "4f89dec1866ca7b45215934ab05fd161c7494b52ebf5356f68102f42cf387a17"), looks := false }, kinds := [], alts := [], laidByText := true, laidKinds := [.data], laidTests := true, laidLooks := .later }
def ChunkTagsCardSaid : Prop := Claim7.holds Tryd.pinned (.plain (OpenSpec.ofChange chunkTagsSpec)) chunkTagsCard

/-- THE SECOND FORM's CARD OF 'cubbyholelaw08.MemPlays'. -/
def memPlaysUptoCard : Claim7 := { stood := { row := memPlaysUptoRow, standIns := [], harness := (true, "4f89dec1866ca7b45215934ab05fd161c7494b52ebf5356f68102f42cf387a17"), looks := false }, kinds := [], alts := [], laidByText := true, laidKinds := [.data], laidTests := true, laidLooks := .later }
def MemPlaysUptoCardSaid : Prop := Claim7.holds Tryd.pinned (.plain (OpenSpec.upto memPlaysSpec)) memPlaysUptoCard

/-- THE SECOND FORM's CARD OF 'cubbyholelaw08.MemTagged'. -/
def memTaggedUptoCard : Claim7 := { stood := { row := memTaggedUptoRow, standIns := [], harness := (true, "4f89dec1866ca7b45215934ab05fd161c7494b52ebf5356f68102f42cf387a17"), looks := false }, kinds := [], alts := [], laidByText := true, laidKinds := [.data], laidTests := true, laidLooks := .later }
def MemTaggedUptoCardSaid : Prop := Claim7.holds Tryd.pinned (.plain (OpenSpec.upto memTaggedSpec)) memTaggedUptoCard

/-- THE SECOND FORM's CARD OF 'cubbyholelaw08.MemSame'. -/
def memSameUptoCard : Claim7 := { stood := { row := memSameUptoRow, standIns := [], harness := (true, "4f89dec1866ca7b45215934ab05fd161c7494b52ebf5356f68102f42cf387a17"), looks := false }, kinds := [], alts := [], laidByText := true, laidKinds := [.data], laidTests := true, laidLooks := .later }
def MemSameUptoCardSaid : Prop := Claim7.holds Tryd.pinned (.plain (OpenSpec.upto memSameSpec)) memSameUptoCard

/-- THE SECOND FORM's CARD OF 'cubbyholelaw14.HoldPlays'. -/
def holdPlaysUptoCard : Claim7 := { stood := { row := holdPlaysUptoRow, standIns := [], harness := (true, "4f89dec1866ca7b45215934ab05fd161c7494b52ebf5356f68102f42cf387a17"), looks := false }, kinds := [], alts := [], laidByText := true, laidKinds := [.data], laidTests := true, laidLooks := .later }
def HoldPlaysUptoCardSaid : Prop := Claim7.holds Tryd.pinned (.plain (OpenSpec.upto holdPlaysSpec)) holdPlaysUptoCard

/-- THE SECOND FORM's CARD OF 'cubbyholelaw14.HoldApart'. -/
def holdApartUptoCard : Claim7 := { stood := { row := holdApartUptoRow, standIns := [], harness := (true, "4f89dec1866ca7b45215934ab05fd161c7494b52ebf5356f68102f42cf387a17"), looks := false }, kinds := [], alts := [], laidByText := true, laidKinds := [.data], laidTests := true, laidLooks := .later }
def HoldApartUptoCardSaid : Prop := Claim7.holds Tryd.pinned (.plain (OpenSpec.upto holdApartSpec)) holdApartUptoCard

/-- THE SECOND FORM's CARD OF 'cubbyholelaw21.ChunkHeads'. -/
def chunkHeadsUptoCard : Claim7 := { stood := { row := chunkHeadsUptoRow, standIns := [], harness := (true, "4f89dec1866ca7b45215934ab05fd161c7494b52ebf5356f68102f42cf387a17"), looks := false }, kinds := [], alts := [], laidByText := true, laidKinds := [.data], laidTests := true, laidLooks := .later }
def ChunkHeadsUptoCardSaid : Prop := Claim7.holds Tryd.pinned (.plain (OpenSpec.upto chunkHeadsSpec)) chunkHeadsUptoCard

/-- THE SECOND FORM's CARD OF 'cubbyholelaw21.ChunkTags'. -/
def chunkTagsUptoCard : Claim7 := { stood := { row := chunkTagsUptoRow, standIns := [], harness := (true, "4f89dec1866ca7b45215934ab05fd161c7494b52ebf5356f68102f42cf387a17"), looks := false }, kinds := [], alts := [], laidByText := true, laidKinds := [.data], laidTests := true, laidLooks := .later }
def ChunkTagsUptoCardSaid : Prop := Claim7.holds Tryd.pinned (.plain (OpenSpec.upto chunkTagsSpec)) chunkTagsUptoCard
end Rows
end Go.Proofs.YtgidnmjeifgciaaDoor
