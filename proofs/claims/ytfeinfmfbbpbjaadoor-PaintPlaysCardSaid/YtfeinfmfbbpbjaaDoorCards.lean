/-
  DERIVED. GIVEN WITH THE SEED: THE CARDS: each row of YtfeinfmfbbpbjaaDoorRows.lean that lists a variable, with what it lists TIED to the program's text (the seventh form; the later family's looks); each row that meets fmt, with fmt's text TOLD by the authors' own Lean function (tested against real Go, not proved from fmt's source: count such statements apart). THE CARD IS WHAT COUNTS. Prove the row's statement (the work); the ties are given (YtfeinfmfbbpbjaaDoorTie.lean); close each card by the builder's one call (the guide's Derived/Test/ToyasCard.lean, 'card_holds'). Laid BY PROGRAM, IN A SANDBOX (cutbox-door.mjs). By AI agents, Wed Nov 11 2026. No macro, syntax, notation, axiom, sorry.
-/
import Derived.Test.YtfeinfmfbbpbjaaDoorRows
import GoSem.ClaimSeven
namespace Go.Proofs.YtfeinfmfbbpbjaaDoor
namespace Rows

/-- THE TIED CARD OF 'cubbyholelaw33.PaintPlays'. -/
def paintPlaysCard : Claim7 := { stood := { row := paintPlaysRow, standIns := [], harness := (true, "930a4b5d4a6d83973e718ee0deacbe05254894c48cea119c86ee24eac3eebea6"), looks := false }, kinds := [], alts := [], laidByText := true, laidKinds := [.data], laidTests := true, laidLooks := .later }
def PaintPlaysCardSaid : Prop := Claim7.holds Tryd.pinned (.plain (OpenSpec.ofChange paintPlaysSpec)) paintPlaysCard

/-- THE TIED CARD OF 'cubbyholelaw33.PaintRaw'. -/
def paintRawCard : Claim7 := { stood := { row := paintRawRow, standIns := [], harness := (true, "930a4b5d4a6d83973e718ee0deacbe05254894c48cea119c86ee24eac3eebea6"), looks := false }, kinds := [], alts := [], laidByText := true, laidKinds := [.data], laidTests := true, laidLooks := .later }
def PaintRawCardSaid : Prop := Claim7.holds Tryd.pinned (.plain (OpenSpec.ofChange paintRawSpec)) paintRawCard

/-- THE TIED CARD OF 'cubbyholelaw28.GapsPlays'. -/
def gapsPlaysCard : Claim7 := { stood := { row := gapsPlaysRow, standIns := [], harness := (true, "930a4b5d4a6d83973e718ee0deacbe05254894c48cea119c86ee24eac3eebea6"), looks := false }, kinds := [], alts := [], laidByText := true, laidKinds := [.data], laidTests := true, laidLooks := .later }
def GapsPlaysCardSaid : Prop := Claim7.holds Tryd.pinned (.plain (OpenSpec.ofChange gapsPlaysSpec)) gapsPlaysCard

/-- THE TIED CARD OF 'cubbyholelaw28.GapsRaw'. -/
def gapsRawCard : Claim7 := { stood := { row := gapsRawRow, standIns := [], harness := (true, "930a4b5d4a6d83973e718ee0deacbe05254894c48cea119c86ee24eac3eebea6"), looks := false }, kinds := [], alts := [], laidByText := true, laidKinds := [.data], laidTests := true, laidLooks := .later }
def GapsRawCardSaid : Prop := Claim7.holds Tryd.pinned (.plain (OpenSpec.ofChange gapsRawSpec)) gapsRawCard

/-- THE SECOND FORM's CARD OF 'cubbyholelaw33.PaintPlays'. -/
def paintPlaysUptoCard : Claim7 := { stood := { row := paintPlaysUptoRow, standIns := [], harness := (true, "930a4b5d4a6d83973e718ee0deacbe05254894c48cea119c86ee24eac3eebea6"), looks := false }, kinds := [], alts := [], laidByText := true, laidKinds := [.data], laidTests := true, laidLooks := .later }
def PaintPlaysUptoCardSaid : Prop := Claim7.holds Tryd.pinned (.plain (OpenSpec.upto paintPlaysSpec)) paintPlaysUptoCard

/-- THE SECOND FORM's CARD OF 'cubbyholelaw33.PaintRaw'. -/
def paintRawUptoCard : Claim7 := { stood := { row := paintRawUptoRow, standIns := [], harness := (true, "930a4b5d4a6d83973e718ee0deacbe05254894c48cea119c86ee24eac3eebea6"), looks := false }, kinds := [], alts := [], laidByText := true, laidKinds := [.data], laidTests := true, laidLooks := .later }
def PaintRawUptoCardSaid : Prop := Claim7.holds Tryd.pinned (.plain (OpenSpec.upto paintRawSpec)) paintRawUptoCard

/-- THE SECOND FORM's CARD OF 'cubbyholelaw28.GapsPlays'. -/
def gapsPlaysUptoCard : Claim7 := { stood := { row := gapsPlaysUptoRow, standIns := [], harness := (true, "930a4b5d4a6d83973e718ee0deacbe05254894c48cea119c86ee24eac3eebea6"), looks := false }, kinds := [], alts := [], laidByText := true, laidKinds := [.data], laidTests := true, laidLooks := .later }
def GapsPlaysUptoCardSaid : Prop := Claim7.holds Tryd.pinned (.plain (OpenSpec.upto gapsPlaysSpec)) gapsPlaysUptoCard

/-- THE SECOND FORM's CARD OF 'cubbyholelaw28.GapsRaw'. -/
def gapsRawUptoCard : Claim7 := { stood := { row := gapsRawUptoRow, standIns := [], harness := (true, "930a4b5d4a6d83973e718ee0deacbe05254894c48cea119c86ee24eac3eebea6"), looks := false }, kinds := [], alts := [], laidByText := true, laidKinds := [.data], laidTests := true, laidLooks := .later }
def GapsRawUptoCardSaid : Prop := Claim7.holds Tryd.pinned (.plain (OpenSpec.upto gapsRawSpec)) gapsRawUptoCard
end Rows
end Go.Proofs.YtfeinfmfbbpbjaaDoor
