/-
  DERIVED. GIVEN WITH THE SEED: THE CARDS: each row of YtjblgamngnnccaaDoorRows.lean that lists a variable, with what it lists TIED to the program's text (the seventh form; the later family's looks); each row that meets fmt, with fmt's text TOLD by the authors' own Lean function (tested against real Go, not proved from fmt's source: count such statements apart). THE CARD IS WHAT COUNTS. Prove the row's statement (the work); the ties are given (YtjblgamngnnccaaDoorTie.lean); close each card by the builder's one call (the guide's Derived/Test/ToyasCard.lean, 'card_holds'). Laid BY PROGRAM, IN A SANDBOX (cutbox-door.mjs). By AI agents, Wed Nov 11 2026. No macro, syntax, notation, axiom, sorry.
-/
import Derived.Test.YtjblgamngnnccaaDoorRows
import GoSem.ClaimSeven
namespace Go.Proofs.YtjblgamngnnccaaDoor
namespace Rows

/-- THE TIED CARD OF 'cubbyholelaw39.StatCounts'. -/
def statCountsCard : Claim7 := { stood := { row := statCountsRow, standIns := [], harness := (true, "6fa81d66c19ed2440a7f9bf18b62d18bc137b6701683aa56b984adf29c1bc44c"), looks := false }, kinds := [], alts := [], laidByText := true, laidKinds := [.data, .data, .data], laidTests := true, laidLooks := .later }
def StatCountsCardSaid : Prop := Claim7.holds Tryd.pinned (.plain (OpenSpec.ofChange statCountsSpec)) statCountsCard

/-- THE TIED CARD OF 'cubbyholelaw39.StatTexts'. -/
def statTextsCard : Claim7 := { stood := { row := statTextsRow, standIns := [], harness := (true, "6fa81d66c19ed2440a7f9bf18b62d18bc137b6701683aa56b984adf29c1bc44c"), looks := false }, kinds := [], alts := [], laidByText := true, laidKinds := [.data, .data, .data], laidTests := true, laidLooks := .later }
def StatTextsCardSaid : Prop := Claim7.holds Tryd.pinned (.plain (OpenSpec.ofChange statTextsSpec)) statTextsCard

/-- THE TIED CARD OF 'cubbyholelaw28.GapsPlays'. -/
def gapsPlaysCard : Claim7 := { stood := { row := gapsPlaysRow, standIns := [], harness := (true, "6fa81d66c19ed2440a7f9bf18b62d18bc137b6701683aa56b984adf29c1bc44c"), looks := false }, kinds := [], alts := [], laidByText := true, laidKinds := [.data], laidTests := true, laidLooks := .later }
def GapsPlaysCardSaid : Prop := Claim7.holds Tryd.pinned (.plain (OpenSpec.ofChange gapsPlaysSpec)) gapsPlaysCard

/-- THE TIED CARD OF 'cubbyholelaw28.GapsRaw'. -/
def gapsRawCard : Claim7 := { stood := { row := gapsRawRow, standIns := [], harness := (true, "6fa81d66c19ed2440a7f9bf18b62d18bc137b6701683aa56b984adf29c1bc44c"), looks := false }, kinds := [], alts := [], laidByText := true, laidKinds := [.data], laidTests := true, laidLooks := .later }
def GapsRawCardSaid : Prop := Claim7.holds Tryd.pinned (.plain (OpenSpec.ofChange gapsRawSpec)) gapsRawCard

/-- THE SECOND FORM's CARD OF 'cubbyholelaw39.StatCounts'. -/
def statCountsUptoCard : Claim7 := { stood := { row := statCountsUptoRow, standIns := [], harness := (true, "6fa81d66c19ed2440a7f9bf18b62d18bc137b6701683aa56b984adf29c1bc44c"), looks := false }, kinds := [], alts := [], laidByText := true, laidKinds := [.data, .data, .data], laidTests := true, laidLooks := .later }
def StatCountsUptoCardSaid : Prop := Claim7.holds Tryd.pinned (.plain (OpenSpec.upto statCountsSpec)) statCountsUptoCard

/-- THE SECOND FORM's CARD OF 'cubbyholelaw39.StatTexts'. -/
def statTextsUptoCard : Claim7 := { stood := { row := statTextsUptoRow, standIns := [], harness := (true, "6fa81d66c19ed2440a7f9bf18b62d18bc137b6701683aa56b984adf29c1bc44c"), looks := false }, kinds := [], alts := [], laidByText := true, laidKinds := [.data, .data, .data], laidTests := true, laidLooks := .later }
def StatTextsUptoCardSaid : Prop := Claim7.holds Tryd.pinned (.plain (OpenSpec.upto statTextsSpec)) statTextsUptoCard

/-- THE SECOND FORM's CARD OF 'cubbyholelaw28.GapsPlays'. -/
def gapsPlaysUptoCard : Claim7 := { stood := { row := gapsPlaysUptoRow, standIns := [], harness := (true, "6fa81d66c19ed2440a7f9bf18b62d18bc137b6701683aa56b984adf29c1bc44c"), looks := false }, kinds := [], alts := [], laidByText := true, laidKinds := [.data], laidTests := true, laidLooks := .later }
def GapsPlaysUptoCardSaid : Prop := Claim7.holds Tryd.pinned (.plain (OpenSpec.upto gapsPlaysSpec)) gapsPlaysUptoCard

/-- THE SECOND FORM's CARD OF 'cubbyholelaw28.GapsRaw'. -/
def gapsRawUptoCard : Claim7 := { stood := { row := gapsRawUptoRow, standIns := [], harness := (true, "6fa81d66c19ed2440a7f9bf18b62d18bc137b6701683aa56b984adf29c1bc44c"), looks := false }, kinds := [], alts := [], laidByText := true, laidKinds := [.data], laidTests := true, laidLooks := .later }
def GapsRawUptoCardSaid : Prop := Claim7.holds Tryd.pinned (.plain (OpenSpec.upto gapsRawSpec)) gapsRawUptoCard
end Rows
end Go.Proofs.YtjblgamngnnccaaDoor
