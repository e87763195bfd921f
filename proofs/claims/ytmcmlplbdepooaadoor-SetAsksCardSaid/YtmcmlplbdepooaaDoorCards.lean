/-
  DERIVED. GIVEN WITH THE SEED: THE CARDS: each row of YtmcmlplbdepooaaDoorRows.lean that lists a variable, with what it lists TIED to the program's text (the seventh form; the later family's looks); each row that meets fmt, with fmt's text TOLD by the authors' own Lean function (tested against real Go, not proved from fmt's source: count such statements apart). THE CARD IS WHAT COUNTS. Prove the row's statement (the work); the ties are given (YtmcmlplbdepooaaDoorTie.lean); close each card by the builder's one call (the guide's Derived/Test/ToyasCard.lean, 'card_holds'). Laid BY PROGRAM, IN A SANDBOX (cutbox-door.mjs). By AI agents, Wed Nov 11 2026. No macro, syntax, notation, axiom, sorry.
-/
import Derived.Test.YtmcmlplbdepooaaDoorRows
import GoSem.ClaimSeven
namespace Go.Proofs.YtmcmlplbdepooaaDoor
namespace Rows

/-- THE TIED CARD OF 'cubbyholelaw01.NumMultiples'. -/
def numMultiplesCard : Claim7 := { stood := { row := numMultiplesRow, standIns := [], harness := (true, "6da2c36923804b2851492517e646c19c2bd5490264bc7ef7490860206c1812f2"), looks := false }, kinds := [], alts := [], laidByText := true, laidKinds := [.data, .data, .data], laidTests := true, laidLooks := .later }
def NumMultiplesCardSaid : Prop := Claim7.holds Tryd.pinned (.plain (OpenSpec.ofChange numMultiplesSpec)) numMultiplesCard

/-- THE TIED CARD OF 'cubbyholelaw01.NumPowers'. -/
def numPowersCard : Claim7 := { stood := { row := numPowersRow, standIns := [], harness := (true, "6da2c36923804b2851492517e646c19c2bd5490264bc7ef7490860206c1812f2"), looks := false }, kinds := [], alts := [], laidByText := true, laidKinds := [.data, .data, .data], laidTests := true, laidLooks := .later }
def NumPowersCardSaid : Prop := Claim7.holds Tryd.pinned (.plain (OpenSpec.ofChange numPowersSpec)) numPowersCard

/-- THE TIED CARD OF 'cubbyholelaw01.NumClips'. -/
def numClipsCard : Claim7 := { stood := { row := numClipsRow, standIns := [], harness := (true, "6da2c36923804b2851492517e646c19c2bd5490264bc7ef7490860206c1812f2"), looks := false }, kinds := [], alts := [], laidByText := true, laidKinds := [.data, .data, .data], laidTests := true, laidLooks := .later }
def NumClipsCardSaid : Prop := Claim7.holds Tryd.pinned (.plain (OpenSpec.ofChange numClipsSpec)) numClipsCard

/-- THE TIED CARD OF 'cubbyholelaw01.NumTexts'. -/
def numTextsCard : Claim7 := { stood := { row := numTextsRow, standIns := [], harness := (true, "6da2c36923804b2851492517e646c19c2bd5490264bc7ef7490860206c1812f2"), looks := false }, kinds := [], alts := [], laidByText := true, laidKinds := [.data, .data, .data], laidTests := true, laidLooks := .later }
def NumTextsCardSaid : Prop := Claim7.holds Tryd.pinned (.plain (OpenSpec.ofChange numTextsSpec)) numTextsCard

/-- THE TIED CARD OF 'cubbyholelaw02.SetPlays'. -/
def setPlaysCard : Claim7 := { stood := { row := setPlaysRow, standIns := [], harness := (true, "6da2c36923804b2851492517e646c19c2bd5490264bc7ef7490860206c1812f2"), looks := false }, kinds := [], alts := [], laidByText := true, laidKinds := [.data], laidTests := true, laidLooks := .later }
def SetPlaysCardSaid : Prop := Claim7.holds Tryd.pinned (.plain (OpenSpec.ofChange setPlaysSpec)) setPlaysCard

/-- THE TIED CARD OF 'cubbyholelaw02.SetAsks'. -/
def setAsksCard : Claim7 := { stood := { row := setAsksRow, standIns := [], harness := (true, "6da2c36923804b2851492517e646c19c2bd5490264bc7ef7490860206c1812f2"), looks := false }, kinds := [], alts := [], laidByText := true, laidKinds := [.data], laidTests := true, laidLooks := .later }
def SetAsksCardSaid : Prop := Claim7.holds Tryd.pinned (.plain (OpenSpec.ofChange setAsksSpec)) setAsksCard

/-- THE TIED CARD OF 'cubbyholelaw02.SetRaw'. -/
def setRawCard : Claim7 := { stood := { row := setRawRow, standIns := [], harness := (true, "6da2c36923804b2851492517e646c19c2bd5490264bc7ef7490860206c1812f2"), looks := false }, kinds := [], alts := [], laidByText := true, laidKinds := [.data], laidTests := true, laidLooks := .later }
def SetRawCardSaid : Prop := Claim7.holds Tryd.pinned (.plain (OpenSpec.ofChange setRawSpec)) setRawCard

/-- THE SECOND FORM's CARD OF 'cubbyholelaw01.NumMultiples'. -/
def numMultiplesUptoCard : Claim7 := { stood := { row := numMultiplesUptoRow, standIns := [], harness := (true, "6da2c36923804b2851492517e646c19c2bd5490264bc7ef7490860206c1812f2"), looks := false }, kinds := [], alts := [], laidByText := true, laidKinds := [.data, .data, .data], laidTests := true, laidLooks := .later }
def NumMultiplesUptoCardSaid : Prop := Claim7.holds Tryd.pinned (.plain (OpenSpec.upto numMultiplesSpec)) numMultiplesUptoCard

/-- THE SECOND FORM's CARD OF 'cubbyholelaw01.NumPowers'. -/
def numPowersUptoCard : Claim7 := { stood := { row := numPowersUptoRow, standIns := [], harness := (true, "6da2c36923804b2851492517e646c19c2bd5490264bc7ef7490860206c1812f2"), looks := false }, kinds := [], alts := [], laidByText := true, laidKinds := [.data, .data, .data], laidTests := true, laidLooks := .later }
def NumPowersUptoCardSaid : Prop := Claim7.holds Tryd.pinned (.plain (OpenSpec.upto numPowersSpec)) numPowersUptoCard

/-- THE SECOND FORM's CARD OF 'cubbyholelaw01.NumClips'. -/
def numClipsUptoCard : Claim7 := { stood := { row := numClipsUptoRow, standIns := [], harness := (true, "6da2c36923804b2851492517e646c19c2bd5490264bc7ef7490860206c1812f2"), looks := false }, kinds := [], alts := [], laidByText := true, laidKinds := [.data, .data, .data], laidTests := true, laidLooks := .later }
def NumClipsUptoCardSaid : Prop := Claim7.holds Tryd.pinned (.plain (OpenSpec.upto numClipsSpec)) numClipsUptoCard

/-- THE SECOND FORM's CARD OF 'cubbyholelaw01.NumTexts'. -/
def numTextsUptoCard : Claim7 := { stood := { row := numTextsUptoRow, standIns := [], harness := (true, "6da2c36923804b2851492517e646c19c2bd5490264bc7ef7490860206c1812f2"), looks := false }, kinds := [], alts := [], laidByText := true, laidKinds := [.data, .data, .data], laidTests := true, laidLooks := .later }
def NumTextsUptoCardSaid : Prop := Claim7.holds Tryd.pinned (.plain (OpenSpec.upto numTextsSpec)) numTextsUptoCard

/-- THE SECOND FORM's CARD OF 'cubbyholelaw02.SetPlays'. -/
def setPlaysUptoCard : Claim7 := { stood := { row := setPlaysUptoRow, standIns := [], harness := (true, "6da2c36923804b2851492517e646c19c2bd5490264bc7ef7490860206c1812f2"), looks := false }, kinds := [], alts := [], laidByText := true, laidKinds := [.data], laidTests := true, laidLooks := .later }
def SetPlaysUptoCardSaid : Prop := Claim7.holds Tryd.pinned (.plain (OpenSpec.upto setPlaysSpec)) setPlaysUptoCard

/-- THE SECOND FORM's CARD OF 'cubbyholelaw02.SetAsks'. -/
def setAsksUptoCard : Claim7 := { stood := { row := setAsksUptoRow, standIns := [], harness := (true, "6da2c36923804b2851492517e646c19c2bd5490264bc7ef7490860206c1812f2"), looks := false }, kinds := [], alts := [], laidByText := true, laidKinds := [.data], laidTests := true, laidLooks := .later }
def SetAsksUptoCardSaid : Prop := Claim7.holds Tryd.pinned (.plain (OpenSpec.upto setAsksSpec)) setAsksUptoCard

/-- THE SECOND FORM's CARD OF 'cubbyholelaw02.SetRaw'. -/
def setRawUptoCard : Claim7 := { stood := { row := setRawUptoRow, standIns := [], harness := (true, "6da2c36923804b2851492517e646c19c2bd5490264bc7ef7490860206c1812f2"), looks := false }, kinds := [], alts := [], laidByText := true, laidKinds := [.data], laidTests := true, laidLooks := .later }
def SetRawUptoCardSaid : Prop := Claim7.holds Tryd.pinned (.plain (OpenSpec.upto setRawSpec)) setRawUptoCard
end Rows
end Go.Proofs.YtmcmlplbdepooaaDoor
