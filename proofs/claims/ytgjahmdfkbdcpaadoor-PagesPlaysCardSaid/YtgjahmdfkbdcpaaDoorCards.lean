/-
  DERIVED. GIVEN WITH THE SEED: THE CARDS: each row of YtgjahmdfkbdcpaaDoorRows.lean that lists a variable, with what it lists TIED to the program's text (the seventh form; the later family's looks); each row that meets fmt, with fmt's text TOLD by the authors' own Lean function (tested against real Go, not proved from fmt's source: count such statements apart). THE CARD IS WHAT COUNTS. Prove the row's statement (the work); the ties are given (YtgjahmdfkbdcpaaDoorTie.lean); close each card by the builder's one call (the guide's Derived/Test/ToyasCard.lean, 'card_holds'). Laid BY PROGRAM, IN A SANDBOX (cutbox-door.mjs). By AI agents, Wed Nov 11 2026. No macro, syntax, notation, axiom, sorry.
-/
import Derived.Test.YtgjahmdfkbdcpaaDoorRows
import GoSem.ClaimSeven
namespace Go.Proofs.YtgjahmdfkbdcpaaDoor
namespace Rows

/-- THE TIED CARD OF 'cubbyholelaw02.SetPlays'. -/
def setPlaysCard : Claim7 := { stood := { row := setPlaysRow, standIns := [], harness := (true, "bf197f1a0110b75906a9c91d83724625716d2b920e37d34c21039f45e61f532f"), looks := false }, kinds := [], alts := [], laidByText := true, laidKinds := [.data], laidTests := true, laidLooks := .later }
def SetPlaysCardSaid : Prop := Claim7.holds Tryd.pinned (.plain (OpenSpec.ofChange setPlaysSpec)) setPlaysCard

/-- THE TIED CARD OF 'cubbyholelaw04.PagesPlays'. -/
def pagesPlaysCard : Claim7 := { stood := { row := pagesPlaysRow, standIns := [], harness := (true, "bf197f1a0110b75906a9c91d83724625716d2b920e37d34c21039f45e61f532f"), looks := false }, kinds := [], alts := [], laidByText := true, laidKinds := [.data], laidTests := true, laidLooks := .later }
def PagesPlaysCardSaid : Prop := Claim7.holds Tryd.pinned (.plain (OpenSpec.ofChange pagesPlaysSpec)) pagesPlaysCard

/-- THE TIED CARD OF 'cubbyholelaw04.PagesRaw'. -/
def pagesRawCard : Claim7 := { stood := { row := pagesRawRow, standIns := [], harness := (true, "bf197f1a0110b75906a9c91d83724625716d2b920e37d34c21039f45e61f532f"), looks := false }, kinds := [], alts := [], laidByText := true, laidKinds := [.data], laidTests := true, laidLooks := .later }
def PagesRawCardSaid : Prop := Claim7.holds Tryd.pinned (.plain (OpenSpec.ofChange pagesRawSpec)) pagesRawCard

/-- THE TIED CARD OF 'cubbyholelaw07.SlotsPlays'. -/
def slotsPlaysCard : Claim7 := { stood := { row := slotsPlaysRow, standIns := [], harness := (true, "bf197f1a0110b75906a9c91d83724625716d2b920e37d34c21039f45e61f532f"), looks := false }, kinds := [], alts := [], laidByText := true, laidKinds := [.data], laidTests := true, laidLooks := .later }
def SlotsPlaysCardSaid : Prop := Claim7.holds Tryd.pinned (.plain (OpenSpec.ofChange slotsPlaysSpec)) slotsPlaysCard

/-- THE TIED CARD OF 'cubbyholelaw07.SlotsRaw'. -/
def slotsRawCard : Claim7 := { stood := { row := slotsRawRow, standIns := [], harness := (true, "bf197f1a0110b75906a9c91d83724625716d2b920e37d34c21039f45e61f532f"), looks := false }, kinds := [], alts := [], laidByText := true, laidKinds := [.data], laidTests := true, laidLooks := .later }
def SlotsRawCardSaid : Prop := Claim7.holds Tryd.pinned (.plain (OpenSpec.ofChange slotsRawSpec)) slotsRawCard

/-- THE SECOND FORM's CARD OF 'cubbyholelaw02.SetPlays'. -/
def setPlaysUptoCard : Claim7 := { stood := { row := setPlaysUptoRow, standIns := [], harness := (true, "bf197f1a0110b75906a9c91d83724625716d2b920e37d34c21039f45e61f532f"), looks := false }, kinds := [], alts := [], laidByText := true, laidKinds := [.data], laidTests := true, laidLooks := .later }
def SetPlaysUptoCardSaid : Prop := Claim7.holds Tryd.pinned (.plain (OpenSpec.upto setPlaysSpec)) setPlaysUptoCard

/-- THE SECOND FORM's CARD OF 'cubbyholelaw04.PagesPlays'. -/
def pagesPlaysUptoCard : Claim7 := { stood := { row := pagesPlaysUptoRow, standIns := [], harness := (true, "bf197f1a0110b75906a9c91d83724625716d2b920e37d34c21039f45e61f532f"), looks := false }, kinds := [], alts := [], laidByText := true, laidKinds := [.data], laidTests := true, laidLooks := .later }
def PagesPlaysUptoCardSaid : Prop := Claim7.holds Tryd.pinned (.plain (OpenSpec.upto pagesPlaysSpec)) pagesPlaysUptoCard

/-- THE SECOND FORM's CARD OF 'cubbyholelaw04.PagesRaw'. -/
def pagesRawUptoCard : Claim7 := { stood := { row := pagesRawUptoRow, standIns := [], harness := (true, "bf197f1a0110b75906a9c91d83724625716d2b920e37d34c21039f45e61f532f"), looks := false }, kinds := [], alts := [], laidByText := true, laidKinds := [.data], laidTests := true, laidLooks := .later }
def PagesRawUptoCardSaid : Prop := Claim7.holds Tryd.pinned (.plain (OpenSpec.upto pagesRawSpec)) pagesRawUptoCard

/-- THE SECOND FORM's CARD OF 'cubbyholelaw07.SlotsPlays'. -/
def slotsPlaysUptoCard : Claim7 := { stood := { row := slotsPlaysUptoRow, standIns := [], harness := (true, "bf197f1a0110b75906a9c91d83724625716d2b920e37d34c21039f45e61f532f"), looks := false }, kinds := [], alts := [], laidByText := true, laidKinds := [.data], laidTests := true, laidLooks := .later }
def SlotsPlaysUptoCardSaid : Prop := Claim7.holds Tryd.pinned (.plain (OpenSpec.upto slotsPlaysSpec)) slotsPlaysUptoCard

/-- THE SECOND FORM's CARD OF 'cubbyholelaw07.SlotsRaw'. -/
def slotsRawUptoCard : Claim7 := { stood := { row := slotsRawUptoRow, standIns := [], harness := (true, "bf197f1a0110b75906a9c91d83724625716d2b920e37d34c21039f45e61f532f"), looks := false }, kinds := [], alts := [], laidByText := true, laidKinds := [.data], laidTests := true, laidLooks := .later }
def SlotsRawUptoCardSaid : Prop := Claim7.holds Tryd.pinned (.plain (OpenSpec.upto slotsRawSpec)) slotsRawUptoCard
end Rows
end Go.Proofs.YtgjahmdfkbdcpaaDoor
