/-
  DERIVED. GIVEN WITH THE SEED: THE CARDS: each row of YtljjcomedjdpaaaDoorRows.lean that lists a variable, with what it lists TIED to the program's text (the seventh form; the later family's looks); each row that meets fmt, with fmt's text TOLD by the authors' own Lean function (tested against real Go, not proved from fmt's source: count such statements apart). THE CARD IS WHAT COUNTS. Prove the row's statement (the work); the ties are given (YtljjcomedjdpaaaDoorTie.lean); close each card by the builder's one call (the guide's Derived/Test/ToyasCard.lean, 'card_holds'). Laid BY PROGRAM, IN A SANDBOX (cutbox-door.mjs). By AI agents, Wed Nov 11 2026. No macro, syntax, notation, axiom, sorry.
-/
import Derived.Test.YtljjcomedjdpaaaDoorRows
import GoSem.ClaimSeven
namespace Go.Proofs.YtljjcomedjdpaaaDoor
namespace Rows

/-- THE TIED CARD OF 'cubbyholelaw36.SweepClears'. -/
def sweepClearsCard : Claim7 := { stood := { row := sweepClearsRow, standIns := [], harness := (true, "f507652c9291d5423af1a6884bd5046cb4f954ec60a9136da669000927f56148"), looks := false }, kinds := [], alts := [], laidByText := true, laidKinds := [.data], laidTests := true, laidLooks := .later }
def SweepClearsCardSaid : Prop := Claim7.holds Tryd.pinned (.plain (OpenSpec.ofChange sweepClearsSpec)) sweepClearsCard

/-- THE TIED CARD OF 'cubbyholelaw36.SweepKnown'. -/
def sweepKnownCard : Claim7 := { stood := { row := sweepKnownRow, standIns := [], harness := (true, "f507652c9291d5423af1a6884bd5046cb4f954ec60a9136da669000927f56148"), looks := false }, kinds := [], alts := [], laidByText := true, laidKinds := [.data], laidTests := true, laidLooks := .later }
def SweepKnownCardSaid : Prop := Claim7.holds Tryd.pinned (.plain (OpenSpec.ofChange sweepKnownSpec)) sweepKnownCard

/-- THE SECOND FORM's CARD OF 'cubbyholelaw36.SweepClears'. -/
def sweepClearsUptoCard : Claim7 := { stood := { row := sweepClearsUptoRow, standIns := [], harness := (true, "f507652c9291d5423af1a6884bd5046cb4f954ec60a9136da669000927f56148"), looks := false }, kinds := [], alts := [], laidByText := true, laidKinds := [.data], laidTests := true, laidLooks := .later }
def SweepClearsUptoCardSaid : Prop := Claim7.holds Tryd.pinned (.plain (OpenSpec.upto sweepClearsSpec)) sweepClearsUptoCard

/-- THE SECOND FORM's CARD OF 'cubbyholelaw36.SweepKnown'. -/
def sweepKnownUptoCard : Claim7 := { stood := { row := sweepKnownUptoRow, standIns := [], harness := (true, "f507652c9291d5423af1a6884bd5046cb4f954ec60a9136da669000927f56148"), looks := false }, kinds := [], alts := [], laidByText := true, laidKinds := [.data], laidTests := true, laidLooks := .later }
def SweepKnownUptoCardSaid : Prop := Claim7.holds Tryd.pinned (.plain (OpenSpec.upto sweepKnownSpec)) sweepKnownUptoCard
end Rows
end Go.Proofs.YtljjcomedjdpaaaDoor
