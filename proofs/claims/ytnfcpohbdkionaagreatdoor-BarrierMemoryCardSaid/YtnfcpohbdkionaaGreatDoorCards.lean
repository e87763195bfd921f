/-
  DERIVED. GIVEN WITH THE SEED: THE CARDS: each row of YtnfcpohbdkionaaGreatDoorRows.lean that lists a variable, with what it lists TIED to the program's text (the seventh form; the later family's looks); each row that meets fmt, with fmt's text TOLD by the authors' own Lean function (tested against real Go, not proved from fmt's source: count such statements apart). THE CARD IS WHAT COUNTS. Prove the row's statement (the work); the ties are given (YtnfcpohbdkionaaGreatDoorTie.lean); close each card by the builder's one call (the guide's Derived/Test/ToyasCard.lean, 'card_holds'). Laid BY PROGRAM, IN A SANDBOX (cutbox-door.mjs). By AI agents, Wed Nov 11 2026. No macro, syntax, notation, axiom, sorry.
-/
import Derived.Test.YtnfcpohbdkionaaGreatDoorRows
import GoSem.ClaimSeven
namespace Go.Proofs.YtnfcpohbdkionaaGreatDoor
namespace Rows

/-- THE TIED CARD OF 'cubbyholelaw37.BarrierMemory'. -/
def barrierMemoryCard : Claim7 := { stood := { row := barrierMemoryRow, standIns := [], harness := (true, "8b064e7ee30be92cdd98fd75ee16219eac6afe139ede3db69f51323e8f8225a9"), looks := false }, kinds := [], alts := [], laidByText := true, laidKinds := [.data], laidTests := true, laidLooks := .later }
def BarrierMemoryCardSaid : Prop := Claim7.holds Tryz.pinned (.plain (OpenSpec.ofChange barrierMemorySpec)) barrierMemoryCard

/-- THE SECOND FORM's CARD OF 'cubbyholelaw37.BarrierMemory'. -/
def barrierMemoryUptoCard : Claim7 := { stood := { row := barrierMemoryUptoRow, standIns := [], harness := (true, "8b064e7ee30be92cdd98fd75ee16219eac6afe139ede3db69f51323e8f8225a9"), looks := false }, kinds := [], alts := [], laidByText := true, laidKinds := [.data], laidTests := true, laidLooks := .later }
def BarrierMemoryUptoCardSaid : Prop := Claim7.holds Tryz.pinned (.plain (OpenSpec.upto barrierMemorySpec)) barrierMemoryUptoCard
end Rows
end Go.Proofs.YtnfcpohbdkionaaGreatDoor
