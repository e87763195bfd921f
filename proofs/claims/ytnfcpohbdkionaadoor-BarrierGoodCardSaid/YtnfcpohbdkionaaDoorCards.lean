/-
  DERIVED. GIVEN WITH THE SEED: THE CARDS: each row of YtnfcpohbdkionaaDoorRows.lean that lists a variable, with what it lists TIED to the program's text (the seventh form; the later family's looks); each row that meets fmt, with fmt's text TOLD by the authors' own Lean function (tested against real Go, not proved from fmt's source: count such statements apart). THE CARD IS WHAT COUNTS. Prove the row's statement (the work); the ties are given (YtnfcpohbdkionaaDoorTie.lean); close each card by the builder's one call (the guide's Derived/Test/ToyasCard.lean, 'card_holds'). Laid BY PROGRAM, IN A SANDBOX (cutbox-door.mjs). By AI agents, Wed Nov 11 2026. No macro, syntax, notation, axiom, sorry.
-/
import Derived.Test.YtnfcpohbdkionaaDoorRows
import GoSem.ClaimSeven
namespace Go.Proofs.YtnfcpohbdkionaaDoor
namespace Rows

/-- THE TIED CARD OF 'cubbyholelaw37.BarrierGood'. -/
def barrierGoodCard : Claim7 := { stood := { row := barrierGoodRow, standIns := [], harness := (true, "210513c81c3a349c7f17fabcd4def10167213b077e8b146fdb6753ff519d7ced"), looks := false }, kinds := [], alts := [], laidByText := true, laidKinds := [.data], laidTests := true, laidLooks := .later }
def BarrierGoodCardSaid : Prop := Claim7.holds Tryd.pinned (.plain (OpenSpec.ofChange barrierGoodSpec)) barrierGoodCard

/-- THE SECOND FORM's CARD OF 'cubbyholelaw37.BarrierGood'. -/
def barrierGoodUptoCard : Claim7 := { stood := { row := barrierGoodUptoRow, standIns := [], harness := (true, "210513c81c3a349c7f17fabcd4def10167213b077e8b146fdb6753ff519d7ced"), looks := false }, kinds := [], alts := [], laidByText := true, laidKinds := [.data], laidTests := true, laidLooks := .later }
def BarrierGoodUptoCardSaid : Prop := Claim7.holds Tryd.pinned (.plain (OpenSpec.upto barrierGoodSpec)) barrierGoodUptoCard
end Rows
end Go.Proofs.YtnfcpohbdkionaaDoor
