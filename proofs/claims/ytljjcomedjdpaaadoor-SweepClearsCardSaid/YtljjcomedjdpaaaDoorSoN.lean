/- SoM, SoN in one text: a claim holds at most 60 files. -/
import Derived.Test.YtljjcomedjdpaaaDoorSoL
import Derived.Lib.BufferRead
import Derived.Lib.ConvBytes
namespace Go.Proofs.YtljjcomedjdpaaaDoor
set_option maxRecDepth 100000
open Go.RowKit Go.ChangeMaps Go.MapKept
open Go.Maps (Keyed)
set_option linter.unusedVariables false
set_option linter.unusedSimpArgs false

end Go.Proofs.YtljjcomedjdpaaaDoor
namespace Go.Proofs.YtljjcomedjdpaaaDoor
set_option maxRecDepth 100000
open Go.RowKit Go.ChangeMaps Go.MapKept
open Go.Maps (Keyed)
set_option linter.unusedVariables false
set_option linter.unusedSimpArgs false

theorem ST.size {B g : Nat} {W : World} {c : Nat → Nat} (h : ST B g W c) : B ≤ W.heap.size := by
  obtain ⟨b, l, h⟩ := h
  have := h.2.1.1; have := h.2.1.2.2.2.1; omega
theorem mayB_nat {a k : Int} (h : mayB a k = true) : ∃ a' : Nat, a = a' ∧ (a' : Int) + k ≤ 262144 ∧ 0 < k := by
  obtain ⟨h1, h2, h3, h4⟩ := mayB_iff.1 h
  exact ⟨a.toNat, by omega, by omega, by omega⟩
theorem sfill_b (B g : Nat) (W : World) (c : Nat → Nat) (h : ST B g W c) (a : Int) (m x : Nat) (X : Bool) (hX : mayB a m = X) : Calls Tryd.prog 72 #[.pointer (some ⟨g, 0, none⟩), .int .i64 a, .int .i64 (m : Int), .int .u8 (x : Int)] W fun e w' => e = .returned (.bool X) ∧ Below B W w' := by
  cases X with
  | false => exact (sfill_no _ a m x W (.inr hX)).mono fun e w' ⟨he, hb⟩ => ⟨he, hb.mono h.size⟩
  | true =>
    obtain ⟨a', rfl, h1, h2⟩ := mayB_nat hX
    exact (sfill_yes B g W c h a' m x (by omega) (by omega)).mono fun e w' ⟨⟨he, _⟩, _, hb⟩ => ⟨he, hb⟩
/-- The string of bytes. -/
def sof (f : Nat → Nat) (n : Nat) : ByteArray := strOfNums ((List.range n).map fun j => ((f j : Nat) : Int))
theorem conv_of (W : World) (b o n c : Nat) (f : Nat → Nat) (h : ∀ j, j < n → W.cell? ⟨b, o + j, none⟩ = some (.int .u8 (f j : Int))) : (convert 39 9 (.slice (some ⟨b, o, none⟩) n c)).run Tryd.prog W = .ok (.string (sof f n)) W := by
  refine run_convert_bytes_arg W 39 5 Tryd.underlying39 Tryd.underlying5 b o n c _ (by simp) (fun i hi => ?_) 9 Tryd.underlying9
  rw [h i (by simpa using hi)]
  simp [List.getD, hi]
end Go.Proofs.YtljjcomedjdpaaaDoor

