/- MoU. -/
import Derived.Test.YtanmmhbnjmglhaaZ26
import Derived.Deep.RegionHeld3
namespace Go.Proofs.Ytanmmhbnjmglhaa
set_option maxRecDepth 100000
open Go.RowKit Go.ChangeMaps Go.MapKept
set_option linter.unusedVariables false
set_option linter.unusedSimpArgs false
section
variable {C : Cf} {L : Option Addr} {r ll lc k kc : Nat} {W W' : World}
/-- Registers that have nothing. -/
def RZ (r k : Nat) (W : World) : Prop := (∀ i, i < k * 5 → W.cell? ⟨r, i, none⟩ = some (.int .i64 0)) ∧ r < W.heap.size
theorem RZ.keep (h : RZ r k W) (hs : W.heap.size ≤ W'.heap.size) (hk : W'.heap[r]? = W.heap[r]?) : RZ r k W' := ⟨fun i hi => (World.cell?_of_block hk).trans (h.1 i hi), by have := h.2; omega⟩
theorem RZ.below (h : RZ r k W) (hb : Below W.heap.size W W') : RZ r k W' := h.keep hb.size (hb.block r h.2)
theorem rgetz (i : Int) (h : RZ r k W) : Calls Try.prog 17 #[rmv C L ll lc (some ⟨r, 0, none⟩) k kc, .int .i64 i] W fun e w' => e = .returned z5 ∧ Below W.heap.size W w' := by
  by_cases hi : i < 0 ∨ (k : Int) ≤ i
  · exact rget_no _ i hi
  · obtain ⟨j, rfl⟩ : ∃ j : Nat, i = (j : Int) := ⟨i.toNat, by omega⟩
    have hj : j < k := by omega
    exact rget_yes j Rf0 Rf0 hj h.2 ⟨h.1 _ (by omega), h.1 _ (by omega), h.1 _ (by omega), h.1 _ (by omega), h.1 _ (by omega)⟩ (fun w _ => rgood0)
end
end Go.Proofs.Ytanmmhbnjmglhaa
