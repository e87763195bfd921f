/- The store: New, Put, Get. -/
import Derived.Test.YtjbddhjjhjkpiaaDoorRRRSoH
import Derived.Carry
namespace Go.Proofs.YtjbddhjjhjkpiaaDoorRRR
set_option maxRecDepth 100000
open Go.RowKit Go.ChangeMaps Go.MapKept
open Go.Maps (Keyed)
set_option linter.unusedVariables false
set_option linter.unusedSimpArgs false

theorem STL.lt {B g b : Nat} {W : World} {l : List (Nat × Nat)} {c : Nat → Nat} (h : STL B g b W l c) : ∀ pq ∈ l, pq.2 < W.heap.size := fun pq hpq => (h.2.2.2.1 pq hpq).2.2.2.1
theorem snew (W : World) : Calls Tryd.prog 52 #[] W fun e w' => ∃ g b, e = .returned (.pointer (some ⟨g, 0, none⟩)) ∧ STL W.heap.size g b w' [] (fun _ => 0) ∧ Below W.heap.size W w' := by
  have hmm := fun w => run_makeMap (P := Tryd.prog) 147 w
  go_enter Tryd.func52, Tryd.ntmps52
  go_wp2
  go_ret
  refine ⟨W.heap.size + 1, W.heap.size, by first | rfl | simp, ⟨by simp, ⟨by omega, by omega, by omega, by simp, by simp <;> omega⟩, ⟨#[], 0, ?_, by simp, by simp, by simp⟩, by simp, by simp, by simp⟩, ?_⟩
  · first | (simp; done) | (rw [Below.heap_alloc _ _ _ (by simp)]; show (W.heap.push _)[W.heap.size]? = _; simp)
  · exact alc (alc0 _ _) _
end Go.Proofs.YtjbddhjjhjkpiaaDoorRRR
