/- Slices that a call makes itself, element by element. -/
import Derived.Test.YtlajhhecipabaaaInts
namespace Go.Proofs.Ytlajhhecipabaaa
open Go.RowKit
set_option linter.unusedVariables false

theorem infoInt : (Try.prog.info? 3).map (fun i => (i.zero, i.size, i.bytes)) = some (some (.int .i64 0), 1, 8) := by kernel_rfl

theorem ints_of_row {w : World} {B E : Nat} {v : Value} {n : Nat} {l : List Int} (h : w.ownsRow B E 1 v n (l.map (Value.int .i64))) :
    ∃ a cap, v = .slice a n cap ∧ Ints .i64 w a n l := by
  have hl : l.length = n := by simpa using h.1
  rcases h.2 with ⟨rfl, rfl⟩ | ⟨g, cap, cur, hv, _, _, hc, hm, _⟩
  · exact ⟨none, 0, rfl, hl, .inl rfl⟩
  · refine ⟨_, cap, hv, hl, ?_⟩
    by_cases h0 : n = 0
    · exact .inl h0
    · have hb := h.lt g (by rw [hv]; rfl)
      refine .inr ⟨g, 0, rfl, hb.2, by unfold maxLen at hm; omega, fun i hi => ?_⟩
      have := h.cells (g := g) (by rw [hv]; rfl) i (.int .i64 (l.getD i 0)) (by simp [List.getD, List.getElem?_eq_getElem (show i < l.length by omega)])
      have hadd : (⟨g, 0, none⟩ : Addr).add i = ⟨g, i, none⟩ := by unfold Addr.add; split <;> simp_all
      rw [hadd] at this
      simpa using this

def ListPost (l : List Int) (w : World) (e : Ending) (w' : World) : Prop :=
  ∃ a cap, e = .returned (.slice a l.length cap) ∧ Ints .i64 w' a l.length l ∧ Below w.heap.size w w'
end Go.Proofs.Ytlajhhecipabaaa
