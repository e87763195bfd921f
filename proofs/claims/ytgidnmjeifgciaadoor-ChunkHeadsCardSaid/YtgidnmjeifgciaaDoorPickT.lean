/- Of any three tags there is one left. -/
import Derived.Test.YtgidnmjeifgciaaDoorPick
namespace Go.Proofs.YtgidnmjeifgciaaDoor
set_option maxRecDepth 100000
open Go.RowKit
set_option linter.unusedVariables false
set_option linter.unusedSimpArgs false

theorem two_none {c : Int} {l : List Int} (h : ∃ t, t ∈ l) : l ≠ [] := by
  obtain ⟨t, ht⟩ := h
  intro e; rw [e] at ht; cases ht

/-- Of 1 to 4 one at least is none of three. -/
theorem mayL_three (a b c : Int) : mayL [a, b, c] 15 ≠ [] := by
  have ex : ∃ t : Int, 1 ≤ t ∧ t ≤ 4 ∧ t ≠ a ∧ t ≠ b ∧ t ≠ c := by
    by_cases h1 : (1 : Int) ≠ a ∧ (1 : Int) ≠ b ∧ (1 : Int) ≠ c
    · exact ⟨1, by omega, by omega, h1⟩
    · by_cases h2 : (2 : Int) ≠ a ∧ (2 : Int) ≠ b ∧ (2 : Int) ≠ c
      · exact ⟨2, by omega, by omega, h2⟩
      · by_cases h3 : (3 : Int) ≠ a ∧ (3 : Int) ≠ b ∧ (3 : Int) ≠ c
        · exact ⟨3, by omega, by omega, h3⟩
        · exact ⟨4, by omega, by omega, by omega, by omega, by omega⟩
  obtain ⟨t, h1, h2, h3, h4, h5⟩ := ex
  exact two_none (c := 0) ⟨t, (mayL_mem _ 15 t).2 ⟨h1, by omega, by simp [h3, h4, h5]⟩⟩

theorem ofP_three (d a b c : Int) : 1 ≤ ofP d [a, b, c] ∧ ofP d [a, b, c] ≤ 15 ∧ ofP d [a, b, c] ≠ a ∧ ofP d [a, b, c] ≠ b ∧ ofP d [a, b, c] ≠ c := by
  have hne := mayL_three a b c
  have hlen : 0 < (mayL [a, b, c] 15).length := List.length_pos_iff.2 hne
  have m0 := Int.emod_nonneg d (b := ((mayL [a, b, c] 15).length : Int)) (by omega)
  have m1 := Int.emod_lt_of_pos d (b := ((mayL [a, b, c] 15).length : Int)) (by omega)
  have hmem : ofP d [a, b, c] ∈ mayL [a, b, c] 15 := by
    rw [ofP, if_neg hne]
    generalize d % ((mayL [a, b, c] 15).length : Int) = r at *
    have hlt : r.toNat < (mayL [a, b, c] 15).length := by omega
    simp [List.getD, List.getElem?_eq_getElem hlt]
  have := (mayL_mem _ 15 _).1 hmem
  obtain ⟨h1, h2, h3⟩ := this
  simp at h3
  exact ⟨h1, by omega, h3.1, h3.2.1, h3.2.2⟩

theorem ints_lit {k : IntKind} (w : World) (zs : List Int) (t : TypeId) (h : zs.length ≤ 1000) : Ints k (w.alloc (.cells ((zs.map (Value.int k)).toArray) t)) (some ⟨w.heap.size, 0, none⟩) zs.length zs := by
  refine ⟨rfl, .inr ⟨w.heap.size, 0, rfl, by simp, by omega, fun i hi => ?_⟩⟩
  rw [World.cell?_alloc_mark]
  simp [List.getD, List.getElem?_eq_getElem hi]

theorem ints_nil {k : IntKind} (w : World) : Ints k w none 0 [] := ⟨rfl, .inl rfl⟩


end Go.Proofs.YtgidnmjeifgciaaDoor
