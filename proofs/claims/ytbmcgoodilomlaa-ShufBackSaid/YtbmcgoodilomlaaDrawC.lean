/- Contracts of package draw, by blocks: New, Add; the statement's own draws. -/
import Derived.Test.YtbmcgoodilomlaaDrawB
import Derived.ArgAppend
import Derived.Laws.AppendOwnNone
import Derived.RegionTactic
import Derived.ChangeAlike
import Derived.BigRegion
namespace Go.Proofs.Ytbmcgoodilomlaa
open Go.RowKit
set_option linter.unusedVariables false
set_option linter.unusedSimpArgs false

theorem infoIntD : (Try.prog.info? 3).map (fun i => (i.zero, i.size, i.bytes)) = some (some (.int .i64 0), 1, 8) := by kernel_rfl
/-- What a clone is: a row of its own. -/
def RowB (b : Nat) (W : World) (v : Value) (n : Nat) (zs : List Int) : Prop :=
  ∃ A c, v = .slice A n c ∧ zs.length = n ∧ n ≤ c ∧ c ≤ 9223372036854775807 ∧
    ((A = none ∧ n = 0 ∧ c = 0) ∨ (A = some ⟨b, 0, none⟩ ∧ b < W.heap.size ∧ (∀ i, i < n → W.cell? ⟨b, i, none⟩ = some (.int .i64 (zs.getD i 0))) ∧ ∀ i, i < c → (W.cell? ⟨b, i, none⟩).isSome = true ∧ W.frozen? ⟨b, i, none⟩ = false))
theorem rowB_of {W : World} {B E n : Nat} {v : Value} {zs : List Int} (hl : zs.length = n) (h : W.ownsRow B E 1 v n (zs.map (Value.int .i64))) : ∃ b, B ≤ b ∧ RowB b W v n zs := by
  rcases h.2 with ⟨rfl, rfl⟩ | ⟨g, cap, cur, rfl, hg, hh, hc, hm, hcur, _⟩
  · exact ⟨B, Nat.le_refl _, none, 0, rfl, hl, Nat.le_refl _, by omega, .inl ⟨rfl, rfl, rfl⟩⟩
  · refine ⟨g, hg, _, cap, rfl, hl, hc, by unfold maxLen at hm; omega, .inr ⟨rfl, (h.lt g rfl).2, fun i hi => ?_, fun i hi => ⟨?_, by simp [World.frozen?, hh]⟩⟩⟩
    · have := h.cells (g := g) rfl i (.int .i64 (zs.getD i 0)) (by simp [List.getD, List.getElem?_eq_getElem (show i < zs.length by omega)])
      rw [addp] at this
      simpa using this
    · have hsz : i < cur.size := by omega
      rw [cell_of_row W g i cur _ (0, 0) hh, Array.getElem?_eq_getElem hsz]; rfl
def CloneB (w : World) (n : Nat) (zs : List Int) (e : Ending) (w' : World) : Prop :=
  ∃ b v, e = .returned v ∧ w.heap.size ≤ b ∧ RowB b w' v n zs ∧ Below w.heap.size w w'
theorem clone_b (a : Option Addr) (n c : Nat) (zs : List Int) (w : World) (h : Ints .i64 w a n zs) (hn : n ≤ 1000) :
    Calls Try.prog 24 #[.slice a n c] w (CloneB w n zs) := by
  obtain ⟨hl, h⟩ := h
  rcases h with rfl | ⟨b, off, rfl, _, _, hc⟩
  · obtain rfl : zs = [] := List.length_eq_zero_iff.1 hl
    cases a with
    | none =>
      refine (Try.slices_Clone_int_nil 0 c w).mono ?_
      rintro e w' ⟨rfl, rfl⟩
      exact ⟨_, _, rfl, Nat.le_refl _, ⟨none, 0, rfl, rfl, Nat.le_refl _, by omega, .inl ⟨rfl, rfl, rfl⟩⟩, Below.refl _ _⟩
    | some a =>
      refine (Try.slices_Clone_int_zero a c w).mono ?_
      rintro e w' ⟨v', rfl, hr, _, hb⟩
      obtain ⟨b, hB, hR⟩ := rowB_of (zs := []) rfl hr
      exact ⟨b, _, rfl, hB, hR, hb⟩
  · refine (Try.slices_Clone_int b off n c zs w (by omega) (by omega) (fun j hj => hc j (by omega))).mono ?_
    rintro e w' ⟨v', rfl, hr, _, hb⟩
    rw [List.take_of_length_le (by omega)] at hr
    obtain ⟨b, hB, hR⟩ := rowB_of hl hr
    exact ⟨b, _, rfl, hB, hR, hb⟩
def NewB (w : World) (zs : List Int) (e : Ending) (w' : World) : Prop :=
  ∃ g b, e = .returned (.pointer (some ⟨g, 0, none⟩)) ∧ DrB g b w' zs 0 ∧ w.heap.size ≤ g ∧ w.heap.size ≤ b ∧ b < w'.heap.size ∧ Below w.heap.size w w'
theorem dnew_b (a : Option Addr) (n c : Nat) (zs : List Int) (w : World) (h : Ints .i64 w a n zs) (hn : n ≤ 1000) :
    Calls Try.prog 9 #[.slice a n c] w (NewB w zs) := by
  have HI := Lib.hid h; clear h
  go_enter Try.func9, Try.ntmps9
  go_wp2_with fail
  refine (clone_b _ _ _ _ _ HI.out hn).mono ?_
  rintro e w1 ⟨b, v, rfl, hB, ⟨A, c2, rfl, hl, hc1, hc2, hz⟩, hb⟩
  have HZ := Lib.hid hz
  have HL := Lib.hid hl
  clear hz hl
  go_wp2_with fail
  go_ret
  have hs := hb.size
  rcases HZ.out with ⟨h1, h2, h3⟩ | ⟨rfl, hlt, h1, h2⟩
  · exact ⟨w1.heap.size, w1.heap.size, rfl, ⟨by simp, by simp, by simp, by simp, A, n, c2, by simp, HL.out, hc1, hc2, .inl ⟨h1, h2, h3⟩⟩, hs, hs, by simp, alc hb _⟩
  · refine ⟨w1.heap.size, b, rfl, ⟨by simp, by simp, by simp, by simp, _, n, c2, by simp, HL.out, hc1, hc2, .inr ⟨0, rfl, by simp; omega, by omega, fun i hi => ?_, fun i hi => ?_⟩⟩, hs, hB, by simp; omega, alc hb _⟩
    · rw [World.cell?_alloc_lt _ _ _ (by exact hlt), Nat.zero_add]
      exact h1 i hi
    · have e1 : (w1.alloc (.cells #[.slice (some ⟨b, 0, none⟩) n c2, .int .u64 0] 51)).frozen? ⟨b, 0 + i, none⟩ = w1.frozen? ⟨b, i, none⟩ := by
        rw [Nat.zero_add]; exact World.frozen?_of_block (Below.heap_alloc _ _ _ hlt)
      rw [World.cell?_alloc_lt _ _ _ (by exact hlt), e1, Nat.zero_add]
      exact h2 i hi
end Go.Proofs.Ytbmcgoodilomlaa
