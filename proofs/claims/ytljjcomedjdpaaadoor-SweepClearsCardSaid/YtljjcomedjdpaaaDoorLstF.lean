/- The list of pages that are mapped. -/
import Derived.Test.YtljjcomedjdpaaaDoorMsA
namespace Go.Proofs.YtljjcomedjdpaaaDoor
set_option maxRecDepth 100000
open Go.RowKit

theorem listF_mem {pg : Nat → Bool} {n : Nat} {x : Int} (h : x ∈ listF pg n) : ∃ p : Nat, x = p ∧ p < n ∧ pg p = true := by
  induction n with
  | zero => cases h
  | succ n ih =>
    rw [listF] at h
    by_cases e : pg n = true
    · rw [if_pos e] at h
      rcases List.mem_append.1 h with h | h
      · obtain ⟨p, h1, h2, h3⟩ := ih h
        exact ⟨p, h1, by omega, h3⟩
      · exact ⟨n, List.mem_singleton.1 h, by omega, e⟩
    · rw [if_neg e] at h
      obtain ⟨p, h1, h2, h3⟩ := ih h
      exact ⟨p, h1, by omega, h3⟩
theorem listF_in {pg : Nat → Bool} {n p : Nat} (h1 : p < n) (h2 : pg p = true) : (p : Int) ∈ listF pg n := by
  induction n with
  | zero => omega
  | succ n ih =>
    rw [listF]
    by_cases e : p = n
    · subst e
      rw [if_pos h2]
      exact List.mem_append_right _ (List.mem_singleton.2 rfl)
    · have := ih (by omega)
      by_cases e2 : pg n = true
      · rw [if_pos e2]; exact List.mem_append_left _ this
      · rw [if_neg e2]; exact this
theorem listF_len (pg : Nat → Bool) (n : Nat) : (listF pg n).length ≤ n := by
  induction n with
  | zero => exact Nat.le_refl _
  | succ n ih =>
    rw [listF]
    by_cases e : pg n = true
    · rw [if_pos e, List.length_append]; simp; omega
    · rw [if_neg e]; omega
end Go.Proofs.YtljjcomedjdpaaaDoor

