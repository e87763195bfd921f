/- How many batches: counted place by place, and batch by batch. -/
import Derived.Test.YtohamecjiidjdaaQuC
namespace Go.Proofs.Ytohamecjiidjdaa
open Go.RowKit
set_option linter.unusedVariables false

/-- Whether a place is the first of a batch. -/
def fst (ms : List It) (k : Nat) : Prop := k = 0 ∨ ∀ p q, ms[k]? = some p → ms[k - 1]? = some q → p.ep ≠ q.ep
/-- How many batches begin among the first k. -/
noncomputable def nbp (ms : List It) : Nat → Nat
  | 0 => 0
  | k + 1 => nbp ms k + (open Classical in if fst ms k then 1 else 0)
theorem nbp_le (ms : List It) (k : Nat) : nbp ms k ≤ k := by
  induction k with
  | zero => simp [nbp]
  | succ k ih => rw [nbp]; split <;> omega
theorem nbp_yes (ms : List It) (k : Nat) (h : fst ms k) : nbp ms (k + 1) = nbp ms k + 1 := by rw [nbp, if_pos h]
theorem nbp_no (ms : List It) (k : Nat) (h : ¬ fst ms k) : nbp ms (k + 1) = nbp ms k := by rw [nbp, if_neg h, Nat.add_zero]
theorem fst_yes (ms : List It) (k : Nat) (p q : It) (hp : ms[k + 1]? = some p) (hq : ms[k]? = some q) (h : p.ep ≠ q.ep) : fst ms (k + 1) :=
  .inr fun a b ha hb => by
    rw [hp] at ha
    rw [show k + 1 - 1 = k by omega, hq] at hb
    rw [← Option.some.inj ha, ← Option.some.inj hb]
    exact h
theorem fst_no (ms : List It) (k : Nat) (p q : It) (hp : ms[k + 1]? = some p) (hq : ms[k]? = some q) (h : p.ep = q.ep) : ¬ fst ms (k + 1) := by
  rintro (h1 | h1)
  · omega
  · exact h1 p q hp (by rw [show k + 1 - 1 = k by omega]; exact hq) h
/-- Of a batch's items each has the epoch; the one behind it, if any, has another one. -/
theorem bat_in (e : Int) : ∀ (l : List It) (j : Nat), j < bat e l → ∃ p, l[j]? = some p ∧ p.ep = e
  | [], j, h => by simp [bat] at h
  | p :: r, j, h => by
    rw [bat] at h
    split at h
    · rename_i he
      cases j with
      | zero => exact ⟨p, by simp, he⟩
      | succ j =>
        obtain ⟨q, h1, h2⟩ := bat_in e r j (by omega)
        exact ⟨q, by simpa using h1, h2⟩
    · omega
theorem bat_out (e : Int) : ∀ (l : List It) (p : It), l[bat e l]? = some p → p.ep ≠ e
  | [], p, h => by simp [bat] at h
  | q :: r, p, h => by
    rw [bat] at h
    split at h
    · exact bat_out e r p (by simpa using h)
    · rename_i he
      simp at h
      rw [← h]; exact he
theorem bat_le (e : Int) : ∀ (l : List It), bat e l ≤ l.length
  | [] => by simp [bat]
  | q :: r => by
    have := bat_le e r
    rw [bat]
    split <;> simp <;> omega
theorem bat_pos (e : Int) (l : List It) (p : It) (h : l[0]? = some p) (he : p.ep = e) : 1 ≤ bat e l := by
  cases l with
  | nil => simp at h
  | cons q r =>
    simp at h
    rw [bat, if_pos (by rw [h]; exact he)]
    omega
theorem nbp_bat (ms : List It) (F : Nat) (p : It) (hF : ms[F]? = some p) (hb : fst ms F) : ∀ j, j + 1 ≤ bat p.ep (ms.drop F) → nbp ms (F + (j + 1)) = nbp ms F + 1
  | 0, _ => nbp_yes ms F hb
  | j + 1, h => by
    have ih := nbp_bat ms F p hF hb j (by omega)
    obtain ⟨a, a1, a2⟩ := bat_in p.ep (ms.drop F) j (by omega)
    obtain ⟨c, c1, c2⟩ := bat_in p.ep (ms.drop F) (j + 1) (by omega)
    rw [List.getElem?_drop] at a1 c1
    rw [show F + (j + 1 + 1) = F + (j + 1) + 1 by omega, nbp_no, ih]
    have := fst_no ms (F + j) c a (by rw [show F + j + 1 = F + (j + 1) by omega]; exact c1) a1 (by rw [c2, a2])
    rwa [show F + j + 1 = F + (j + 1) by omega] at this
/-- From one batch's head to the next one's. -/
theorem nbp_next (ms : List It) (F : Nat) (p : It) (hF : ms[F]? = some p) (hb : fst ms F) : nbp ms (F + bat p.ep (ms.drop F)) = nbp ms F + 1 ∧ fst ms (F + bat p.ep (ms.drop F)) ∧ 1 ≤ bat p.ep (ms.drop F) ∧ F + bat p.ep (ms.drop F) ≤ ms.length := by
  have h1 := bat_pos p.ep (ms.drop F) p (by simpa using hF) rfl
  have h2 := bat_le p.ep (ms.drop F)
  rw [List.length_drop] at h2
  have h3 := (List.getElem?_eq_some_iff.1 hF).1
  refine ⟨?_, .inr fun a c ha hc => ?_, h1, by omega⟩
  · have := nbp_bat ms F p hF hb (bat p.ep (ms.drop F) - 1) (by omega)
    rwa [show bat p.ep (ms.drop F) - 1 + 1 = bat p.ep (ms.drop F) by omega] at this
  · obtain ⟨x, x1, x2⟩ := bat_in p.ep (ms.drop F) (bat p.ep (ms.drop F) - 1) (by omega)
    rw [List.getElem?_drop, show F + (bat p.ep (ms.drop F) - 1) = F + bat p.ep (ms.drop F) - 1 by omega, hc] at x1
    have h5 := bat_out p.ep (ms.drop F) a (by rw [List.getElem?_drop]; exact ha)
    rw [Option.some.inj x1, x2]
    exact h5
end Go.Proofs.Ytohamecjiidjdaa
