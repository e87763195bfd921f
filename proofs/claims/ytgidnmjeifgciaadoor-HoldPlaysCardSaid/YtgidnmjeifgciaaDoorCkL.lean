/- A memory, and the document's: what is alive, and what is refused, is alike. -/
import Derived.Test.YtgidnmjeifgciaaDoorRfB
import Derived.Test.YtgidnmjeifgciaaDoorCkB
namespace Go.Proofs.YtgidnmjeifgciaaDoor
set_option maxRecDepth 100000
open Go.RowKit Go.ChangeMaps Go.MapKept
set_option linter.unusedVariables false
set_option linter.unusedSimpArgs false

theorem one_page {pg : Nat → Bool} {b : Int} (h0 : 0 ≤ b) (h1 : b < 262144) : openB pg b 1 = pg (b / 256).toNat := by
  unfold openB
  rw [mayB_iff.2 ⟨h0, h1, by decide, by omega⟩, Bool.true_and, show ((b + 1 - 1) / 256 - b / 256 + 1).toNat = 1 by omega, wholeF, wholeF, Bool.true_and, Nat.add_zero]
theorem alive_same {σ : MS} {r : RS} (h1 : ∀ y, y < 8 → σ.pg y = r.o y) (h2 : ∀ y, 8 ≤ y → σ.pg y = false) (h3 : ∀ g, g < 128 → r.t g = (σ.f g : Int)) (b l c p t : Int) (v : Bool) : aliveB σ b l c p t v = aliveR r b l c p t v := by
  unfold aliveB aliveR
  cases v with
  | false => rfl
  | true =>
    cases hm : capMayB b l c p t true with
    | false => rfl
    | true =>
      obtain ⟨b0, b1⟩ := capOk_b (b := b) hm
      rw [Bool.true_and, Bool.true_and, Bool.true_and, Bool.true_and]
      by_cases ht : 0 < t
      · rw [decide_eq_true ht, Bool.true_and, Bool.true_and]
        unfold tagI
        rw [one_page b0 b1]
        by_cases hb : b < 2048
        · rw [decide_eq_true hb, Bool.true_and, h1 _ (by omega)]
          cases r.o (b / 256).toNat with
          | true => rw [if_pos rfl, Bool.true_and, h3 _ (by omega)]
          | false => rw [if_neg (by decide), Bool.false_and, decide_eq_false (by omega)]
        · rw [decide_eq_false hb, Bool.false_and, h2 _ (by omega), if_neg (by decide), decide_eq_false (by omega)]
      · rw [decide_eq_false ht, Bool.false_and, Bool.false_and]
theorem allT_R {t : Nat → Int} {f : Nat → Nat} (h : ∀ g, g < 128 → t g = (f g : Int)) {g n : Nat} {v : Int} (hn : g + n ≤ 128) : allT t g v n = allR f g v n := by
  induction n with
  | zero => rfl
  | succ n ih =>
    rw [allT, allR, ih (by omega), h (g + n) (by omega)]
    congr 1
theorem acc_same {σ : MS} {r : RS} (h1 : ∀ y, y < 8 → σ.pg y = r.o y) (h2 : ∀ y, 8 ≤ y → σ.pg y = false) (h3 : ∀ g, g < 128 → r.t g = (σ.f g : Int)) (b l c p t : Int) (v : Bool) (n q : Int) (hq : pmayB q = true) : accE σ b l c p t v n q = accR r b l c p t v n q := by
  unfold accE accR
  rw [alive_same h1 h2 h3]
  cases ha : aliveR r b l c p t v with
  | false => rfl
  | true =>
    obtain ⟨rfl, hok⟩ := aliveR_ok ha
    have hp : pmayB p = true := by
      simp only [capOkB, Bool.and_eq_true] at hok
      exact hok.2.2.1
    rw [if_pos rfl, if_pos rfl, phasB, hp, hq, Bool.true_and, Bool.true_and]
    cases bits .and .i64 p q == q with
    | false => rfl
    | true =>
      rw [if_pos rfl, if_pos rfl, hok, Bool.true_and, Bool.true_and]
      cases hi : insideB b l c n with
      | false => rfl
      | true =>
        rw [if_pos rfl, if_pos rfl]
        by_cases hn : 0 < n
        · rw [if_pos hn, decide_eq_true hn, Bool.true_and]
          unfold tagdB
          rw [open_same h1 h2]
          cases ho : openR r.o c n with
          | false => rfl
          | true =>
            have hc : 0 ≤ c ∧ c + n ≤ 2048 := by
              simp only [openR, Bool.and_eq_true, decide_eq_true_eq] at ho
              omega
            rw [Bool.true_and, Bool.true_and, ← allT_R h3 (by unfold grF grN; omega)]
            unfold grF grN
            cases allT r.t (c / 16).toNat t ((c + n - 1) / 16 - c / 16 + 1).toNat <;> rfl
        · rw [if_neg hn, decide_eq_false hn]
          rfl
end Go.Proofs.YtgidnmjeifgciaaDoor
