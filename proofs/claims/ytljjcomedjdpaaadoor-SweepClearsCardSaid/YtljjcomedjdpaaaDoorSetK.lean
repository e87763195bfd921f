/- Contracts of package set: Put, Drop at any number; what is in a set behind them, and how many. -/
import Derived.Test.YtljjcomedjdpaaaDoorSetT
namespace Go.Proofs.YtljjcomedjdpaaaDoor
set_option maxRecDepth 100000
open Go.RowKit
set_option linter.unusedVariables false
set_option linter.unusedSimpArgs false

theorem putN_bits (ws : List Nat) (x j y : Nat) (h : x + j ≤ 64 * ws.length) : bitB (putN ws x j).1 y = (bitB ws y || decide (x ≤ y ∧ y < x + j)) := by
  induction j with
  | zero =>
    have : decide (x ≤ y ∧ y < x + 0) = false := decide_eq_false (by omega)
    rw [this, Bool.or_false]; rfl
  | succ j ih =>
    have ih := ih (by omega)
    have hl := putN_len ws x j
    rw [putN]
    split
    · rename_i hb
      rw [ih]
      by_cases e : y = x + j
      · subst e
        rw [putN_bits_aux hb ih]
        have : decide (x ≤ x + j ∧ x + j < x + (j + 1)) = true := decide_eq_true (by omega)
        rw [this, Bool.or_true]
      · congr 1
        rw [decide_eq_decide]
        omega
    · have hp := bitB_put (putN ws x j).1 (x + j) y (by rw [hl]; omega)
      rw [show bitB (putW (putN ws x j).1 (x + j), (putN ws x j).2 + 1).1 y = (bitB (putN ws x j).1 y || decide (x + j = y)) from hp, ih, Bool.or_assoc]
      congr 1
      rw [Bool.eq_iff_iff]
      simp only [Bool.or_eq_true, decide_eq_true_eq]
      omega
where
  putN_bits_aux {a : Bool} {P : Prop} [Decidable P] {b : Bool} (hb : b = true) (ih : b = (a || decide P)) : (a || decide P) = true := by rw [← ih]; exact hb
theorem putN_count (ws : List Nat) (x j : Nat) (h : x + j ≤ 64 * ws.length) (h0 : ∀ y, x ≤ y → y < x + j → bitB ws y = false) : (putN ws x j).2 = j := by
  induction j with
  | zero => rfl
  | succ j ih =>
    have hb : bitB (putN ws x j).1 (x + j) = false := by
      rw [putN_bits ws x j _ (by omega), h0 _ (by omega) (by omega)]
      simp
    rw [putN, hb]
    simp only [Bool.false_eq_true, if_false]
    rw [ih (by omega) (fun y h1 h2 => h0 y h1 (by omega))]
    simp
theorem dropN_bits (ws : List Nat) (x j y : Nat) (h : x + j ≤ 64 * ws.length) : bitB (dropN ws x j).1 y = (bitB ws y && !decide (x ≤ y ∧ y < x + j)) := by
  induction j with
  | zero =>
    have : decide (x ≤ y ∧ y < x + 0) = false := decide_eq_false (by omega)
    rw [this, Bool.not_false, Bool.and_true]; rfl
  | succ j ih =>
    have ih := ih (by omega)
    have hl := dropN_len ws x j
    rw [dropN]
    split
    · have hp := bitB_drop (dropN ws x j).1 (x + j) y (by rw [hl]; omega)
      rw [show bitB (dropW (dropN ws x j).1 (x + j), (dropN ws x j).2 + 1).1 y = (bitB (dropN ws x j).1 y && !decide (x + j = y)) from hp, ih, Bool.and_assoc]
      congr 1
      rw [Bool.eq_iff_iff]
      simp only [Bool.and_eq_true, Bool.not_eq_true', decide_eq_false_iff_not]
      omega
    · rename_i hb
      rw [ih]
      by_cases e : y = x + j
      · subst e
        have hb2 : bitB (dropN ws x j).1 (x + j) = false := by simpa using hb
        rw [ih] at hb2
        rw [hb2]
        have : decide (x ≤ x + j ∧ x + j < x + (j + 1)) = true := decide_eq_true (by omega)
        rw [this, Bool.not_true, Bool.and_false]
      · congr 2
        rw [decide_eq_decide]
        omega
theorem dropN_count (ws : List Nat) (x j : Nat) (h : x + j ≤ 64 * ws.length) (h0 : ∀ y, x ≤ y → y < x + j → bitB ws y = true) : (dropN ws x j).2 = j := by
  induction j with
  | zero => rfl
  | succ j ih =>
    have hb : bitB (dropN ws x j).1 (x + j) = true := by
      rw [dropN_bits ws x j _ (by omega), h0 _ (by omega) (by omega)]
      simp
    rw [dropN, hb]
    simp only [if_true]
    rw [ih (by omega) (fun y h1 h2 => h0 y h1 (by omega))]
    simp
theorem bitB_none (L y : Nat) : bitB (List.replicate L 0) y = false := by
  unfold bitB
  have : (List.replicate L 0).getD (y / 64) 0 = 0 := by
    simp only [List.getD_eq_getElem?_getD, List.getElem?_replicate]
    split <;> rfl
  rw [this, Nat.zero_testBit]

def PutPost (lo hi g : Nat) (W : World) (n c : Int) (x : Nat) (ws : List Nat) (e : Ending) (w' : World) : Prop :=
  ∃ (c' : Int) (ws' : List Nat), e = .returned (.bool (!bitB ws x)) ∧ SetIs lo hi g w' n c' ws' ∧ Only lo hi W w' ∧ c ≤ c' ∧ c' ≤ c + 1 ∧ (bitB ws x = true → c' = c) ∧ (bitB ws x = false → c' = c + 1) ∧ ws'.length = ws.length ∧ ∀ y, bitB ws' y = (bitB ws y || decide (x = y))
theorem sput_any (lo hi g : Nat) (W : World) (n c : Int) (x : Nat) (ws : List Nat) (h : SetIs lo hi g W n c ws) (hx : (x : Int) < n) (hc : 0 ≤ c ∧ c ≤ 1000000) :
    Calls Tryd.prog 54 #[.pointer (some ⟨g, 0, none⟩), .int .i64 x] W (PutPost lo hi g W n c x ws) := by
  rcases Bool.eq_false_or_eq_true (bitB ws x) with hb | hb
  · refine (sput_no lo hi g W n c x ws h (.inr (by rw [Int.toNat_natCast]; exact hb))).mono ?_
    rintro e w' ⟨he, rfl⟩
    refine ⟨c, ws, by rw [hb]; exact he, h, Only.refl _ _ _, by omega, by omega, fun _ => rfl, fun q => by (rw [hb] at q; cases q), rfl, fun y => ?_⟩
    by_cases e : x = y
    · subst e; rw [hb]; rfl
    · rw [decide_eq_false e, Bool.or_false]
  · have hl := h.2.1.2.2.1
    refine (sput_walk lo hi g W n c x ws h hx hb hc).mono ?_
    rintro e w' ⟨he, hs, ho⟩
    exact ⟨_, _, by rw [hb]; exact he, hs, ho, by omega, by omega, fun q => by (rw [hb] at q; cases q), fun _ => rfl, by rw [List.length_set], fun y => bitB_put ws x y (by omega)⟩

theorem heap_old (W : World) (o : Obj) (i : Nat) (hi : i < W.heap.size) : (W.alloc o).heap[i]? = W.heap[i]? := by
  show (W.heap.push o)[i]? = W.heap[i]?
  rw [Array.getElem?_push, if_neg (by omega)]

/-- How many of the numbers below n are in it. -/
def cntB (ws : List Nat) : Nat → Nat
  | 0 => 0
  | j + 1 => cntB ws j + if bitB ws j then 1 else 0
theorem cntB_le (ws : List Nat) (n : Nat) : cntB ws n ≤ n := by
  induction n with
  | zero => exact Nat.le_refl _
  | succ n ih => rw [cntB]; split <;> omega
theorem cntB_mono (ws : List Nat) {a b : Nat} (h : a ≤ b) : cntB ws a ≤ cntB ws b := by
  induction b with
  | zero => obtain rfl : a = 0 := by omega
            exact Nat.le_refl _
  | succ b ih =>
    by_cases e : a = b + 1
    · rw [e]; exact Nat.le_refl _
    · have := ih (by omega); rw [cntB]; omega
theorem cntB_same {ws ws' : List Nat} {n : Nat} (h : ∀ y, y < n → bitB ws' y = bitB ws y) : cntB ws' n = cntB ws n := by
  induction n with
  | zero => rfl
  | succ n ih => rw [cntB, cntB, ih (fun y hy => h y (by omega)), h n (by omega)]
theorem cntB_put {ws ws' : List Nat} {x n : Nat} (hx : x < n) (h : ∀ y, bitB ws' y = (bitB ws y || decide (x = y))) (h0 : bitB ws x = false) : cntB ws' n = cntB ws n + 1 := by
  induction n with
  | zero => omega
  | succ n ih =>
    rw [cntB, cntB]
    by_cases e : x = n
    · subst e
      rw [cntB_same (ws := ws) (ws' := ws') (n := x) (fun y hy => by rw [h y, decide_eq_false (by omega), Bool.or_false]), h x, decide_eq_true rfl, h0]
      rfl
    · rw [ih (by omega), h n, decide_eq_false e, Bool.or_false]
      omega
theorem cntB_drop {ws ws' : List Nat} {x n : Nat} (hx : x < n) (h : ∀ y, bitB ws' y = (bitB ws y && !decide (x = y))) (h0 : bitB ws x = true) : cntB ws' n + 1 = cntB ws n := by
  induction n with
  | zero => omega
  | succ n ih =>
    rw [cntB, cntB]
    by_cases e : x = n
    · subst e
      rw [cntB_same (ws := ws) (ws' := ws') (n := x) (fun y hy => by rw [h y, decide_eq_false (by omega), Bool.not_false, Bool.and_true]), h x, decide_eq_true rfl, h0]
      rfl
    · rw [h n, decide_eq_false e, Bool.not_false, Bool.and_true, ← ih (by omega)]
      omega
theorem putN_cnt (ws : List Nat) (x j n : Nat) (h : x + j ≤ n) (hn : n ≤ 64 * ws.length) : (cntB (putN ws x j).1 n : Int) = cntB ws n + (putN ws x j).2 := by
  induction j with
  | zero => simp [putN]
  | succ j ih =>
    have ih := ih (by omega)
    have hl := putN_len ws x j
    rw [putN]
    split
    · exact ih
    · rename_i hb
      have := cntB_put (ws := (putN ws x j).1) (x := x + j) (n := n) (by omega) (fun y => bitB_put _ _ y (by rw [hl]; omega)) (by simpa using hb)
      show (cntB (putW (putN ws x j).1 (x + j)) n : Int) = cntB ws n + ((putN ws x j).2 + 1)
      unfold putW
      omega
theorem dropN_cnt (ws : List Nat) (x j n : Nat) (h : x + j ≤ n) (hn : n ≤ 64 * ws.length) : (cntB (dropN ws x j).1 n : Int) = cntB ws n - (dropN ws x j).2 := by
  induction j with
  | zero => simp [dropN]
  | succ j ih =>
    have ih := ih (by omega)
    have hl := dropN_len ws x j
    rw [dropN]
    split
    · rename_i hb
      have := cntB_drop (ws := (dropN ws x j).1) (x := x + j) (n := n) (by omega) (fun y => bitB_drop _ _ y (by rw [hl]; omega)) hb
      show (cntB (dropW (dropN ws x j).1 (x + j)) n : Int) = cntB ws n - ((dropN ws x j).2 + 1)
      unfold dropW
      omega
    · exact ih
/-- Those of the numbers below n that are in it, rising. -/
def listB (ws : List Nat) : Nat → List Int
  | 0 => []
  | j + 1 => if bitB ws j then listB ws j ++ [(j : Int)] else listB ws j
theorem listB_len (ws : List Nat) (n : Nat) : (listB ws n).length = cntB ws n := by
  induction n with
  | zero => rfl
  | succ n ih => rw [listB, cntB]; split <;> simp [ih]
theorem listB_at {ws : List Nat} {x n : Nat} (hx : x < n) (h : bitB ws x = true) : cntB ws x < cntB ws n ∧ (listB ws n).getD (cntB ws x) 0 = x := by
  induction n with
  | zero => omega
  | succ n ih =>
    by_cases e : x = n
    · subst e
      rw [cntB, listB, h]
      refine ⟨by simp, ?_⟩
      simp [List.getD, List.getElem?_append_right, listB_len]
    · obtain ⟨h1, h2⟩ := ih (by omega)
      refine ⟨Nat.lt_of_lt_of_le h1 (cntB_mono ws (by omega)), ?_⟩
      rw [listB]
      split
      · simp only [List.getD_eq_getElem?_getD] at h2 ⊢
        rw [List.getElem?_append_left (by rw [listB_len]; exact h1)]
        exact h2
      · exact h2
theorem listB_skip {ws : List Nat} {a b : Nat} (hab : a ≤ b) (h : ∀ y, a ≤ y → y < b → bitB ws y = false) : listB ws b = listB ws a := by
  induction b with
  | zero => obtain rfl : a = 0 := by omega
            rfl
  | succ b ih =>
    by_cases e : a = b + 1
    · rw [e]
    · rw [listB, h b (by omega) (by omega)]
      exact ih (by omega) (fun y h1 h2 => h y h1 (by omega))

def DropPost (lo hi g : Nat) (W : World) (n c : Int) (x : Nat) (ws : List Nat) (e : Ending) (w' : World) : Prop :=
  ∃ (c' : Int) (ws' : List Nat), e = .returned (.bool (bitB ws x)) ∧ SetIs lo hi g w' n c' ws' ∧ Only lo hi W w' ∧ c - 1 ≤ c' ∧ c' ≤ c ∧ (bitB ws x = true → c' = c - 1) ∧ (bitB ws x = false → c' = c) ∧ ws'.length = ws.length ∧ ∀ y, bitB ws' y = (bitB ws y && !decide (x = y))
theorem sdrop_any (lo hi g : Nat) (W : World) (n c : Int) (x : Nat) (ws : List Nat) (h : SetIs lo hi g W n c ws) (hx : (x : Int) < n) (hc : c ≤ 1000000 ∧ (bitB ws x = true → 1 ≤ c)) :
    Calls Tryd.prog 88 #[.pointer (some ⟨g, 0, none⟩), .int .i64 x] W (DropPost lo hi g W n c x ws) := by
  rcases Bool.eq_false_or_eq_true (bitB ws x) with hb | hb
  · have hl := h.2.1.2.2.1
    have h1 := hc.2 hb
    refine (sdrop_walk lo hi g W n c x ws h hx hb ⟨h1, hc.1⟩).mono ?_
    rintro e w' ⟨he, hs, ho⟩
    exact ⟨_, _, by rw [hb]; exact he, hs, ho, by omega, by omega, fun _ => rfl, fun q => by (rw [hb] at q; cases q), by rw [List.length_set], fun y => bitB_drop ws x y (by omega)⟩
  · refine (sdrop_no lo hi g W n c x ws h (by rw [Int.toNat_natCast, hb, Bool.and_false])).mono ?_
    rintro e w' ⟨he, rfl⟩
    refine ⟨c, ws, by rw [hb]; exact he, h, Only.refl _ _ _, by omega, by omega, fun q => by (rw [hb] at q; cases q), fun _ => rfl, rfl, fun y => ?_⟩
    by_cases e : x = y
    · subst e; rw [hb]; rfl
    · rw [decide_eq_false e, Bool.not_false, Bool.and_true]
end Go.Proofs.YtljjcomedjdpaaaDoor

