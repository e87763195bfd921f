/- Orders and their ways back: plain facts. -/
import Derived.Test.YtbmcgoodilomlaaShufA
namespace Go.Proofs.Ytbmcgoodilomlaa
set_option linter.unusedVariables false
set_option linter.unusedSimpArgs false

/-- Each number from 0 on, below as many as there are, is among them. -/
def Surj (L : List Int) : Prop := ∀ v : Nat, v < L.length → (v : Int) ∈ L
theorem swp_mem (X : List Int) (i k : Nat) (hi : i < X.length) (hk : k < X.length) (v : Int) (h : v ∈ X) : v ∈ swp X i k := by
  obtain ⟨j, hj, rfl⟩ := List.getElem_of_mem h
  have e1 : X.getD k 0 = X[k] := by simp [hk]
  have e2 : X.getD i 0 = X[i] := by simp [hi]
  unfold swp
  rw [e1, e2]
  by_cases hjk : j = k
  · subst hjk
    by_cases hij : i = j
    · subst hij
      exact List.mem_iff_getElem.2 ⟨i, by simpa using hi, by simp⟩
    · exact List.mem_iff_getElem.2 ⟨i, by simpa using hi, by rw [List.getElem_set_ne (Ne.symm hij)]; simp⟩
  · by_cases hji : j = i
    · subst hji
      exact List.mem_iff_getElem.2 ⟨k, by simpa using hk, by simp⟩
    · exact List.mem_iff_getElem.2 ⟨j, by simpa using hj, by rw [List.getElem_set_ne (Ne.symm hjk), List.getElem_set_ne (Ne.symm hji)]⟩
theorem swp_surj {X : List Int} (i k : Nat) (hi : i < X.length) (hk : k < X.length) (h : Surj X) : Surj (swp X i k) := by
  intro v hv
  rw [swp_len] at hv
  exact swp_mem X i k hi hk _ (h v hv)
theorem shufL_surj : ∀ (p : Nat) (X Z : List Int) (K : Int), (p = 0 ∨ p < X.length) → Surj X → Surj (shufL p X Z K)
  | 0, _, _, _, _, h => h
  | p + 1, X, Z, K, hp, h => by
    rw [shufL]
    have hb := nxV_bd Z K ((p : Int) + 2) (by omega)
    exact shufL_surj p _ _ _ (by rw [swp_len]; omega) (swp_surj _ _ (by omega) (by omega) h)
def rangeI (n : Nat) : List Int := (List.range n).map Int.ofNat
theorem rangeI_len (n : Nat) : (rangeI n).length = n := by simp [rangeI]
theorem rangeI_surj (n : Nat) : Surj (rangeI n) := by
  intro v hv
  rw [rangeI_len] at hv
  exact List.mem_map.2 ⟨v, List.mem_range.2 hv, rfl⟩
theorem rangeI_snoc (n : Nat) : rangeI (n + 1) = rangeI n ++ [(n : Int)] := by simp [rangeI, List.range_succ]
/-- The way back: what is left, at which place, and where each number was found so far. -/
def bkGo : List Int → Nat → List Int → Option (List Int)
  | [], _, Y => some Y
  | x :: r, k, Y => if x < 0 ∨ (Y.length : Int) ≤ x ∨ 0 ≤ Y.getD x.toNat 0 then none else bkGo r (k + 1) (Y.set x.toNat (k : Int))
theorem bkGo_len : ∀ (l : List Int) (k : Nat) (Y Y' : List Int), bkGo l k Y = some Y' → Y'.length = Y.length
  | [], _, Y, Y', h => by simp [bkGo] at h; rw [h]
  | x :: r, k, Y, Y', h => by
    rw [bkGo] at h
    split at h
    · cases h
    · rw [bkGo_len r _ _ _ h]; simp
/-- How many are found. -/
def cntN (Y : List Int) : Nat := (Y.filter (fun y => decide (0 ≤ y))).length
theorem cntN_set : ∀ (Y : List Int) (i : Nat) (v : Int), i < Y.length → Y.getD i 0 < 0 → 0 ≤ v → cntN (Y.set i v) = cntN Y + 1
  | [], i, v, h, _, _ => by simp at h
  | y :: Y, 0, v, _, h2, h3 => by
    simp at h2
    simp [cntN, List.filter_cons, h3, show ¬ 0 ≤ y by omega]
  | y :: Y, i + 1, v, h1, h2, h3 => by
    have := cntN_set Y i v (by simpa using h1) (by simpa using h2) h3
    simp only [cntN, List.set_cons_succ, List.filter_cons] at *
    split <;> simp_all
theorem cntN_le (Y : List Int) : cntN Y ≤ Y.length := List.length_filter_le _ _
theorem cntN_all {Y : List Int} (h : cntN Y = Y.length) : ∀ y ∈ Y, 0 ≤ y := by
  intro y hy
  have := List.filter_eq_self.1 (List.Sublist.eq_of_length (List.filter_sublist (p := fun y : Int => decide (0 ≤ y)) (l := Y)) h) y hy
  simpa using this
theorem bkGo_cnt : ∀ (l : List Int) (k : Nat) (Y Y' : List Int), bkGo l k Y = some Y' → cntN Y' = cntN Y + l.length
  | [], _, Y, Y', h => by simp [bkGo] at h; rw [h]; simp
  | x :: r, k, Y, Y', h => by
    rw [bkGo] at h
    split at h
    · cases h
    · rename_i hc
      rw [bkGo_cnt r _ _ _ h, cntN_set Y x.toNat k (by omega) (by omega) (by omega)]
      simp; omega
/-- What stands in the way back: a place at which the number stands. -/
def BkAt (L Y : List Int) : Prop := ∀ v, v < Y.length → 0 ≤ Y.getD v 0 → (Y.getD v 0).toNat < L.length ∧ L.getD (Y.getD v 0).toNat 0 = (v : Int)
theorem bkGo_at (L : List Int) : ∀ (l : List Int) (k : Nat) (Y Y' : List Int), L.drop k = l → BkAt L Y → (∀ j, j < k → Y.getD (L.getD j 0).toNat 0 = (j : Int)) → (∀ j, j < k → 0 ≤ L.getD j 0 ∧ L.getD j 0 < Y.length) → bkGo l k Y = some Y' →
    BkAt L Y' ∧ (∀ j, j < L.length → Y'.getD (L.getD j 0).toNat 0 = (j : Int)) ∧ (∀ j, j < L.length → 0 ≤ L.getD j 0 ∧ L.getD j 0 < Y.length)
  | [], k, Y, Y', hd, h1, h2, h3, h => by
    simp [bkGo] at h
    subst h
    have : L.length ≤ k := by
      have := congrArg List.length hd
      simp at this; omega
    exact ⟨h1, fun j hj => h2 j (by omega), fun j hj => h3 j (by omega)⟩
  | x :: r, k, Y, Y', hd, h1, h2, h3, h => by
    rw [bkGo] at h
    split at h
    · cases h
    · rename_i hc
      have hk : k < L.length := by
        have := congrArg List.length hd
        simp at this; omega
      have hx : L.getD k 0 = x := by
        have := List.drop_eq_getElem_cons hk
        rw [hd] at this
        injection this with e _
        simp [hk, e]
      have hr : L.drop (k + 1) = r := by
        have := List.drop_eq_getElem_cons hk
        rw [hd] at this
        injection this with _ e
        exact e.symm
      have hs : ∀ v, (Y.set x.toNat (k : Int)).getD v 0 = if v = x.toNat ∧ v < Y.length then (k : Int) else Y.getD v 0 := by
        intro v
        simp only [List.getD_eq_getElem?_getD, List.getElem?_set]
        by_cases e : x.toNat = v
        · subst e
          by_cases e2 : x.toNat < Y.length
          · simp [e2]
          · simp [e2]
        · simp [e, Ne.symm e]
      have := bkGo_at L r (k + 1) (Y.set x.toNat (k : Int)) Y' hr ?_ ?_ ?_ h
      · simpa using this
      · intro v hv hv2
        rw [hs v] at hv2 ⊢
        simp only [List.length_set] at hv
        by_cases e : v = x.toNat ∧ v < Y.length
        · rw [if_pos e] at hv2 ⊢
          refine ⟨by simpa using hk, ?_⟩
          simp only [Int.toNat_natCast]
          rw [hx]; omega
        · rw [if_neg e] at hv2 ⊢
          exact h1 v hv hv2
      · intro j hj
        rw [hs]
        by_cases e : j = k
        · subst e
          rw [hx, if_pos ⟨rfl, by omega⟩]
        · have hj2 := h2 j (by omega)
          have hj3 := h3 j (by omega)
          rw [if_neg, hj2]
          rintro ⟨e1, _⟩
          rw [e1] at hj2
          omega
      · intro j hj
        simp only [List.length_set]
        by_cases e : j = k
        · subst e; rw [hx]; omega
        · exact h3 j (by omega)
theorem rep_bkAt (L : List Int) (n : Nat) : BkAt L (List.replicate n (-1)) := by
  intro v hv h
  simp at hv
  rw [List.getD_eq_getElem?_getD, List.getElem?_replicate, if_pos hv] at h
  simp at h
theorem cntN_rep (n : Nat) : cntN (List.replicate n (-1)) = 0 := by simp [cntN]
theorem bkGo_some {L Y : List Int} (h : bkGo L 0 (List.replicate L.length (-1)) = some Y) : Y.length = L.length ∧ (∀ j, j < L.length → 0 ≤ L.getD j 0 ∧ L.getD j 0 < (L.length : Int) ∧ Y.getD (L.getD j 0).toNat 0 = (j : Int)) ∧ Surj L := by
  have hl := bkGo_len _ _ _ _ h
  have hc := bkGo_cnt _ _ _ _ h
  obtain ⟨h1, h2, h3⟩ := bkGo_at L L 0 _ Y rfl (rep_bkAt L _) (by simp) (by simp) h
  simp only [List.length_replicate] at hl h3
  rw [cntN_rep] at hc
  refine ⟨hl, fun j hj => ⟨(h3 j hj).1, (h3 j hj).2, h2 j hj⟩, fun v hv => ?_⟩
  have hv2 : v < Y.length := by omega
  have hp : 0 ≤ Y.getD v 0 := by
    have := cntN_all (show cntN Y = Y.length by omega) Y[v] (List.getElem_mem hv2)
    simpa [hv2] using this
  obtain ⟨q1, q2⟩ := h1 v hv2 hp
  rw [← q2, List.getD_eq_getElem?_getD, List.getElem?_eq_getElem q1]
  exact List.getElem_mem q1
/-- How many numbers below n are among some. -/
def covN (n : Nat) (M : List Int) : Nat := ((List.range n).filter (fun v : Nat => decide ((v : Int) ∈ M))).length
theorem filter_or_le (l : List Nat) (p q : Nat → Bool) : (l.filter (fun v => p v || q v)).length ≤ (l.filter p).length + (l.filter q).length := by
  induction l with
  | nil => simp
  | cons a l ih =>
    simp only [List.filter_cons]
    cases p a <;> cases q a <;> simp <;> omega
theorem filter_eq_le (l : List Nat) (hl : l.Nodup) (x : Int) : (l.filter (fun v : Nat => decide ((v : Int) = x))).length ≤ 1 := by
  induction l with
  | nil => simp
  | cons a l ih =>
    obtain ⟨h1, h2⟩ := List.nodup_cons.1 hl
    simp only [List.filter_cons]
    split
    · rename_i h
      have h := of_decide_eq_true h
      have : l.filter (fun v : Nat => decide ((v : Int) = x)) = [] := by
        rw [List.filter_eq_nil_iff]
        intro v hv hx
        have hx := of_decide_eq_true hx
        have : v = a := by omega
        subst this
        exact h1 hv
      rw [this]; simp
    · exact ih h2
theorem covN_le (n : Nat) : ∀ M : List Int, covN n M ≤ M.length
  | [] => by simp [covN]
  | x :: M => by
    have h1 := covN_le n M
    have h2 := filter_or_le (List.range n) (fun v : Nat => decide ((v : Int) = x)) (fun v : Nat => decide ((v : Int) ∈ M))
    have h3 := filter_eq_le (List.range n) List.nodup_range x
    have h4 : covN n (x :: M) = ((List.range n).filter (fun v : Nat => decide ((v : Int) = x) || decide ((v : Int) ∈ M))).length := by
      unfold covN
      congr 1
      apply List.filter_congr
      intro v _
      simp
    unfold covN at h1
    rw [h4]; simp; omega
theorem covN_all {n : Nat} {M : List Int} (h : ∀ v : Nat, v < n → (v : Int) ∈ M) : covN n M = n := by
  unfold covN
  rw [List.filter_eq_self.2]
  · simp
  · intro v hv
    simpa using h v (List.mem_range.1 hv)
theorem not_surj {L : List Int} {k : Nat} (hk : k < L.length) (h : L.getD k 0 < 0 ∨ (L.length : Int) ≤ L.getD k 0 ∨ ∃ j, j < k ∧ L.getD j 0 = L.getD k 0) : ¬ Surj L := by
  intro hs
  have hcov : covN L.length (L.eraseIdx k) = L.length := by
    apply covN_all
    intro v hv
    obtain ⟨i, hi, he⟩ := List.getElem_of_mem (hs v hv)
    have hget : ∀ j, j < L.length → L.getD j 0 = L.getD j 0 := fun _ _ => rfl
    have hg : ∀ j (hj : j < L.length), L.getD j 0 = L[j] := fun j hj => by simp [hj]
    rw [hg k hk] at h
    by_cases e : i = k
    · subst e
      rcases h with h | h | ⟨j, hj, h⟩
      · omega
      · omega
      · rw [hg j (by omega)] at h
        exact List.mem_eraseIdx_iff_getElem.2 ⟨j, by omega, by omega, by rw [h, he]⟩
    · exact List.mem_eraseIdx_iff_getElem.2 ⟨i, hi, e, he⟩
  have := covN_le L.length (L.eraseIdx k)
  rw [hcov, List.length_eraseIdx, if_pos hk] at this
  omega
theorem bkGo_none (L : List Int) : ∀ (l : List Int) (k : Nat) (Y : List Int), Y.length = L.length → L.drop k = l → (∀ v, v < Y.length → 0 ≤ Y.getD v 0 → ∃ j, j < k ∧ L.getD j 0 = (v : Int)) → bkGo l k Y = none → ¬ Surj L
  | [], k, Y, hl, hd, h1, h => by simp [bkGo] at h
  | x :: r, k, Y, hl, hd, h1, h => by
    have hk : k < L.length := by
      have := congrArg List.length hd
      simp at this; omega
    have hx : L.getD k 0 = x := by
      have := List.drop_eq_getElem_cons hk
      rw [hd] at this
      injection this with e _
      simp [hk, e]
    have hr : L.drop (k + 1) = r := by
      have := List.drop_eq_getElem_cons hk
      rw [hd] at this
      injection this with _ e
      exact e.symm
    rw [bkGo] at h
    split at h
    · rename_i hc
      apply not_surj hk
      rw [hx]
      rcases hc with hc | hc | hc
      · exact .inl hc
      · exact .inr (.inl (by omega))
      · by_cases h2 : x < 0
        · exact .inl h2
        · by_cases h3 : (L.length : Int) ≤ x
          · exact .inr (.inl h3)
          · obtain ⟨j, hj, e⟩ := h1 x.toNat (by omega) hc
            exact .inr (.inr ⟨j, hj, by rw [e]; omega⟩)
    · rename_i hc
      refine bkGo_none L r (k + 1) (Y.set x.toNat (k : Int)) (by simpa using hl) hr (fun v hv h2 => ?_) h
      simp only [List.length_set] at hv
      by_cases e : v = x.toNat
      · exact ⟨k, by omega, by rw [hx]; omega⟩
      · rw [show (Y.set x.toNat (k : Int)).getD v 0 = Y.getD v 0 by simp [List.getD_eq_getElem?_getD, List.getElem?_set, Ne.symm e]] at h2
        obtain ⟨j, hj, e⟩ := h1 v hv h2
        exact ⟨j, by omega, e⟩
theorem bkGo_iff (L : List Int) : (bkGo L 0 (List.replicate L.length (-1))).isSome = true ↔ Surj L := by
  constructor
  · intro h
    obtain ⟨Y, hY⟩ := Option.isSome_iff_exists.1 h
    exact (bkGo_some hY).2.2
  · intro h
    cases hb : bkGo L 0 (List.replicate L.length (-1)) with
    | some Y => rfl
    | none =>
      refine absurd h (bkGo_none L L 0 _ (by simp) rfl (fun v hv h2 => ?_) hb)
      simp at hv
      rw [List.getD_eq_getElem?_getD, List.getElem?_replicate, if_pos hv] at h2
      simp at h2
end Go.Proofs.Ytbmcgoodilomlaa
