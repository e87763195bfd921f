/- What the statement counts page by page is what the list of gaps tells. -/
import Derived.Test.YtjblgamngnnccaaDoorGapW
namespace Go.Proofs.YtjblgamngnnccaaDoor
set_option linter.unusedVariables false
set_option linter.unusedSimpArgs false

/-- Behind p pages: how long the run is, the longest one, how many are nobody's, where the first of k is. -/
structure Scan where
  run : Int
  wide : Int
  count : Int
  find : Int
def scan (ws : List Nat) (k : Int) : Nat → Scan
  | 0 => ⟨0, 0, 0, -1⟩
  | p + 1 =>
    let s := scan ws k p
    let r := if bitB ws p then s.run + 1 else 0
    ⟨r, max s.wide r, if bitB ws p then s.count + 1 else s.count, if s.find < 0 ∧ 1 ≤ k ∧ k ≤ r then 5 + (p : Int) - k + 1 else s.find⟩
theorem wideT_snoc (l : List Ar) (q : Ar) : wideT (l ++ [q]) = max (wideT l) q.2 := by simp [wideT]
theorem wideT_nn (l : List Ar) : 0 ≤ wideT l := by
  suffices h : ∀ (l : List Ar) (m : Int), 0 ≤ m → 0 ≤ l.foldl (fun m p => max m p.2) m from h l 0 (by omega)
  intro l
  induction l with
  | nil => intro m hm; exact hm
  | cons a l ih => intro m hm; exact ih _ (by show 0 ≤ max m a.2; omega)
def sumG (l : List Ar) : Int := l.foldl (fun m p => m + p.2) 0
theorem sumG_snoc (l : List Ar) (q : Ar) : sumG (l ++ [q]) = sumG l + q.2 := by simp [sumG]
theorem sumG_take (l : List Ar) (i : Nat) (q : Ar) (h : l[i]? = some q) : sumG (l.take (i + 1)) = sumG (l.take i) + q.2 := by
  rw [List.take_add_one, h]
  exact sumG_snoc _ _
theorem findL_snoc (k : Int) (l : List Ar) (q : Ar) (hl : ∀ x ∈ l, 5 ≤ x.1) : findL k (l ++ [q]) = if 0 ≤ findL k l then findL k l else if k ≤ q.2 then q.1 else -1 := by
  induction l with
  | nil => simp [findL]
  | cons a l ih =>
    have ha := hl a (by simp)
    rw [List.cons_append, findL, findL, ih (fun x hx => hl x (by simp [hx]))]
    by_cases h : k ≤ a.2
    · simp [h]; omega
    · simp [h]
/-- What is kept from page to page. -/
structure ScanInv (ws : List Nat) (k : Int) (p : Nat) (L : List Ar) (s : Scan) : Prop where
  shape : (s.run = 0 ∧ ∀ q ∈ L, q.1 + q.2 < 5 + (p : Int)) ∨ (1 ≤ s.run ∧ s.run ≤ p ∧ ∃ l, L = l ++ [(5 + (p : Int) - s.run, s.run)])
  order : L.Pairwise (fun a b => a.1 + a.2 < b.1)
  each : ∀ q ∈ L, 5 ≤ q.1 ∧ 1 ≤ q.2 ∧ q.1 + q.2 ≤ 5 + (p : Int) ∧ bitB ws (q.1 - 5).toNat = true
  wide : s.wide = wideT L
  count : s.count = sumG L
  cnt : s.count = (listB ws p).length
  none : s.find < 0 → s.find = -1
  find : 1 ≤ k → s.find = findL k L
theorem scan_inv (ws : List Nat) (k : Int) : ∀ p, ScanInv ws k p (runs 5 (listB ws p)) (scan ws k p)
  | 0 => ⟨.inl ⟨rfl, by simp [listB, runs]⟩, by simp [listB, runs], by simp [listB, runs], rfl, rfl, rfl, fun _ => rfl, fun _ => rfl⟩
  | p + 1 => by
    obtain ⟨h1, h2, h3, h4, h5, h6, h7, h8⟩ := scan_inv ws k p
    by_cases hb : bitB ws p = true
    · have hL : runs 5 (listB ws (p + 1)) = gstep 5 (runs 5 (listB ws p)) p := by rw [listB, if_pos hb, runs_snoc]
      have hlen : (listB ws (p + 1)).length = (listB ws p).length + 1 := by rw [listB, if_pos hb]; simp
      generalize runs 5 (listB ws p) = L at *
      generalize hsc : scan ws k p = s at *
      have hS : scan ws k (p + 1) = ⟨s.run + 1, max s.wide (s.run + 1), s.count + 1, if s.find < 0 ∧ 1 ≤ k ∧ k ≤ s.run + 1 then 5 + (p : Int) - k + 1 else s.find⟩ := by rw [scan, hsc]; simp [hb]
      rw [hS, hL]
      clear hS hL
      have h5' : ∀ x ∈ L, 5 ≤ x.1 := fun x hx => (h3 x hx).1
      rcases h1 with ⟨r0, hq⟩ | ⟨r1, r2, l, rfl⟩
      · have hg : gstep 5 L p = L ++ [(5 + (p : Int), 1)] := by
          unfold gstep
          split
          · rename_i q hq2
            have := hq q (List.mem_of_getLast? hq2)
            rw [if_neg (by omega)]
          · rename_i hn
            rw [List.getLast?_eq_none_iff.1 hn]
            rfl
        rw [hg]
        refine ⟨.inr ⟨by simp; omega, by simp; omega, L, by simp [r0]; omega⟩, ?_, ?_, ?_, ?_, ?_, ?_, ?_⟩
        · rw [List.pairwise_append]
          exact ⟨h2, by simp, fun a ha b hb' => by simp at hb'; subst hb'; exact hq a ha⟩
        · intro q hq'
          rcases List.mem_append.1 hq' with h | h
          · have := h3 q h
            exact ⟨this.1, this.2.1, by have := this.2.2.1; push_cast; omega, this.2.2.2⟩
          · simp at h; subst h
            exact ⟨by simp; omega, by simp, by push_cast; omega, by simpa [show (5 + (p : Int) - 5).toNat = p by omega] using hb⟩
        · simp only [wideT_snoc, h4, r0]; simp
        · simp only [sumG_snoc, h5]
        · simp only [hlen, h6]; push_cast; rfl
        · intro hf
          simp only at hf ⊢
          split at hf
          · omega
          · split
            · omega
            · exact h7 hf
        · intro hk
          simp only
          rw [findL_snoc k L _ h5', ← h8 hk]
          by_cases hf : s.find < 0
          · rw [if_neg (show ¬ 0 ≤ s.find by omega)]
            by_cases hk1 : k ≤ 1
            · rw [if_pos ⟨hf, hk, by omega⟩, if_pos hk1]; omega
            · rw [if_neg (by omega), if_neg hk1, h7 hf]
          · rw [if_pos (show 0 ≤ s.find by omega), if_neg (by omega)]
      · have hg : gstep 5 (l ++ [(5 + (p : Int) - s.run, s.run)]) p = l ++ [(5 + (p : Int) - s.run, s.run + 1)] := by
          simp [gstep]
        have hl5 : ∀ x ∈ l, 5 ≤ x.1 := fun x hx => h5' x (by simp [hx])
        rw [List.pairwise_append] at h2
        rw [hg]
        refine ⟨.inr ⟨by simp; omega, by simp; omega, l, by simp; omega⟩, ?_, ?_, ?_, ?_, ?_, ?_, ?_⟩
        · rw [List.pairwise_append]
          exact ⟨h2.1, by simp, fun a ha b hb' => by simp at hb'; subst hb'; exact h2.2.2 a ha (5 + (p : Int) - s.run, s.run) (by simp)⟩
        · intro q hq'
          rcases List.mem_append.1 hq' with h | h
          · have := h3 q (by simp [h])
            exact ⟨this.1, this.2.1, by have := this.2.2.1; push_cast; omega, this.2.2.2⟩
          · have h0 := h3 (5 + (p : Int) - s.run, s.run) (by simp)
            simp at h; subst h
            exact ⟨h0.1, by show 1 ≤ s.run + 1; omega, by show 5 + (p : Int) - s.run + (s.run + 1) ≤ 5 + ((p + 1 : Nat) : Int); omega, h0.2.2.2⟩
        · simp only [wideT_snoc, h4]; omega
        · simp only [sumG_snoc, h5]; omega
        · simp only [hlen, h6]; push_cast; rfl
        · intro hf
          simp only at hf ⊢
          split at hf
          · omega
          · split
            · omega
            · exact h7 hf
        · intro hk
          have h9 := h8 hk
          rw [findL_snoc k l _ hl5] at h9
          simp only
          rw [findL_snoc k l _ hl5]
          by_cases hfl : 0 ≤ findL k l
          · rw [if_pos hfl] at h9 ⊢
            rw [if_neg (by omega), h9]
          · rw [if_neg hfl] at h9 ⊢
            simp only at h9 ⊢
            by_cases hkr : k ≤ s.run
            · rw [if_pos hkr] at h9
              rw [if_pos (show k ≤ s.run + 1 by omega), if_neg (by omega), h9]
            · rw [if_neg hkr] at h9
              by_cases hk2 : k ≤ s.run + 1
              · rw [if_pos hk2, if_pos ⟨by omega, hk, hk2⟩]; omega
              · rw [if_neg hk2, if_neg (by omega), h9]
    · have hL : listB ws (p + 1) = listB ws p := by rw [listB, if_neg hb]
      rw [hL]
      generalize hrl : runs 5 (listB ws p) = L at *
      generalize hsc : scan ws k p = s at *
      have hb' : bitB ws p = false := by simpa using hb
      have hS : scan ws k (p + 1) = ⟨0, max s.wide 0, s.count, s.find⟩ := by
        rw [scan, hsc]
        simp [hb']
        omega
      rw [hS]
      have hwn := wideT_nn L
      refine ⟨.inl ⟨rfl, fun q hq => ?_⟩, h2, fun q hq => ?_, by simp only; omega, h5, (by show s.count = _; rw [hL]; exact h6), h7, h8⟩
      · have := (h3 q hq).2.2.1; push_cast; omega
      · have := h3 q hq
        exact ⟨this.1, this.2.1, by have := this.2.2.1; push_cast; omega, this.2.2.2⟩
end Go.Proofs.YtjblgamngnnccaaDoor
