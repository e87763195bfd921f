/- Contracts of package batch: what comes of one batch more, of a turn of a block that holds no cells. -/
import Derived.Test.YtokdjonnblbegaaBaG
import Derived.RangeFuncFrom
namespace Go.Proofs.Ytokdjonnblbegaa
set_option maxRecDepth 100000
open Go.RowKit Go.Shelf
set_option linter.unusedVariables false
set_option linter.unusedSimpArgs false

theorem VZ.nil_any {sz b b2 : Nat} {W W2 : World} {n : Nat} {cs : List Value} (h : VZ sz b W (.slice none 0 0) n cs) : VZ sz b2 W2 (.slice none 0 0) n cs := by
  obtain ⟨A, c, e, h1, h2, h3, h4, h5⟩ := h
  injection e with e1 e2 e3
  subst e1 e2 e3
  exact ⟨none, 0, rfl, h1, h2, h3, h4, .inl ⟨rfl, rfl, rfl⟩⟩
theorem VZ.nil_nil {sz b : Nat} {W : World} {n : Nat} {cs : List Value} (h : VZ sz b W (.slice none 0 0) n cs) : n = 0 ∧ cs = [] := by
  obtain ⟨A, c, e, h1, h2, h3, h4, h5⟩ := h
  injection e with e1 e2 e3
  subst e1 e2 e3
  exact ⟨rfl, List.length_eq_zero_iff.1 (by simpa using h1)⟩
section
variable {p b sz : Nat} {v : Value} {gs cs : List Nat} {ls : List (List Int)} {vals : List Value} {W W' : World}
/-- Of none the outer row's block may be any. -/
theorem BT.rebase {b2 : Nat} (h : BT p b sz (.slice none 0 0) gs cs ls vals W) (hb : p ≠ b2) : BT p b2 sz (.slice none 0 0) gs cs ls vals W := by
  have h0 := h.out.nil_nil.1
  have hg : gs = [] := List.length_eq_zero_iff.1 (by rw [h.inn.lg]; exact h0)
  exact ⟨h.lt, h.c0, h.c1, h.f1, h.out.nil_any, h.inn, ⟨hb, h.df.2.1, by rw [hg]; simp⟩, h.big, fun e => absurd rfl e⟩
theorem BT.keep2 (h : BT p b sz v gs cs ls vals W) (hs : W.heap.size ≤ W'.heap.size) (hk : ∀ i, i < W.heap.size → (i = p ∨ (i = b ∧ v ≠ .slice none 0 0) ∨ i ∈ gs) → W'.heap[i]? = W.heap[i]?) : BT p b sz v gs cs ls vals W' := by
  by_cases hv : v = .slice none 0 0
  · subst hv
    have h1 := h.rebase (b2 := p + W.heap.size + 1) (by omega)
    have h2 := h1.keep hs (fun i hi hh => by
      rcases hh with e | e | e
      · exact hk i hi (.inl e)
      · omega
      · exact hk i hi (.inr (.inr e)))
    exact h2.rebase h.df.1
  · exact h.keep hs (fun i hi hh => hk i hi (by
      rcases hh with e | e | e
      · exact .inl e
      · exact .inr (.inl ⟨e, hv⟩)
      · exact .inr (.inr e)))
theorem BT.grown {row : Option Nat} (h : BT p b sz v gs cs ls vals W) (hg : W.grownBy W' row) (hr : ∀ r, row = some r → ∃ o : Obj, W.heap[r]? = some o ∧ o.isCells = false) : BT p b sz v gs cs ls vals W' := by
  have key : ∀ (i o : Nat) (u : Value), W.cell? ⟨i, o, none⟩ = some u → W'.heap[i]? = W.heap[i]? := fun i o u hc => by
    obtain ⟨ob, ho, hcc⟩ := cells_of_cell hc
    exact grownBy_keeps_cells hg hr ho hcc
  refine h.keep2 hg.size (fun i hi hh => ?_)
  rcases hh with rfl | ⟨rfl, hv⟩ | hm
  · exact key _ _ _ h.c0
  · obtain ⟨o, u, ho⟩ := h.kc hv
    exact key _ _ _ ho
  · obtain ⟨j, hj⟩ := List.getElem?_of_mem hm
    have hjl : j < ls.length := by rw [← h.inn.lg]; exact (List.getElem?_eq_some_iff.1 hj).1
    obtain ⟨g, c, e1, -, -, hrow⟩ := h.inn.at_ j _ (List.getElem?_eq_getElem hjl)
    obtain rfl : g = i := by rw [hj] at e1; exact (Option.some.inj e1).symm
    exact key _ _ _ (hrow.2.2.2.2.1 0 _ (List.getElem?_eq_getElem hrow.2.1))
/-- One batch more. -/
theorem BT.push {D cap : Nat} {l : List Int} {v' : Value} {w' : World} (h : BT p b sz v gs cs ls vals W) (hr : BRw D cap W l) (h1 : D ∉ gs) (h2 : D ≠ p) (h3 : D ≠ b)
    (hV : VPost 1 b W (ls.length + 1) (vals ++ [.slice (some ⟨D, 0, none⟩) l.length cap]) v' w') (hn : ls.length + 1 ≤ 100000) (hs : (ls.map List.length).sum + l.length ≤ 100000) :
    w'.cell? ⟨p, 1, none⟩ = some v ∧ w'.frozen? ⟨p, 1, none⟩ = false ∧ (∀ i, i < W.heap.size → i ≠ b → w'.heap[i]? = W.heap[i]?) ∧
    ∀ w2 : World, w2.heap = (w'.setCell ⟨p, 1, none⟩ v').heap → ∃ b', (b' = b ∨ W.heap.size ≤ b') ∧ BT p b' sz v' (gs ++ [D]) (cs ++ [cap]) (ls ++ [l]) (vals ++ [.slice (some ⟨D, 0, none⟩) l.length cap]) w2 ∧ W.heap.size ≤ w2.heap.size ∧ (∀ i, i < W.heap.size → i ≠ p → i ≠ b → w2.heap[i]? = W.heap[i]?) := by
  obtain ⟨b', hb', hz, hsz, hk, hL⟩ := hV
  have hp := h.lt
  have hD := hr.1
  have hgl : ∀ g ∈ gs, g < W.heap.size ∧ g ≠ p ∧ g ≠ b := fun g hg => by
    obtain ⟨j, hj⟩ := List.getElem?_of_mem hg
    have hjl : j < ls.length := by rw [← h.inn.lg]; exact (List.getElem?_eq_some_iff.1 hj).1
    obtain ⟨g2, c, e1, -, -, hrow⟩ := h.inn.at_ j _ (List.getElem?_eq_getElem hjl)
    obtain rfl : g2 = g := by rw [hj] at e1; exact (Option.some.inj e1).symm
    exact ⟨hrow.1, fun e => h.df.2.1 (e ▸ hg), fun e => h.df.2.2 (e ▸ hg)⟩
  have kp := hk p hp h.df.1
  have bp : b' ≠ p := by rcases hb' with rfl | h9; exact Ne.symm h.df.1; omega
  have bD : b' ≠ D := by rcases hb' with rfl | h9; exact Ne.symm h3; omega
  have bg : ∀ g ∈ gs, b' ≠ g := fun g hg => by
    have := hgl g hg
    rcases hb' with rfl | h9
    · exact Ne.symm this.2.2
    · omega
  have hf1 : w'.frozen? ⟨p, 1, none⟩ = false := (World.frozen?_of_block kp).trans h.f1
  have hc1 : w'.cell? ⟨p, 1, none⟩ = some v := (World.cell?_of_block kp).trans h.c1
  refine ⟨hc1, hf1, hk, fun w2 hw2 => ⟨b', hb', ?_, by rw [hw2, size_set]; exact hsz, fun i hi h4 h5 => by rw [hw2, heap_other w' p 1 v' i h4]; exact hk i hi h5⟩⟩
  have hv' : v' ≠ .slice none 0 0 ∧ ∃ o u, w'.cell? ⟨b', o, none⟩ = some u := by
    obtain ⟨A, c, rfl, q1, q2, q3, q4, ⟨rfl, q5, rfl⟩ | ⟨off, rfl, q5, q6, q7⟩⟩ := hz
    · omega
    · refine ⟨by simp, off + 0, _, q6 0 _ (List.getElem?_eq_getElem (by simp))⟩
  have hsz2 : w2.heap.size = w'.heap.size := by rw [hw2, size_set]
  have hk2 : ∀ i, i ≠ p → w2.heap[i]? = w'.heap[i]? := fun i hi => by rw [hw2]; exact heap_other w' p 1 v' i hi
  have hkp : w2.heap[p]? = (w'.setCell ⟨p, 1, none⟩ v').heap[p]? := by rw [hw2]
  have hrk : ∀ (g c : Nat) (q : List Int), BRw g c W q → g ≠ p → g ≠ b → BRw g c w2 q := fun g c q hq g1 g2 => hq.keep (by rw [hsz2]; exact hsz) ((hk2 g g1).trans (hk g hq.1 g2))
  refine ⟨by rw [hsz2]; omega, (World.cell?_of_block hkp).trans ((World.cell?_setCell_other _ _ _ _ (by simp)).trans ((World.cell?_of_block kp).trans h.c0)), (World.cell?_of_block hkp).trans (World.cell?_setCell_same _ _ _ hc1), (World.frozen?_of_block hkp).trans (by simp [hf1]), ?_, ⟨by simp [h.inn.lg], by simp [h.inn.lc], by simp [h.inn.lv], fun j q hj => ?_, ?_⟩, ⟨Ne.symm bp, ?_, ?_⟩, ⟨h.big.1, h.big.2.1, by simpa using hn, by simpa using hs⟩, fun _ => ?_⟩
  · rw [List.length_append, List.length_singleton]
    exact hz.keep (by rw [hsz2]; exact Nat.le_refl _) (fun _ => hk2 b' bp)
  · by_cases hjl : j < ls.length
    · rw [List.getElem?_append_left hjl] at hj
      obtain ⟨g, c, e1, e2, e3, e4⟩ := h.inn.at_ j q hj
      have hgm := List.mem_of_getElem? e1
      exact ⟨g, c, by rw [List.getElem?_append_left (by rw [h.inn.lg]; exact hjl)]; exact e1, by rw [List.getElem?_append_left (by rw [h.inn.lc]; exact hjl)]; exact e2, by rw [List.getElem?_append_left (by rw [h.inn.lv]; exact hjl)]; exact e3, hrk g c q e4 (hgl g hgm).2.1 (hgl g hgm).2.2⟩
    · have hj2 := (List.getElem?_eq_some_iff.1 hj).1
      simp only [List.length_append, List.length_singleton] at hj2
      obtain rfl : j = ls.length := by omega
      obtain rfl : l = q := by simpa using hj
      have g1 := h.inn.lg
      have g2 := h.inn.lc
      have g3 := h.inn.lv
      exact ⟨D, cap, by rw [← g1]; simp, by rw [← g2]; simp, by rw [← g3]; simp, hrk D cap l hr h2 h3⟩
  · refine List.nodup_append.2 ⟨h.inn.nd, by simp, fun x hx y hy e => ?_⟩
    rw [List.mem_singleton.1 hy] at e
    exact h1 (e ▸ hx)
  · intro hm
    rcases List.mem_append.1 hm with hm | hm
    · exact h.df.2.1 hm
    · exact h2 (List.mem_singleton.1 hm).symm
  · intro hm
    rcases List.mem_append.1 hm with hm | hm
    · exact bg b' hm rfl
    · exact bD (List.mem_singleton.1 hm)
  · obtain ⟨-, o, u, ho⟩ := hv'
    exact ⟨o, u, (World.cell?_of_block (hk2 b' bp)).trans ho⟩
end
/-- The pieces, so many of each. -/
def pcL (zs : List Int) {n k : Nat} (x : Pc n k) : List Int := (zs.drop x.1.1).take x.1.2
def chN (n k : Nat) : Nat := (n + k - 1) / k
def chL (k : Nat) (zs : List Int) : List (List Int) := (List.range (chN zs.length k)).map fun j => (zs.drop (j * k)).take k
theorem chS_eq {zs : List Int} {n k : Nat} (hn : zs.length = n) (hk : 1 ≤ k) {ys : List (Pc n k)} (h : ChS n k ys) : ys.map (pcL zs) = chL k zs := by
  obtain ⟨m, rfl, h1, h2⟩ := h
  have hm : m = chN zs.length k := by
    unfold chN
    rw [hn]
    rcases Nat.eq_zero_or_pos m with rfl | hm0
    · rw [show n = 0 by omega, Nat.div_eq_of_lt (by omega)]
    · have h3 := h2 (m - 1) (by omega)
      obtain ⟨t, rfl⟩ : ∃ t, m = t + 1 := ⟨m - 1, by omega⟩
      simp only [Nat.add_sub_cancel] at h3
      rw [Nat.succ_mul] at h1
      refine (Nat.div_eq_of_lt_le ?_ ?_).symm
      · rw [Nat.succ_mul]; omega
      · rw [Nat.succ_mul, Nat.succ_mul]; omega
  unfold chU chL
  rw [← hm, List.map_map]
  refine List.map_congr_left (fun j hj => ?_)
  have h4 := h2 j (List.mem_range.1 hj)
  simp only [Function.comp, pcL, chG_val hk h4]
  rcases Nat.le_total k (n - j * k) with h5 | h5
  · rw [Nat.min_eq_left h5]
  · rw [Nat.min_eq_right h5, List.take_of_length_le (by rw [List.length_drop]; omega), List.take_of_length_le (by rw [List.length_drop]; omega)]
theorem pc_sum {n k : Nat} (zs : List Int) (hk : k ≤ 16) (hn : n ≠ 0) (hk0 : k ≠ 0) : ∀ (pre : List (Pc n k)), ((pre.map (pcL zs)).map List.length).sum ≤ 16 * pre.length
  | [] => by simp
  | x :: r => by
    have h := pc_sum zs hk hn hk0 r
    have h2 := x.2
    simp only [List.map_cons, List.sum_cons, List.length_cons, pcL, List.length_take]
    rcases h2 with h2 | h2 | h2
    · exact absurd h2 hn
    · exact absurd h2 hk0
    · have : min x.1.2 (zs.drop x.1.1).length ≤ 16 := by omega
      omega
end Go.Proofs.Ytokdjonnblbegaa
