/- BatchPlays: the batches beside the statement's own rows. -/
import Derived.Test.YtokdjonnblbegaaBaM
namespace Go.Proofs.Ytokdjonnblbegaa
set_option maxRecDepth 100000
open Go.RowKit Go.Maps
set_option linter.unusedVariables false
set_option linter.unusedSimpArgs false

/-- The batches hold lb, the statement's own rows lm; no block is both's; all are the walk's own. -/
def LP (W : World) (p sz : Nat) (lb : List (List Int)) (vm : Value) (lm : List (List Int)) (V : World) : Prop :=
  ∃ b v gs cs vals bm gm mv, BT p b sz v gs cs lb vals V ∧ MT bm vm gm lm mv V ∧ (p ≠ bm ∧ p ∉ gm) ∧ (v = .slice none 0 0 ∨ (b ≠ bm ∧ b ∉ gm ∧ W.heap.size ≤ b)) ∧ (∀ g ∈ gs, g ≠ bm ∧ g ∉ gm ∧ W.heap.size ≤ g) ∧ W.heap.size ≤ p ∧ W.heap.size ≤ bm ∧ Below W.heap.size W V
section
variable {W : World} {p sz : Nat} {lb lm : List (List Int)} {vm : Value} {V V' : World}
theorem LP.bel (h : LP W p sz lb vm lm V) : Below W.heap.size W V := by
  obtain ⟨b, v, gs, cs, vals, bm, gm, mv, h1, h2, h3, h4, h5, h6, h7, h8⟩ := h
  exact h8
theorem LP.below (h : LP W p sz lb vm lm V) (hb : Below V.heap.size V V') : LP W p sz lb vm lm V' := by
  obtain ⟨b, v, gs, cs, vals, bm, gm, mv, h1, h2, h3, h4, h5, h6, h7, h8⟩ := h
  exact ⟨b, v, gs, cs, vals, bm, gm, mv, h1.below hb, h2.below hb, h3, h4, h5, h6, h7, thn h8 hb⟩
theorem LP.bt (h : LP W p sz lb vm lm V) : ∃ b v gs cs vals, BT p b sz v gs cs lb vals V := by
  obtain ⟨b, v, gs, cs, vals, bm, gm, mv, h1, h2, h3, h4, h5, h6, h7, h8⟩ := h
  exact ⟨b, v, gs, cs, vals, h1⟩
theorem LP.mt (h : LP W p sz lb vm lm V) : ∃ bm gm mv, MT bm vm gm lm mv V ∧ W.heap.size ≤ bm := by
  obtain ⟨b, v, gs, cs, vals, bm, gm, mv, h1, h2, h3, h4, h5, h6, h7, h8⟩ := h
  exact ⟨bm, gm, mv, h2, h7⟩
theorem LP.give_pre (h : LP W p sz lb vm lm V) : ∃ b v gs cs vals, BT p b sz v gs cs lb vals V ∧ (b < V.heap.size ∨ v = .slice none 0 0) ∧ W.heap.size ≤ p ∧ W.heap.size ≤ b ∧
    ∀ lz V', BGV p sz V.heap.size b gs lz V' → V.heap.size ≤ V'.heap.size → (∀ i, i < V.heap.size → i ≠ p → i ≠ b → V'.heap[i]? = V.heap[i]?) → (V'.os = V.os ∧ V'.tape = V.tape ∧ V'.output = V.output) → LP W p sz lz vm lm V' := by
  obtain ⟨b, v, gs, cs, vals, bm, gm, mv, h1, h2, h3, h4, h5, h6, h7, h8⟩ := h
  have hlt := h1.lt
  have hW := h8.size
  obtain ⟨b2, T2, hb2, hbW, hbm⟩ : ∃ b2, BT p b2 sz v gs cs lb vals V ∧ (b2 < V.heap.size ∨ v = .slice none 0 0) ∧ W.heap.size ≤ b2 ∧ (b2 ≠ bm ∧ b2 ∉ gm) := by
    by_cases hv : v = .slice none 0 0
    · subst hv
      exact ⟨V.heap.size + 7, h1.rebase (by omega), .inr rfl, by omega, by have := h2.lt; omega, fun hm => by have := h2.mem_lt hm; omega⟩
    · obtain ⟨o, u, ho⟩ := h1.kc hv
      have h9 := h4.resolve_left hv
      exact ⟨b, h1, .inl (World.block_lt_of_cell? V _ ho), h9.2.2, h9.1, h9.2.1⟩
  refine ⟨b2, v, gs, cs, vals, T2, hb2, h6, hbW, fun lz V' ⟨b', v', gs', cs', vals', T', k1, k2⟩ hs hk ho => ?_⟩
  have hbne : b' ≠ bm ∧ b' ∉ gm ∧ W.heap.size ≤ b' := by
    rcases k1 with ⟨rfl, -⟩ | k1
    · exact ⟨hbm.1, hbm.2, hbW⟩
    · exact ⟨by have := h2.lt; omega, fun hm => by have := h2.mem_lt hm; omega, by omega⟩
  refine ⟨b', v', gs', cs', vals', bm, gm, mv, T', h2.keep hs (fun i hi hh => hk i hi ?_ ?_), h3, .inr hbne, fun g hg => ?_, h6, h7, ⟨ho.1.trans h8.os, ho.2.1.trans h8.tape, ho.2.2.trans h8.output, Nat.le_trans hW hs, fun i hi => (hk i (by omega) (by omega) (by omega)).trans (h8.block i hi)⟩⟩
  · rintro rfl
    rcases hh with e | e
    · exact h3.1 e
    · exact h3.2 e
  · rintro rfl
    rcases hh with e | e
    · exact hbm.1 e
    · exact hbm.2 e
  · rcases k2 g hg with k2 | k2
    · exact h5 g k2
    · exact ⟨by have := h2.lt; omega, fun hm => by have := h2.mem_lt hm; omega, by omega⟩
theorem LP.take_pre {l : List Int} (h : LP W p sz (lb ++ [l]) vm lm V) : ∃ b v gs0 g cs0 c vals0 u, BT p b sz v (gs0 ++ [g]) (cs0 ++ [c]) (lb ++ [l]) (vals0 ++ [u]) V ∧
    ∀ e V', BTakePost p b sz g c l gs0 cs0 lb vals0 V e V' → e = .returned (.slice (some ⟨g, 0, none⟩) l.length c) ∧ LP W p sz lb vm lm V' ∧ RV g V' (.slice (some ⟨g, 0, none⟩) l.length c) l := by
  obtain ⟨b, v, gs, cs, vals, bm, gm, mv, h1, h2, h3, h4, h5, h6, h7, h8⟩ := h
  obtain ⟨gs0, g, cs0, c, vals0, u, rfl, rfl, rfl⟩ := h1.last
  refine ⟨b, v, gs0, g, cs0, c, vals0, u, h1, fun e V' ⟨e1, ⟨v', T'⟩, hr, k1, k2, k3, k4, k5, k6⟩ => ⟨e1, ?_, hr.rv⟩⟩
  have hv : v ≠ .slice none 0 0 := fun e => by
    subst e
    have := h1.out.nil_nil.1
    simp at this
  refine ⟨b, v', gs0, cs0, vals0, bm, gm, mv, T', h2.keep (Nat.le_of_eq k4.symm) (fun i hi hh => k5 i ?_), h3, .inr (h4.resolve_left hv), fun g hg => h5 g (List.mem_append_left _ hg), h6, h7, h8.trans (k6.mono h6)⟩
  rintro rfl
  rcases hh with e | e
  · exact h3.1 e
  · exact h3.2 e
theorem LP.without_pre (h : LP W p sz lb vm lm V) : ∃ b v gs cs vals, BT p b sz v gs cs lb vals V ∧
    ∀ zs e V', BWPost p b sz gs zs lb V e V' → e = .returned (.int .i64 (goneL zs lb)) ∧ LP W p sz (wL zs lb) vm lm V' := by
  obtain ⟨b, v, gs, cs, vals, bm, gm, mv, h1, h2, h3, h4, h5, h6, h7, h8⟩ := h
  have hW := h8.size
  have hlt := h1.lt
  obtain ⟨b2, T2, hbW, hbm⟩ : ∃ b2, BT p b2 sz v gs cs lb vals V ∧ W.heap.size ≤ b2 ∧ (b2 ≠ bm ∧ b2 ∉ gm) := by
    by_cases hv : v = .slice none 0 0
    · subst hv
      exact ⟨V.heap.size + 7, h1.rebase (by omega), by omega, by have := h2.lt; omega, fun hm => by have := h2.mem_lt hm; omega⟩
    · have h9 := h4.resolve_left hv
      exact ⟨b, h1, h9.2.2, h9.1, h9.2.1⟩
  refine ⟨b2, v, gs, cs, vals, T2, fun zs e V' ⟨e1, ⟨v', gs', cs', vals', T', k2⟩, hs, hk, ho⟩ => ⟨e1, ?_⟩⟩
  refine ⟨b2, v', gs', cs', vals', bm, gm, mv, T', h2.keep hs (fun i hi hh => hk i hi ?_ ?_ ?_), h3, .inr ⟨hbm.1, hbm.2, hbW⟩, fun g hg => h5 g (k2 g hg), h6, h7, ⟨ho.1.trans h8.os, ho.2.1.trans h8.tape, ho.2.2.trans h8.output, Nat.le_trans hW hs, fun i hi => (hk i (by omega) (by omega) (by omega) (fun hm => by have := (h5 i hm).2.2; omega)).trans (h8.block i hi)⟩⟩
  · rintro rfl
    rcases hh with e | e
    · exact h3.1 e
    · exact h3.2 e
  · rintro rfl
    rcases hh with e | e
    · exact hbm.1 e
    · exact hbm.2 e
  · intro hm
    have h9 := h5 i hm
    rcases hh with e | e
    · exact h9.1 e
    · exact h9.2.1 e
/-- The statement's own rows get one more, that has been made since V. -/
theorem LP.push_pre {V2 : World} {g : Nat} {u : Value} {l : List Int} (h : LP W p sz lb vm lm V) (hb : Below V.heap.size V V2) (hr : RV g V2 u l) (hl : 0 < l.length) (hg : V.heap.size ≤ g) (hg2 : g < V2.heap.size) :
    ∃ bm mv, VZ 1 bm V2 vm lm.length mv ∧ ∀ v' w', VPost 1 bm V2 (lm.length + 1) (mv ++ [u]) v' w' → LP W p sz lb v' (lm ++ [l]) w' := by
  obtain ⟨b, v, gs, cs, vals, bm, gm, mv, h1, h2, h3, h4, h5, h6, h7, h8⟩ := h
  have hs := hb.size
  refine ⟨bm, mv, (h2.below hb).out, fun v' w' hV => ?_⟩
  obtain ⟨bm', k1, k2, k3, k4, k5⟩ := (h2.below hb).push hr hl hg2 (by have := h2.lt; omega) hV
  have hbmlt := h2.lt
  have hplt := h1.lt
  have T2 := h1.below hb
  have T3 : BT p b sz v gs cs lb vals w' := T2.keep2 k3 (fun i hi hh => k4 i hi (by
    rcases hh with rfl | ⟨rfl, hv⟩ | hm
    · exact h3.1
    · exact (h4.resolve_left hv).1
    · exact (h5 i hm).1))
  have hpbm : p ≠ bm' := by
    rcases k1 with rfl | k1
    · exact h3.1
    · omega
  refine ⟨b, v, gs, cs, vals, bm', gm ++ [g], mv ++ [u], T3, k2, ⟨hpbm, fun hm => ?_⟩, ?_, fun g2 hg2 => ?_, h6, ?_, (thn h8 hb).trans (k5 _ h7 (by have := h8.size; omega))⟩
  · rcases List.mem_append.1 hm with hm | hm
    · exact h3.2 hm
    · have := List.mem_singleton.1 hm
      omega
  · by_cases hv : v = .slice none 0 0
    · exact .inl hv
    · obtain ⟨o, w, ho⟩ := h1.kc hv
      have hblt : b < V.heap.size := World.block_lt_of_cell? V _ ho
      have h9 := h4.resolve_left hv
      refine .inr ⟨?_, fun hm => ?_, h9.2.2⟩
      · rcases k1 with rfl | k1
        · exact h9.1
        · omega
      · rcases List.mem_append.1 hm with hm | hm
        · exact h9.2.1 hm
        · have := List.mem_singleton.1 hm
          omega
  · have h9 := h5 g2 hg2
    have hlt2 := h1.mem_lt hg2
    refine ⟨?_, fun hm => ?_, h9.2.2⟩
    · rcases k1 with rfl | k1
      · exact h9.1
      · omega
    · rcases List.mem_append.1 hm with hm | hm
      · exact h9.2.1 hm
      · have := List.mem_singleton.1 hm
        omega
  · rcases k1 with rfl | k1
    · exact h7
    · have := h8.size
      omega
/-- Other rows, that have been made since V, stand in their place. -/
theorem LP.swap {V2 : World} {bl : Nat} {vl : Value} {gl : List Nat} {l2 : List (List Int)} {lv : List Value} (h : LP W p sz lb vm lm V) (hb : Below V.heap.size V V2) (hm : MT bl vl gl l2 lv V2) (h1 : V.heap.size ≤ bl) (h2 : ∀ g ∈ gl, V.heap.size ≤ g) : LP W p sz lb vl l2 V2 := by
  obtain ⟨b, v, gs, cs, vals, bm, gm, mv, t1, t2, t3, t4, t5, t6, t7, t8⟩ := h
  have hplt := t1.lt
  refine ⟨b, v, gs, cs, vals, bl, gl, lv, t1.below hb, hm, ⟨by omega, fun hm => by have := h2 p hm; omega⟩, ?_, fun g hg => ?_, t6, by have := t8.size; omega, thn t8 hb⟩
  · by_cases hv : v = .slice none 0 0
    · exact .inl hv
    · obtain ⟨o, w, ho⟩ := t1.kc hv
      have hblt : b < V.heap.size := World.block_lt_of_cell? V _ ho
      exact .inr ⟨by omega, fun hm => by have := h2 b hm; omega, (t4.resolve_left hv).2.2⟩
  · have hlt2 := t1.mem_lt hg
    exact ⟨by omega, fun hm => by have := h2 g hm; omega, (t5 g hg).2.2⟩
theorem LP.pop {l : List Int} {bm off c N : Nat} (h : LP W p sz lb (.slice (some ⟨bm, off, none⟩) N c) (lm ++ [l]) V) (hN : N = lm.length + 1) : LP W p sz lb (.slice (some ⟨bm, off, none⟩) lm.length c) lm V := by
  subst hN
  obtain ⟨b, v, gs, cs, vals, bm2, gm, mv, h1, h2, h3, h4, h5, h6, h7, h8⟩ := h
  obtain ⟨gm0, g, mv0, u, rfl, rfl⟩ := h2.last
  obtain ⟨off2, c2, e, -⟩ := h2.open_ (by simp)
  injection e with e _ _
  injection e with e
  injection e with e _ _
  subst e
  exact ⟨b, v, gs, cs, vals, bm, gm0, mv0, h1, h2.pop, ⟨h3.1, fun hm => h3.2 (List.mem_append_left _ hm)⟩, h4.imp id (fun h9 => ⟨h9.1, fun hm => h9.2.1 (List.mem_append_left _ hm), h9.2.2⟩), fun g2 hg2 => ⟨(h5 g2 hg2).1, fun hm => (h5 g2 hg2).2.1 (List.mem_append_left _ hm), (h5 g2 hg2).2.2⟩, h6, h7, h8⟩
end
/-- How much there may be behind i rounds. -/
def BD (i : Nat) (ls : List (List Int)) : Prop := i ≤ 30 ∧ ls.length ≤ 40 * i ∧ (ls.map List.length).sum ≤ 40 * i ∧ ∀ l ∈ ls, ∀ x ∈ l, I64 x
theorem BD.next {i : Nat} {ls : List (List Int)} (h : BD i ls) (hi : i < 30) : BD (i + 1) ls := by
  obtain ⟨h1, h2, h3, h4⟩ := h
  exact ⟨by omega, by omega, by omega, h4⟩
theorem chL_sum {k : Nat} {zs : List Int} (hk : 1 ≤ k) : ((chL k zs).map List.length).sum = zs.length ∧ (chL k zs).length ≤ zs.length ∧ ∀ l ∈ chL k zs, ∀ x ∈ l, x ∈ zs := by
  have key : ∀ t, ((((List.range t).map fun j => (zs.drop (j * k)).take k)).map List.length).sum = min (t * k) zs.length := fun t => by
    induction t with
    | zero => simp
    | succ t ih =>
      rw [chL_next (n := 0), List.map_append, List.sum_append_nat, ih, Nat.succ_mul]
      simp
      omega
  refine ⟨?_, ?_, ?_⟩
  · unfold chL
    rw [key]
    have : zs.length ≤ chN zs.length k * k := by
      unfold chN
      have h1 := Nat.div_add_mod (zs.length + k - 1) k
      have h2 := Nat.mod_lt (zs.length + k - 1) (show 0 < k by omega)
      have h3 : k * ((zs.length + k - 1) / k) = (zs.length + k - 1) / k * k := Nat.mul_comm _ _
      omega
    omega
  · unfold chL chN
    simp only [List.length_map, List.length_range]
    rcases Nat.eq_zero_or_pos zs.length with h | h
    · rw [h, Nat.div_eq_of_lt (by omega)]
      exact Nat.le_refl _
    · refine Nat.div_le_of_le_mul ?_
      obtain ⟨t, ht⟩ : ∃ t, zs.length = t + 1 := ⟨zs.length - 1, by omega⟩
      obtain ⟨q, hq⟩ : ∃ q, k = q + 1 := ⟨k - 1, by omega⟩
      rw [ht, hq, Nat.succ_mul, Nat.mul_succ]
      omega
  · intro l hl x hx
    unfold chL at hl
    obtain ⟨j, -, rfl⟩ := List.mem_map.1 hl
    exact List.mem_of_mem_drop (List.mem_of_mem_take hx)
theorem BD.give {i k : Nat} {ls : List (List Int)} {zs : List Int} (h : BD i ls) (hi : i < 30) (hk : 1 ≤ k) (hz : zs.length ≤ 40) (h9 : ∀ x ∈ zs, I64 x) : BD (i + 1) (ls ++ chL k zs) := by
  obtain ⟨h1, h2, h3, h4⟩ := h
  obtain ⟨g1, g2, g3⟩ := chL_sum (zs := zs) hk
  refine ⟨by omega, by rw [List.length_append]; omega, by rw [List.map_append, List.sum_append_nat, g1]; omega, fun l hl x hx => ?_⟩
  rcases List.mem_append.1 hl with hl | hl
  · exact h4 l hl x hx
  · exact h9 x (g3 l hl x hx)
theorem BD.pop {i : Nat} {ls : List (List Int)} {l : List Int} (h : BD i (ls ++ [l])) (hi : i < 30) : BD (i + 1) ls := by
  obtain ⟨h1, h2, h3, h4⟩ := h
  rw [List.length_append, List.length_singleton] at h2
  rw [List.map_append, List.sum_append_nat] at h3
  exact ⟨by omega, by omega, by omega, fun l hl => h4 l (List.mem_append_left _ hl)⟩
theorem wL_mem {zs : List Int} {ls : List (List Int)} : ∀ l ∈ wL zs ls, ∃ q ∈ ls, ∀ x ∈ l, x ∈ q := fun l hl => by
  unfold wL at hl
  obtain ⟨q, hq, rfl⟩ := List.mem_map.1 (List.mem_filter.1 hl).1
  exact ⟨q, hq, fun x hx => (List.mem_filter.1 hx).1⟩
theorem BD.without {i : Nat} {ls : List (List Int)} (zs : List Int) (h : BD i ls) (hi : i < 30) : BD (i + 1) (wL zs ls) := by
  obtain ⟨h1, h2, h3, h4⟩ := h
  have h5 := wL_sum zs ls
  have h6 : (wL zs ls).length ≤ ls.length := by
    unfold wL
    exact Nat.le_trans (List.length_filter_le _ _) (by rw [List.length_map]; exact Nat.le_refl _)
  refine ⟨by omega, by omega, by omega, fun l hl x hx => ?_⟩
  obtain ⟨q, hq, hh⟩ := wL_mem l hl
  exact h4 q hq x (hh x hx)
theorem goneL_bound {zs : List Int} {ls : List (List Int)} : 0 ≤ goneL zs ls ∧ goneL zs ls ≤ ((ls.map List.length).sum : Int) := by
  have := wL_sum zs ls
  unfold goneL
  omega
end Go.Proofs.Ytokdjonnblbegaa
