/- Lists of things that the statement makes: as rows, one of them stored anew; unlike things have unlike bytes. -/
import Derived.Test.YtahggokeelgjdaaTrU
namespace Go.Proofs.Ytahggokeelgjdaa
open Go.RowKit
set_option linter.unusedVariables false
set_option linter.unusedSimpArgs false

theorem ops_vo {b : Nat} {W : World} {v : Value} {l : List OV} (h : VO b W v l) (hp : ∀ p ∈ l, p.o.ok ∧ RD W p.dv p.d) : OPS W v l := by
  obtain ⟨A, c, e, h1, h2, h3, h4, ⟨h5, h6, h7⟩ | ⟨off, h5, h6, h7, _⟩⟩ := h
  · exact ⟨A, c, e, by omega, .inl (List.length_eq_zero_iff.1 h6)⟩
  · refine ⟨A, c, e, by omega, .inr ⟨b, off, h5, h6, fun i p hi => ⟨?_, (hp p (List.mem_of_getElem? hi)).2, (hp p (List.mem_of_getElem? hi)).1⟩⟩⟩
    have key : ∀ j u, (enc8 p)[j]? = some u → j < 8 → W.cell? ⟨b, off + i * 8 + j, none⟩ = some u := fun j u hu hj => by
      have := h7 (i * 8 + j) u (by rw [flat_get enc8 8 enc8_len l i j hj p hi]; exact hu)
      rwa [← Nat.add_assoc] at this
    exact ⟨by simpa using key 0 _ rfl (by decide), key 1 _ rfl (by decide), key 2 _ rfl (by decide), key 3 _ rfl (by decide), key 4 _ rfl (by decide), key 5 _ rfl (by decide), key 6 _ rfl (by decide), key 7 _ rfl (by decide)⟩
theorem OPS.each {W : World} {v : Value} {l : List OV} (h : OPS W v l) : ∀ p ∈ l, p.o.ok ∧ RD W p.dv p.d := by
  intro p hp
  obtain ⟨i, hi, rfl⟩ := List.mem_iff_getElem.1 hp
  obtain ⟨b, off, c, _, _, _, h1, h2⟩ := h.cell i _ (List.getElem?_eq_getElem hi)
  exact ⟨h2, h1⟩
theorem enc8_one {W : World} {p : OV} (h : RD W p.dv p.d) : ∀ u ∈ enc8 p, u.oneCell' = true := by
  obtain ⟨A, c, e, _⟩ := h
  intro u hu
  simp only [enc8, List.mem_cons, List.not_mem_nil, or_false] at hu
  rcases hu with rfl | rfl | rfl | rfl | rfl | rfl | rfl | rfl <;> first | rfl | (rw [e]; rfl)
theorem flat_one {W : World} {l : List OV} (h : ∀ p ∈ l, p.o.ok ∧ RD W p.dv p.d) : ∀ u ∈ l.flatMap enc8, u.oneCell' = true := by
  intro u hu
  obtain ⟨p, hp, hu⟩ := List.mem_flatMap.1 hu
  exact enc8_one (h p hp).2 u hu
/-- The cells of the first m things of a list, one behind the other. -/
theorem OPS.src {W : World} {ad : Addr} {n c : Nat} {l : List OV} (h : OPS W (.slice (some ad) n c) l) (m : Nat) (hm : m ≤ l.length) : ∀ j u, ((l.take m).flatMap enc8)[j]? = some u → W.cell? (ad.add j) = some u := by
  intro j u hu
  have hjl : j < m * 8 := by
    have h1 := (List.getElem?_eq_some_iff.1 hu).1
    rw [flat_len enc8 8 enc8_len, List.length_take, Nat.min_eq_left hm] at h1
    exact h1
  have hq : j / 8 < m := by omega
  obtain ⟨p, hp⟩ : ∃ p, l[j / 8]? = some p := ⟨_, List.getElem?_eq_getElem (by omega)⟩
  have hp2 : (l.take m)[j / 8]? = some p := by rw [List.getElem?_take, if_pos hq]; exact hp
  have h2 := flat_get enc8 8 enc8_len (l.take m) (j / 8) (j % 8) (Nat.mod_lt _ (by decide)) p hp2
  rw [Nat.div_add_mod' j 8, hu] at h2
  obtain ⟨b, off, c', e, hb, ⟨h0, h1, h2', h3, h4, h5, h6, h7⟩, _⟩ := h.cell (j / 8) p hp
  injection e with e _ _
  injection e with e
  subst e
  have hj8 : j % 8 < 8 := Nat.mod_lt _ (by decide)
  have hsplit : j % 8 = 0 ∨ j % 8 = 1 ∨ j % 8 = 2 ∨ j % 8 = 3 ∨ j % 8 = 4 ∨ j % 8 = 5 ∨ j % 8 = 6 ∨ j % 8 = 7 := by omega
  rw [addp, show off + j = off + j / 8 * 8 + j % 8 by omega]
  rcases hsplit with g | g | g | g | g | g | g | g <;> rw [g] at h2 ⊢ <;> simp only [enc8, List.getElem?_cons_zero, List.getElem?_cons_succ, Option.some.injEq] at h2 <;> subst h2 <;> assumption
/-- Values stored one behind the other. -/
def setL (R : Nat) : Nat → List Value → World → World
  | _, [], W => W
  | a, v :: r, W => setL R (a + 1) r (W.setCell ⟨R, a, none⟩ v)
theorem setL_all (R : Nat) : ∀ (vs : List Value) (a : Nat) (W : World), (∀ j, j < vs.length → (W.cell? ⟨R, a + j, none⟩).isSome = true) →
    (∀ j u, vs[j]? = some u → (setL R a vs W).cell? ⟨R, a + j, none⟩ = some u) ∧ (∀ x, (x < a ∨ a + vs.length ≤ x) → (setL R a vs W).cell? ⟨R, x, none⟩ = W.cell? ⟨R, x, none⟩) ∧ (∀ x, (setL R a vs W).frozen? ⟨R, x, none⟩ = W.frozen? ⟨R, x, none⟩) ∧ OB R W (setL R a vs W) ∧ (setL R a vs W).heap.size = W.heap.size
  | [], a, W, _ => ⟨fun j u h => by simp at h, fun _ _ => rfl, fun _ => rfl, OB.of_below (Below.refl _ _), rfl⟩
  | v :: r, a, W, hex => by
    have hs : ∀ x, x ≠ a → (W.setCell ⟨R, a, none⟩ v).cell? ⟨R, x, none⟩ = W.cell? ⟨R, x, none⟩ := fun x hx => set_other W R a x v (Ne.symm hx)
    obtain ⟨h1, h2, h3, h4, h5⟩ := setL_all R r (a + 1) (W.setCell ⟨R, a, none⟩ v) (fun j hj => by
      rw [hs _ (by omega), Nat.add_assoc, Nat.add_comm 1 j]
      exact hex (j + 1) (by simp; omega))
    refine ⟨fun j u hu => ?_, fun x hx => ?_, fun x => ?_, ?_, ?_⟩
    · match j with
      | 0 =>
        obtain rfl : v = u := by simpa using hu
        show (setL R (a + 1) r (W.setCell ⟨R, a, none⟩ v)).cell? ⟨R, a, none⟩ = _
        rw [h2 a (.inl (by omega))]
        obtain ⟨y, hy⟩ := Option.isSome_iff_exists.1 (hex 0 (by simp))
        exact World.cell?_setCell_same _ _ _ hy
      | j + 1 =>
        have := h1 j u (by simpa using hu)
        rw [Nat.add_assoc, Nat.add_comm 1 j] at this
        exact this
    · show (setL R (a + 1) r (W.setCell ⟨R, a, none⟩ v)).cell? _ = _
      simp only [List.length_cons] at hx
      rw [h2 x (by omega), hs x (by omega)]
    · show (setL R (a + 1) r (W.setCell ⟨R, a, none⟩ v)).frozen? _ = _
      rw [h3, World.frozen?_setCell]
    · exact (ob_set R a W v).trans h4 (.inl rfl)
    · show (setL R (a + 1) r (W.setCell ⟨R, a, none⟩ v)).heap.size = _
      rw [h5, size_set]
theorem flat_set (l : List OV) (k : Nat) (p : OV) (hk : k < l.length) (j : Nat) : ((l.set k p).flatMap enc8)[j]? = if k * 8 ≤ j ∧ j < k * 8 + 8 then (enc8 p)[j - k * 8]? else (l.flatMap enc8)[j]? := by
  by_cases hj : j < l.length * 8
  · have hq : j / 8 < l.length := by omega
    have hjm : j % 8 < 8 := Nat.mod_lt _ (by decide)
    have e1 := flat_get enc8 8 enc8_len (l.set k p) (j / 8) (j % 8) hjm ((l.set k p)[j / 8]'(by simpa using hq)) (List.getElem?_eq_getElem _)
    have e2 := flat_get enc8 8 enc8_len l (j / 8) (j % 8) hjm (l[j / 8]'hq) (List.getElem?_eq_getElem _)
    rw [Nat.div_add_mod' j 8] at e1 e2
    rw [e1, e2, List.getElem_set]
    by_cases hkj : k = j / 8
    · rw [if_pos hkj, if_pos (by omega), show j - k * 8 = j % 8 by omega]
    · rw [if_neg hkj, if_neg (by omega)]
  · have h1 : ((l.set k p).flatMap enc8)[j]? = none := List.getElem?_eq_none (by rw [flat_len enc8 8 enc8_len, List.length_set]; omega)
    have h2 : (l.flatMap enc8)[j]? = none := List.getElem?_eq_none (by rw [flat_len enc8 8 enc8_len]; omega)
    rw [h1, h2]
    split
    · omega
    · rfl
/-- One thing of a list stored anew. -/
theorem VO.store {b : Nat} {W : World} {off n c : Nat} {l : List OV} {k : Nat} {p : OV} (h : VO b W (.slice (some ⟨b, off, none⟩) n c) l) (hk : k < l.length) (h1 : ∀ u ∈ enc8 p, u.oneCell' = true) :
    VO b (setL b (off + k * 8) (enc8 p) W) (.slice (some ⟨b, off, none⟩) n c) (l.set k p) ∧ OB b W (setL b (off + k * 8) (enc8 p) W) := by
  obtain ⟨A, c', e, k1, k2, k3, k4, ⟨k5, k6, k7⟩ | ⟨off', k5, k6, k7, k8⟩⟩ := h
  · injection e with e _ _
    rw [k5] at e
    cases e
  · injection e with e0 e1 e2
    rw [k5] at e0
    injection e0 with e0
    injection e0 with _ e0 _
    subst e0
    have hl8 := flat_len enc8 8 enc8_len l
    obtain ⟨q1, q2, q3, q4, q5⟩ := setL_all b (enc8 p) (off + k * 8) W (fun j hj => by
      rw [Nat.add_assoc]
      rw [enc8_len] at hj
      exact (k8 (k * 8 + j) (by omega)).1)
    refine ⟨⟨some ⟨b, off, none⟩, c', by rw [e1, e2, List.length_set], by rw [flat_len enc8 8 enc8_len], by rw [List.length_set]; exact k2, k3, fun u hu => ?_, .inr ⟨off, rfl, by rw [q5]; exact k6, fun j u hu => ?_, fun i hi => ⟨?_, by rw [q3]; exact (k8 i hi).2⟩⟩⟩, q4⟩
    · obtain ⟨y, hy, hu2⟩ := List.mem_flatMap.1 hu
      rcases List.mem_or_eq_of_mem_set hy with hy | hy
      · exact k4 u (List.mem_flatMap.2 ⟨y, hy, hu2⟩)
      · rw [hy] at hu2
        exact h1 u hu2
    · rw [flat_set l k p hk] at hu
      split at hu
      · rename_i hj
        have := q1 (j - k * 8) u hu
        rwa [show off + k * 8 + (j - k * 8) = off + j by omega] at this
      · rename_i hj
        rw [q2 (off + j) (by rw [enc8_len]; omega)]
        exact k7 j u hu
    · by_cases hj : k * 8 ≤ i ∧ i < k * 8 + 8
      · obtain ⟨u, hu⟩ : ∃ u, (enc8 p)[i - k * 8]? = some u := ⟨_, List.getElem?_eq_getElem (by rw [enc8_len]; omega)⟩
        have := q1 (i - k * 8) u hu
        rw [show off + k * 8 + (i - k * 8) = off + i by omega] at this
        rw [this]; rfl
      · rw [q2 (off + i) (by rw [enc8_len]; omega)]
        exact (k8 i hi).1
theorem ops_one (W : World) (o : Op7) (d : List Nat) (dv : Value) (E : TypeId) (h : RD W dv d) (ho : o.ok) : OPS (W.alloc (.cells #[.int .i64 o.k, .int .i64 o.t, .int .i64 o.a, .int .i64 o.b, .int .i64 o.v, .int .i64 o.n, .int .i64 o.m, dv] E)) (.slice (some ⟨W.heap.size, 0, none⟩) 1 1) [⟨o, d, dv⟩] := by
  refine ⟨_, 1, rfl, by simp, .inr ⟨W.heap.size, 0, rfl, by simp, fun i p hp => ?_⟩⟩
  match i with
  | 0 =>
    obtain rfl : (⟨o, d, dv⟩ : OV) = p := Option.some.inj hp
    exact ⟨⟨by simp, by simp, by simp, by simp, by simp, by simp, by simp, by simp⟩, h.keep (alc0 _ _), ho⟩
  | i + 1 => simp at hp
/-- Unlike things have unlike bytes. -/
theorem oneB_inj {o o' : Op7} {d d' : List Nat} (ho : o.ok) (ho' : o'.ok) (hd : d.length ≤ 140737488351232) (hd' : d'.length ≤ 140737488351232) : oneB o d = oneB o' d' ↔ (o = o' ∧ d = d') := by
  constructor
  · intro h
    have h1 := rdO_one o d [] ho hd
    have h2 := rdO_one o' d' [] ho' hd'
    rw [h, h2] at h1
    injection h1 with h1
    injection h1 with h3 h4
    injection h4 with h4 _
    refine ⟨?_, h4.symm⟩
    obtain ⟨k, t, a, b, v, n, m⟩ := o
    obtain ⟨k', t', a', b', v', n', m'⟩ := o'
    simp only [Op7.l, List.cons.injEq, and_true] at h3
    simp only [Op7.mk.injEq]
    exact ⟨h3.1.symm, h3.2.1.symm, h3.2.2.1.symm, h3.2.2.2.1.symm, h3.2.2.2.2.1.symm, h3.2.2.2.2.2.1.symm, h3.2.2.2.2.2.2.symm⟩
  · rintro ⟨rfl, rfl⟩
    rfl
theorem od_set (l : List OV) (k : Nat) (p q : OV) (hk : l[k]? = some q) : odOf l = odOf (l.set k p) ↔ (q.o = p.o ∧ q.d = p.d) := by
  have hkl : k < l.length := (List.getElem?_eq_some_iff.1 hk).1
  constructor
  · intro h
    have h1 := congrArg (fun y => y[k]?) h
    simp only [odOf, List.getElem?_map, hk, List.getElem?_set_self hkl, Option.map_some] at h1
    injection h1 with h1
    injection h1 with h2 h3
    exact ⟨h2, h3⟩
  · rintro ⟨h1, h2⟩
    refine List.ext_getElem? fun i => ?_
    simp only [odOf, List.getElem?_map]
    by_cases hik : k = i
    · subst hik
      rw [hk, List.getElem?_set_self hkl]
      simp [h1, h2]
    · rw [List.getElem?_set_ne hik]
end Go.Proofs.Ytahggokeelgjdaa
