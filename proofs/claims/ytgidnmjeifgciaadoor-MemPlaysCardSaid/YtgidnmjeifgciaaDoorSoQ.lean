/- The store: Drop. -/
import Derived.Test.YtgidnmjeifgciaaDoorSoN
namespace Go.Proofs.YtgidnmjeifgciaaDoor
set_option maxRecDepth 100000
open Go.RowKit Go.ChangeMaps Go.MapKept
open Go.Maps (Keyed)
set_option linter.unusedVariables false
set_option linter.unusedSimpArgs false

theorem map_erase {α β : Type} (f : α → β) : ∀ (l : List α) (j : Nat), (l.eraseIdx j).map f = (l.map f).eraseIdx j
  | [], j => by simp
  | x :: l, 0 => by simp
  | x :: l, j + 1 => by simp [map_erase f l j]
theorem erase_mem {l : List (Nat × Nat)} (hnd : (l.map Prod.fst).Nodup) : ∀ {j p q : Nat}, l[j]? = some (p, q) → ∀ pq, pq ∈ l.eraseIdx j ↔ (pq ∈ l ∧ pq.1 ≠ p) := by
  induction l with
  | nil => intro j p q h; simp at h
  | cons x l ih =>
    intro j p q h pq
    rw [List.map_cons, List.nodup_cons] at hnd
    cases j with
    | zero =>
      simp at h
      subst h
      simp only [List.eraseIdx_zero, List.tail_cons]
      constructor
      · intro hm
        exact ⟨List.mem_cons_of_mem _ hm, fun e => hnd.1 (List.mem_map.2 ⟨pq, hm, e⟩)⟩
      · intro ⟨hm, hne⟩
        rcases List.mem_cons.1 hm with rfl | hm
        · exact absurd rfl hne
        · exact hm
    | succ j =>
      simp at h
      have h1 := ih hnd.2 h pq
      simp only [List.eraseIdx_cons_succ, List.mem_cons, h1]
      constructor
      · rintro (rfl | ⟨hm, hne⟩)
        · exact ⟨.inl rfl, fun e => hnd.1 (List.mem_map.2 ⟨(p, q), List.mem_of_getElem? h, e.symm⟩)⟩
        · exact ⟨.inr hm, hne⟩
      · rintro ⟨rfl | hm, hne⟩
        · exact .inl rfl
        · exact .inr ⟨hm, hne⟩
/-- A deletion of a page, kept or not. -/
theorem delP (W : World) (b : Nat) (l : List (Nat × Nat)) (h : MP b W l) (hbz : b < W.heap.size) (p : Nat) (hp : p < 1099511627776) :
    ∃ W' l', (∀ ty, (Builtin.delete_ #[147, 164] ty #[.map (some b), kv p]).run Tryd.prog W = .ok (.tuple #[]) W') ∧ MP b W' l' ∧ W'.heap.size = W.heap.size ∧ OB b W W' ∧ l'.Sublist l ∧ ∀ pq, pq ∈ l' ↔ (pq ∈ l ∧ pq.1 ≠ p) := by
  obtain ⟨es, clock, hb, h1, h2, h3⟩ := h
  obtain ⟨lt, hl⟩ := keyP p hp
  have hes : ∀ e ∈ es.toList, ∃ l, keyOf Tryd.prog 164 e.key = some l := by
    intro e he
    obtain ⟨pq, hpq, e1, _⟩ := MP.at_ h1 he
    rw [e1]
    exact keyP pq.1 (h3 pq hpq)
  have hob : ∀ o, OB b W (setBlock W b o) := fun o => ⟨by rw [size_block]; exact Nat.le_refl _, fun i _ hi => block_other hi, fun L hL hW => below_block ((Below.refl _ _).mono hW) hL⟩
  rcases kP.find W hl es.toList hes with ⟨f1, f2⟩ | ⟨j, e0, f1, f2, f3⟩
  · refine ⟨setBlock W b (.map es clock), l, fun ty => ?_, ⟨_, _, block_same hbz, h1, h2, h3⟩, size_block, hob _, List.Sublist.refl _, fun pq => ⟨fun hpq => ⟨hpq, fun e => ?_⟩, fun h => h.1⟩⟩
    · simp [Builtin.delete_, run_underlying Tryd.underlying147, MapKept.run_getObj_map hb, kP.check W _ hl, f1, MapKept.run_setObj_map _ hb, Result.andThen, setBlock]
    · obtain ⟨e1, he, e2, _⟩ := MP.back h1 hpq
      rw [e] at e2
      exact f2 e1 he e2
  · have hm : (l.map (fun pq => (kv pq.1, sl pq.2)))[j]? = some (e0.key, e0.val) := by rw [← h1, List.getElem?_map, f2]; rfl
    rw [List.getElem?_map] at hm
    obtain ⟨⟨p', q'⟩, hj, he⟩ : ∃ pq, l[j]? = some pq ∧ (kv pq.1, sl pq.2) = (e0.key, e0.val) := by
      cases hlj : l[j]? with
      | none => rw [hlj] at hm; cases hm
      | some pq => rw [hlj] at hm; injection hm with hm; exact ⟨pq, rfl, hm⟩
    injection he with he _
    have hpp : p' = p := kv_inj (he.trans f3)
    subst hpp
    have hsub : (l.eraseIdx j).Sublist l := List.eraseIdx_sublist ..
    refine ⟨setBlock W b (.map (es.eraseIdxIfInBounds j) clock), l.eraseIdx j, fun ty => ?_, ⟨_, _, block_same hbz, ?_, h2.sublist (hsub.map _), fun pq hpq => h3 pq (hsub.subset hpq)⟩, size_block, hob _, hsub, erase_mem h2 hj⟩
    · simp [Builtin.delete_, run_underlying Tryd.underlying147, MapKept.run_getObj_map hb, kP.check W _ hl, f1, MapKept.run_setObj_map _ hb, Result.andThen, setBlock]
    · rw [map_erase, ← h1, ← map_erase]
      congr 1
      first | simp | (rw [Array.toList_eraseIdxIfInBounds])
/-- A store whose page P was dropped. -/
def drop (c : Nat → Nat) (P : Nat) : Nat → Nat := fun x => if x / 256 = P then 0 else c x
set_option maxHeartbeats 3200000 in
theorem sdrop_yes (B g : Nat) (W : World) (c : Nat → Nat) (h : ST B g W c) (P : Nat) (hP : P < 1099511627776) :
    Calls Tryd.prog 106 #[.pointer (some ⟨g, 0, none⟩), .int .i64 (P : Int)] W fun e w' => (e = .returned (.tuple #[]) ∧ ST B g w' (drop c P)) ∧ W.heap.size ≤ w'.heap.size ∧ Below B W w' := by
  obtain ⟨b, l, h⟩ := h
  have hBW : B ≤ W.heap.size := by have := h.2.1.1; have := h.2.1.2.2.2.1; omega
  have hc0 := h.1
  obtain ⟨w5, l', hdel, hM, hsz, hob, hsub, hmem⟩ := delP W b l h.2.2.1 h.2.1.2.2.2.2 P hP
  have hST : STL B g b w5 l' (drop c P) := by
    obtain ⟨k1, ⟨k2, k3, k4, k5, k6⟩, k7, k8, k9, k10⟩ := h
    refine ⟨(World.cell?_of_block (hob.2.1 g k5 k4)).trans k1, ⟨k2, k3, k4, by omega, by omega⟩, hM, fun pq hpq => ?_, k9.sublist (hsub.map _), fun x hx => ?_⟩
    · obtain ⟨hpl, hne⟩ := (hmem pq).1 hpq
      obtain ⟨m1, m2, m3, m4⟩ := k8 pq hpl
      have m5 := m4.keep (W' := w5) (by omega) (hob.2.1 pq.2 m4.1 m2)
      refine ⟨m1, m2, m3, m5.1, fun j hj => ?_, m5.2.2⟩
      rw [m5.2.1 j hj]
      simp only [drop]
      rw [if_neg (by omega)]
    · simp only [drop]
      by_cases e : x / 256 = P
      · rw [if_pos e]
      · rw [if_neg e]
        exact k10 x (fun q hq => hx q ((hmem _).2 ⟨hq, e⟩))
  have HF : Hid (ST B g w5 (drop c P) ∧ W.heap.size ≤ w5.heap.size ∧ Below B W w5) := Lib.hid ⟨⟨b, l', hST⟩, by omega, hob.2.2 B h.2.1.2.1 hBW⟩
  have hdel2 : ∀ ty, (Builtin.delete_ #[147, 164] ty #[.map (some b), .agg #[.int .i64 (P : Int)]]).run Tryd.prog W = .ok (.tuple #[]) w5 := hdel
  clear h hdel hM hsz hob hsub hmem hST hBW
  go_enter Tryd.func106, Tryd.ntmps106
  go_wp2
  exact bodyPost_end (v := .tuple #[]) (by simp [results, Tryd.results106, go_sem]) rfl ⟨⟨rfl, HF.out.1⟩, HF.out.2⟩
end Go.Proofs.YtgidnmjeifgciaaDoor
