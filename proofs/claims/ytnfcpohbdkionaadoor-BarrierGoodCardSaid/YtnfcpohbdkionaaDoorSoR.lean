/- SoQ, SoR in one text: a claim holds at most 60 files. -/
import Derived.Test.YtnfcpohbdkionaaDoorSoN
namespace Go.Proofs.YtnfcpohbdkionaaDoor
set_option maxRecDepth 100000
open Go.RowKit Go.ChangeMaps Go.MapKept
open Go.Maps (Keyed)
set_option linter.unusedVariables false
set_option linter.unusedSimpArgs false

theorem map_erase {α β : Type} (f : α → β) : ∀ (l : List α) (j : Nat), (l.eraseIdx j).map f = (l.map f).eraseIdx j
  | [], j => by simp
  | x :: l, 0 => by simp
  | x :: l, j + 1 => by simp [map_erase f l j]
theorem erase_mem {l : List (Nat × Nat)} (hnd : (l.map Prod.fst).Nodup) : ∀ {j p q : Nat}, l[j]? = some (p, q) → ∀ pq, pq ∈ l.eraseIdx j ↔ (pq ∈ l ∧ pq.1 ≠ p) := by
  induction l with
  | nil => intro j p q h; simp at h
  | cons x l ih =>
    intro j p q h pq
    rw [List.map_cons, List.nodup_cons] at hnd
    cases j with
    | zero =>
      simp at h
      subst h
      simp only [List.eraseIdx_zero, List.tail_cons]
      constructor
      · intro hm
        exact ⟨List.mem_cons_of_mem _ hm, fun e => hnd.1 (List.mem_map.2 ⟨pq, hm, e⟩)⟩
      · intro ⟨hm, hne⟩
        rcases List.mem_cons.1 hm with rfl | hm
        · exact absurd rfl hne
        · exact hm
    | succ j =>
      simp at h
      have h1 := ih hnd.2 h pq
      simp only [List.eraseIdx_cons_succ, List.mem_cons, h1]
      constructor
      · rintro (rfl | ⟨hm, hne⟩)
        · exact ⟨.inl rfl, fun e => hnd.1 (List.mem_map.2 ⟨(p, q), List.mem_of_getElem? h, e.symm⟩)⟩
        · exact ⟨.inr hm, hne⟩
      · rintro ⟨rfl | hm, hne⟩
        · exact .inl rfl
        · exact .inr ⟨hm, hne⟩
/-- A deletion of a page, kept or not. -/
theorem delP (W : World) (b : Nat) (l : List (Nat × Nat)) (h : MP b W l) (hbz : b < W.heap.size) (p : Nat) (hp : p < 1099511627776) :
    ∃ W' l', (∀ ty, (Builtin.delete_ #[84, 117] ty #[.map (some b), kv p]).run Tryd.prog W = .ok (.tuple #[]) W') ∧ MP b W' l' ∧ W'.heap.size = W.heap.size ∧ OB b W W' ∧ l'.Sublist l ∧ ∀ pq, pq ∈ l' ↔ (pq ∈ l ∧ pq.1 ≠ p) := by
  obtain ⟨es, clock, hb, h1, h2, h3⟩ := h
  obtain ⟨lt, hl⟩ := keyP p hp
  have hes : ∀ e ∈ es.toList, ∃ l, keyOf Tryd.prog 117 e.key = some l := by
    intro e he
    obtain ⟨pq, hpq, e1, _⟩ := MP.at_ h1 he
    rw [e1]
    exact keyP pq.1 (h3 pq hpq)
  have hob : ∀ o, OB b W (setBlock W b o) := fun o => ⟨by rw [size_block]; exact Nat.le_refl _, fun i _ hi => block_other hi, fun L hL hW => below_block ((Below.refl _ _).mono hW) hL⟩
  rcases kP.find W hl es.toList hes with ⟨f1, f2⟩ | ⟨j, e0, f1, f2, f3⟩
  · refine ⟨setBlock W b (.map es clock), l, fun ty => ?_, ⟨_, _, block_same hbz, h1, h2, h3⟩, size_block, hob _, List.Sublist.refl _, fun pq => ⟨fun hpq => ⟨hpq, fun e => ?_⟩, fun h => h.1⟩⟩
    · simp [Builtin.delete_, run_underlying Tryd.underlying84, MapKept.run_getObj_map hb, kP.check W _ hl, f1, MapKept.run_setObj_map _ hb, Result.andThen, setBlock]
    · obtain ⟨e1, he, e2, _⟩ := MP.back h1 hpq
      rw [e] at e2
      exact f2 e1 he e2
  · have hm : (l.map (fun pq => (kv pq.1, sl pq.2)))[j]? = some (e0.key, e0.val) := by rw [← h1, List.getElem?_map, f2]; rfl
    rw [List.getElem?_map] at hm
    obtain ⟨⟨p', q'⟩, hj, he⟩ : ∃ pq, l[j]? = some pq ∧ (kv pq.1, sl pq.2) = (e0.key, e0.val) := by
      cases hlj : l[j]? with
      | none => rw [hlj] at hm; cases hm
      | some pq => rw [hlj] at hm; injection hm with hm; exact ⟨pq, rfl, hm⟩
    injection he with he _
    have hpp : p' = p := kv_inj (he.trans f3)
    subst hpp
    have hsub : (l.eraseIdx j).Sublist l := List.eraseIdx_sublist ..
    refine ⟨setBlock W b (.map (es.eraseIdxIfInBounds j) clock), l.eraseIdx j, fun ty => ?_, ⟨_, _, block_same hbz, ?_, h2.sublist (hsub.map _), fun pq hpq => h3 pq (hsub.subset hpq)⟩, size_block, hob _, hsub, erase_mem h2 hj⟩
    · simp [Builtin.delete_, run_underlying Tryd.underlying84, MapKept.run_getObj_map hb, kP.check W _ hl, f1, MapKept.run_setObj_map _ hb, Result.andThen, setBlock]
    · rw [map_erase, ← h1, ← map_erase]
      congr 1
      first | simp | (rw [Array.toList_eraseIdxIfInBounds])
/-- A store whose page P was dropped. -/
def drop (c : Nat → Nat) (P : Nat) : Nat → Nat := fun x => if x / 256 = P then 0 else c x
end Go.Proofs.YtnfcpohbdkionaaDoor
namespace Go.Proofs.YtnfcpohbdkionaaDoor
set_option maxRecDepth 100000
open Go.RowKit Go.ChangeMaps Go.MapKept
open Go.Maps (Keyed)
set_option linter.unusedVariables false
set_option linter.unusedSimpArgs false

/-- The pages l' are of l or new, and what is none of the store's own stands. -/
def FR (b : Nat) (l : List (Nat × Nat)) (W w' : World) (l' : List (Nat × Nat)) : Prop :=
  (∀ pq ∈ l', pq ∈ l ∨ W.heap.size ≤ pq.2) ∧ ∀ i, i < W.heap.size → i ≠ b → (∀ pq ∈ l, pq.2 ≠ i) → w'.heap[i]? = W.heap[i]?
theorem FR.before {b : Nat} {l : List (Nat × Nat)} {W w w' : World} {l' : List (Nat × Nat)} (hb : Below W.heap.size W w) (h : FR b l w w' l') : FR b l W w' l' :=
  ⟨fun pq hpq => (h.1 pq hpq).imp id (fun h => Nat.le_trans hb.size h), fun i hi hib hil => (h.2 i (Nat.lt_of_lt_of_le hi hb.size) hib hil).trans (hb.block i hi)⟩
end Go.Proofs.YtnfcpohbdkionaaDoor

