/- SoQ, SoR in one text: a claim holds at most 60 files. -/
import Derived.Test.YtljjcomedjdpaaaDoorSoN
namespace Go.Proofs.YtljjcomedjdpaaaDoor
set_option maxRecDepth 100000
open Go.RowKit Go.ChangeMaps Go.MapKept
open Go.Maps (Keyed)
set_option linter.unusedVariables false
set_option linter.unusedSimpArgs false

theorem map_erase {α β : Type} (f : α → β) : ∀ (l : List α) (j : Nat), (l.eraseIdx j).map f = (l.map f).eraseIdx j
  | [], j => by simp
  | x :: l, 0 => by simp
  | x :: l, j + 1 => by simp [map_erase f l j]
theorem erase_mem {l : List (Nat × Nat)} (hnd : (l.map Prod.fst).Nodup) : ∀ {j p q : Nat}, l[j]? = some (p, q) → ∀ pq, pq ∈ l.eraseIdx j ↔ (pq ∈ l ∧ pq.1 ≠ p) := by
  induction l with
  | nil => intro j p q h; simp at h
  | cons x l ih =>
    intro j p q h pq
    rw [List.map_cons, List.nodup_cons] at hnd
    cases j with
    | zero =>
      simp at h
      subst h
      simp only [List.eraseIdx_zero, List.tail_cons]
      constructor
      · intro hm
        exact ⟨List.mem_cons_of_mem _ hm, fun e => hnd.1 (List.mem_map.2 ⟨pq, hm, e⟩)⟩
      · intro ⟨hm, hne⟩
        rcases List.mem_cons.1 hm with rfl | hm
        · exact absurd rfl hne
        · exact hm
    | succ j =>
      simp at h
      have h1 := ih hnd.2 h pq
      simp only [List.eraseIdx_cons_succ, List.mem_cons, h1]
      constructor
      · rintro (rfl | ⟨hm, hne⟩)
        · exact ⟨.inl rfl, fun e => hnd.1 (List.mem_map.2 ⟨(p, q), List.mem_of_getElem? h, e.symm⟩)⟩
        · exact ⟨.inr hm, hne⟩
      · rintro ⟨rfl | hm, hne⟩
        · exact .inl rfl
        · exact .inr ⟨hm, hne⟩
/-- A deletion of a page, kept or not. -/
theorem delP (W : World) (b : Nat) (l : List (Nat × Nat)) (h : MP b W l) (hbz : b < W.heap.size) (p : Nat) (hp : p < 1099511627776) :
    ∃ W' l', (∀ ty, (Builtin.delete_ #[114, 131] ty #[.map (some b), kv p]).run Tryd.prog W = .ok (.tuple #[]) W') ∧ MP b W' l' ∧ W'.heap.size = W.heap.size ∧ OB b W W' ∧ l'.Sublist l ∧ ∀ pq, pq ∈ l' ↔ (pq ∈ l ∧ pq.1 ≠ p) := by
  obtain ⟨es, clock, hb, h1, h2, h3⟩ := h
  obtain ⟨lt, hl⟩ := keyP p hp
  have hes : ∀ e ∈ es.toList, ∃ l, keyOf Tryd.prog 131 e.key = some l := by
    intro e he
    obtain ⟨pq, hpq, e1, _⟩ := MP.at_ h1 he
    rw [e1]
    exact keyP pq.1 (h3 pq hpq)
  have hob : ∀ o, OB b W (setBlock W b o) := fun o => ⟨by rw [size_block]; exact Nat.le_refl _, fun i _ hi => block_other hi, fun L hL hW => below_block ((Below.refl _ _).mono hW) hL⟩
  rcases kP.find W hl es.toList hes with ⟨f1, f2⟩ | ⟨j, e0, f1, f2, f3⟩
  · refine ⟨setBlock W b (.map es clock), l, fun ty => ?_, ⟨_, _, block_same hbz, h1, h2, h3⟩, size_block, hob _, List.Sublist.refl _, fun pq => ⟨fun hpq => ⟨hpq, fun e => ?_⟩, fun h => h.1⟩⟩
    · simp [Builtin.delete_, run_underlying Tryd.underlying114, MapKept.run_getObj_map hb, kP.check W _ hl, f1, MapKept.run_setObj_map _ hb, Result.andThen, setBlock]
    · obtain ⟨e1, he, e2, _⟩ := MP.back h1 hpq
      rw [e] at e2
      exact f2 e1 he e2
  · have hm : (l.map (fun pq => (kv pq.1, sl pq.2)))[j]? = some (e0.key, e0.val) := by rw [← h1, List.getElem?_map, f2]; rfl
    rw [List.getElem?_map] at hm
    obtain ⟨⟨p', q'⟩, hj, he⟩ : ∃ pq, l[j]? = some pq ∧ (kv pq.1, sl pq.2) = (e0.key, e0.val) := by
      cases hlj : l[j]? with
      | none => rw [hlj] at hm; cases hm
      | some pq => rw [hlj] at hm; injection hm with hm; exact ⟨pq, rfl, hm⟩
    injection he with he _
    have hpp : p' = p := kv_inj (he.trans f3)
    subst hpp
    have hsub : (l.eraseIdx j).Sublist l := List.eraseIdx_sublist ..
    refine ⟨setBlock W b (.map (es.eraseIdxIfInBounds j) clock), l.eraseIdx j, fun ty => ?_, ⟨_, _, block_same hbz, ?_, h2.sublist (hsub.map _), fun pq hpq => h3 pq (hsub.subset hpq)⟩, size_block, hob _, hsub, erase_mem h2 hj⟩
    · simp [Builtin.delete_, run_underlying Tryd.underlying114, MapKept.run_getObj_map hb, kP.check W _ hl, f1, MapKept.run_setObj_map _ hb, Result.andThen, setBlock]
    · rw [map_erase, ← h1, ← map_erase]
      congr 1
      first | simp | (rw [Array.toList_eraseIdxIfInBounds])
/-- A store whose page P was dropped. -/
def drop (c : Nat → Nat) (P : Nat) : Nat → Nat := fun x => if x / 256 = P then 0 else c x
end Go.Proofs.YtljjcomedjdpaaaDoor
namespace Go.Proofs.YtljjcomedjdpaaaDoor
set_option maxRecDepth 100000
open Go.RowKit Go.ChangeMaps Go.MapKept
open Go.Maps (Keyed)
set_option linter.unusedVariables false
set_option linter.unusedSimpArgs false

/-- The pages l' are of l or new, and what is none of the store's own stands. -/
def FR (b : Nat) (l : List (Nat × Nat)) (W w' : World) (l' : List (Nat × Nat)) : Prop :=
  (∀ pq ∈ l', pq ∈ l ∨ W.heap.size ≤ pq.2) ∧ ∀ i, i < W.heap.size → i ≠ b → (∀ pq ∈ l, pq.2 ≠ i) → w'.heap[i]? = W.heap[i]?
set_option maxRecDepth 100000 in
set_option maxHeartbeats 3200000 in
theorem sfillL (B g b : Nat) (W : World) (l : List (Nat × Nat)) (c : Nat → Nat) (h : STL B g b W l c) (a n x : Nat) (hn : 0 < n) (ha : a + n ≤ 262144) :
    Calls Tryd.prog 72 #[.pointer (some ⟨g, 0, none⟩), .int .i64 (a : Int), .int .i64 (n : Int), .int .u8 (x : Int)] W fun e w' => (e = .returned (.bool true) ∧ ∃ l', STL B g b w' l' (over c a n (fun _ => x)) ∧ FR b l W w' l') ∧ W.heap.size ≤ w'.heap.size ∧ Below B W w' := by
  have hBW : B ≤ W.heap.size := by have := h.2.1.1; have := h.2.1.2.2.2.1; omega
  have hbz := h.2.1.2.2.2.2
  have hlW : ∀ pq ∈ l, pq.2 < W.heap.size := fun pq hpq => (h.2.2.2.1 pq hpq).2.2.2.1
  have hmay : (decide (some (⟨g, 0, none⟩ : Addr) ≠ none) && mayB (a : Int) (n : Int)) = true := by
    have : mayB (a : Int) (n : Int) = true := mayB_iff.2 (by omega)
    simp [this]
  have HM := Lib.hid hmay
  have H := Lib.hid h
  have HLW := Lib.hid hlW
  clear h hmay hlW
  go_enter Tryd.func72, Tryd.ntmps72
  go_wp2_with fail
  with_reducible refine Calls.mono (smay _ _ _ _) ?_
  rintro e w1 ⟨rfl, hb⟩
  rw [HM.out]
  obtain ⟨x3, hx3⟩ : ∃ x3, W.heap.size = x3 := ⟨_, rfl⟩
  have hz1 : x3 + 2 ≤ w1.heap.size := by have := hb.size; simp at this; omega
  have hc3 : w1.cell? ⟨x3, 0, none⟩ = some (.pointer (some ⟨g, 0, none⟩)) := by
    rw [← hx3]
    refine (hb.cell (p := ⟨W.heap.size, 0, none⟩) (by simp <;> omega)).trans ?_
    simp
  have hc5 : w1.cell? ⟨x3 + 1, 0, none⟩ = some (.int .u8 (x : Int)) := by
    rw [← hx3]
    refine (hb.cell (p := ⟨W.heap.size + 1, 0, none⟩) (by simp <;> omega)).trans ?_
    simp
  have hB1 : Below W.heap.size W w1 := thn (alc (alc0 _ _) _) hb
  have HX3 := Lib.hid hx3
  try rw [hx3]
  clear hb hx3
  go_wp2_with fail
  have key := eachF (.pointer (some ⟨x3, 0, none⟩)) (.pointer (some ⟨x3 + 1, 0, none⟩)) a n hn ha w1 (fun at_ w => (∃ l', STL B g b w l' (over c a (at_ - a) (fun _ => x)) ∧ ∀ pq ∈ l', pq ∈ l ∨ w1.heap.size < pq.2) ∧ w.cell? ⟨x3, 0, none⟩ = some (.pointer (some ⟨g, 0, none⟩)) ∧ w.cell? ⟨x3 + 1, 0, none⟩ = some (.int .u8 (x : Int)) ∧ Below B W w ∧ w1.heap.size ≤ w.heap.size ∧ (∀ i, i < W.heap.size → i ≠ b → (∀ pq ∈ l, pq.2 ≠ i) → w.heap[i]? = W.heap[i]?))
    (fun at_ w w' ⟨⟨l', k0, k1⟩, k2, k3, k5, k6, k7⟩ hb => ⟨⟨l', k0.below hb, k1⟩, (hb.cell (p := ⟨x3, 0, none⟩) (by show x3 < w.heap.size; omega)).trans k2, (hb.cell (p := ⟨x3 + 1, 0, none⟩) (by show x3 + 1 < w.heap.size; omega)).trans k3, k5.trans (hb.mono (Nat.le_trans hBW (Nat.le_trans hB1.size k6))), Nat.le_trans k6 hb.size, fun i hi hib hil => (hb.block i (by have := hB1.size; omega)).trans (k7 i hi hib hil)⟩)
    (fun at_ w ha1 ha2 hw ⟨⟨l', k0, k1⟩, k2, k3, k5, k6, k7⟩ => by
      have hx3W := HX3.out
      obtain ⟨R, hR⟩ : ∃ R, at_ % 256 = R := ⟨_, rfl⟩
      obtain ⟨T, hT⟩ : ∃ T, min 256 (R + (a + n - at_)) = T := ⟨_, rfl⟩
      rw [hR, hT]
      have hfree : ∀ i, i < w1.heap.size + 1 → W.heap.size ≤ i → ∀ pq ∈ l', pq.2 ≠ i := fun i hi hWi pq hpq => by
        rcases k1 pq hpq with h | h
        · have := HLW.out pq h; omega
        · omega
      refine (fillC B g b x3 (x3 + 1) x (at_ / 256) R T _ w l' _ k0 k2 k3 (by omega) (by omega) (hfree (x3 + 1) (by omega) (by omega)) (by omega) (by omega) (by omega)).mono ?_
      rintro e w' ⟨rfl, ⟨l2, hs2, hl2⟩, hsz, hfr, hbl⟩
      have e1 : at_ / 256 * 256 + R = at_ := by omega
      have e2 := over_over c (fun _ => x) a at_ (T - R) ha1
      simp only [] at e2
      rw [e1, e2] at hs2
      refine ⟨rfl, ⟨⟨l2, hs2, fun pq hpq => ?_⟩, (World.cell?_of_block (hfr x3 (by omega) (by omega) (hfree x3 (by omega) (by omega)))).trans k2, (World.cell?_of_block (hfr (x3 + 1) (by omega) (by omega) (hfree (x3 + 1) (by omega) (by omega)))).trans k3, k5.trans hbl, Nat.le_trans k6 hsz, fun i hi hib hil => (hfr i (by have := hB1.size; omega) hib (fun pq hpq => by
        rcases k1 pq hpq with h | h
        · exact hil pq h
        · have := hB1.size; omega)).trans (k7 i hi hib hil)⟩, hsz, hfr _ hw (by have := hB1.size; omega) (hfree _ (by omega) hB1.size)⟩
      rcases hl2 pq hpq with h | h
      · exact k1 pq h
      · exact .inr (by omega))
    (fun w5 hb => ⟨⟨l, by rw [Nat.sub_self, over_none]; exact (H.out.below hB1).below hb, fun pq h => .inl h⟩, (hb.cell (p := ⟨x3, 0, none⟩) (by show x3 < w1.heap.size; omega)).trans hc3, (hb.cell (p := ⟨x3 + 1, 0, none⟩) (by show x3 + 1 < w1.heap.size; omega)).trans hc5, (hB1.mono hBW).trans (hb.mono (Nat.le_trans hBW hB1.size)), hb.size, fun i hi _ _ => (hb.block i (by have := hB1.size; omega)).trans (hB1.block i hi)⟩)
  have KEY := Lib.hid key
  have HB1 := Lib.hid hB1.size
  clear key hB1 hc3 hc5 hz1 hbz hBW
  with_reducible refine Calls.mono KEY.out ?_
  rintro e w6 ⟨rfl, ⟨l6, k0, kl⟩, _, _, k5, k6, k7⟩
  have HS6 : Hid (∃ l', STL B g b w6 l' (over c a n (fun _ => x)) ∧ FR b l W w6 l') := Lib.hid ⟨l6, by rwa [Nat.add_sub_cancel_left] at k0, fun pq hpq => (kl pq hpq).imp id (fun h => by have := HB1.out; omega), k7⟩
  have HB6 := Lib.hid k5
  have HZ6 : Hid (W.heap.size ≤ w6.heap.size) := Lib.hid (Nat.le_trans HB1.out k6)
  clear k0 k5 k6 k7 kl
  go_wp2
  go_ret
  exact ⟨⟨rfl, HS6.out⟩, HZ6.out, HB6.out⟩
theorem FR.before {b : Nat} {l : List (Nat × Nat)} {W w w' : World} {l' : List (Nat × Nat)} (hb : Below W.heap.size W w) (h : FR b l w w' l') : FR b l W w' l' :=
  ⟨fun pq hpq => (h.1 pq hpq).imp id (fun h => Nat.le_trans hb.size h), fun i hi hib hil => (h.2 i (Nat.lt_of_lt_of_le hi hb.size) hib hil).trans (hb.block i hi)⟩
end Go.Proofs.YtljjcomedjdpaaaDoor

