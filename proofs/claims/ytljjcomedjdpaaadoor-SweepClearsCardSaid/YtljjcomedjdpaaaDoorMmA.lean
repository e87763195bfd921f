/- Memory: what is kept in granules: a map of slices of 16 bytes; a clone of bytes. -/
import Derived.Test.YtljjcomedjdpaaaDoorSoR
import Derived.Laws.OwnMore
import Derived.Lib.SliceRun
import Derived.Maps.OwnOps
namespace Go.Proofs.YtljjcomedjdpaaaDoor
set_option maxRecDepth 100000
open Go.RowKit Go.ChangeMaps Go.MapKept
open Go.Maps (Keyed)
set_option linter.unusedVariables false
set_option linter.unusedSimpArgs false

theorem kI : Keyed Tryd.prog 3 := Go.Maps.int_keyed Tryd.underlying3
def kn (p : Nat) : Value := .int .i64 (p : Int)
/-- An entry: of which granule; in which block; of what capacity. -/
def ks (e : Nat × Nat × Nat) : Value := .slice (some ⟨e.2.1, 0, none⟩) 16 e.2.2
theorem keyI (p : Nat) (hp : p < 1099511627776) : ∃ l, keyOf Tryd.prog 3 (kn p) = some l :=
  ⟨_, Go.Maps.keyOf_int_mk Tryd.underlying3 (by
    simp [Lit.wf, IntKind.min, IntKind.max, IntKind.signed, IntKind.bits]; omega)⟩
def KM (b : Nat) (W : World) (l : List (Nat × Nat × Nat)) : Prop :=
  ∃ es clock, W.heap[b]? = some (.map es clock) ∧ es.toList.map (fun e => (e.key, e.val)) = l.map (fun e => (kn e.1, ks e)) ∧ (l.map Prod.fst).Nodup ∧ ∀ e ∈ l, e.1 < 1099511627776
theorem KM.keep {b : Nat} {W W' : World} {l : List (Nat × Nat × Nat)} (h : KM b W l) (e : W'.heap[b]? = W.heap[b]?) : KM b W' l := by
  obtain ⟨es, clock, hb, h1, h2, h3⟩ := h
  exact ⟨es, clock, e.trans hb, h1, h2, h3⟩
theorem kn_inj {p p' : Nat} (h : kn p = kn p') : p = p' := by
  simp only [kn, Value.int.injEq, true_and] at h
  omega
theorem KM.at_ {es : Array MapEntry} {l : List (Nat × Nat × Nat)} (h : es.toList.map (fun e => (e.key, e.val)) = l.map (fun e => (kn e.1, ks e))) {e : MapEntry} (he : e ∈ es.toList) : ∃ x ∈ l, e.key = kn x.1 ∧ e.val = ks x := by
  have h1 : (e.key, e.val) ∈ es.toList.map (fun e => (e.key, e.val)) := List.mem_map.2 ⟨e, he, rfl⟩
  rw [h] at h1
  obtain ⟨pq, hpq, h2⟩ := List.mem_map.1 h1
  injection h2 with h2 h3
  exact ⟨pq, hpq, h2.symm, h3.symm⟩
theorem KM.back {es : Array MapEntry} {l : List (Nat × Nat × Nat)} (h : es.toList.map (fun e => (e.key, e.val)) = l.map (fun e => (kn e.1, ks e))) {x : Nat × Nat × Nat} (hpq : x ∈ l) : ∃ e ∈ es.toList, e.key = kn x.1 ∧ e.val = ks x := by
  have h1 : (kn x.1, ks x) ∈ l.map (fun e => (kn e.1, ks e)) := List.mem_map.2 ⟨x, hpq, rfl⟩
  rw [← h] at h1
  obtain ⟨e, he, h2⟩ := List.mem_map.1 h1
  injection h2 with h2 h3
  exact ⟨e, he, h2, h3⟩
theorem KM.keys {es : Array MapEntry} {l : List (Nat × Nat × Nat)} (h1 : es.toList.map (fun e => (e.key, e.val)) = l.map (fun e => (kn e.1, ks e))) (h3 : ∀ e ∈ l, e.1 < 1099511627776) : ∀ e ∈ es.toList, ∃ l, keyOf Tryd.prog 3 e.key = some l := by
  intro e he
  obtain ⟨x, hx, e1, _⟩ := KM.at_ h1 he
  rw [e1]
  exact keyI x.1 (h3 x hx)
/-- A look at a granule in which something is kept. -/
theorem lookK (W : World) (b : Nat) (l : List (Nat × Nat × Nat)) (h : KM b W l) (x : Nat × Nat × Nat) (hx : x ∈ l) :
    (Instr.lookup 76 (.map (some b)) (kn x.1) false).run Tryd.prog W = .ok (ks x) W := by
  obtain ⟨es, clock, hb, h1, h2, h3⟩ := h
  obtain ⟨lt, hl⟩ := keyI x.1 (h3 x hx)
  rcases kI.find W hl es.toList (KM.keys h1 h3) with ⟨f1, f2⟩ | ⟨j, e0, f1, f2, f3⟩
  · obtain ⟨e, he, e1, _⟩ := KM.back h1 hx
    exact absurd e1 (f2 e he)
  · obtain ⟨y, hy, e1, e2⟩ := KM.at_ h1 (List.mem_of_getElem? f2)
    have hpp : y.1 = x.1 := kn_inj (e1.symm.trans f3)
    obtain rfl : y = x := nodup_inj h2 hy hx hpp
    rw [← show e0.val = ks y from e2]
    simp [Instr.lookup, run_underlying Tryd.underlying76, MapKept.run_getObj_map hb, kI.check W _ hl, f1, Result.andThen]
/-- An insertion in a granule in which nothing is kept. -/
theorem insK (W : World) (b : Nat) (l : List (Nat × Nat × Nat)) (h : KM b W l) (hbz : b < W.heap.size) (x : Nat × Nat × Nat) (hp : x.1 < 1099511627776) (hno : ∀ y ∈ l, y.1 ≠ x.1) :
    ∃ W', (Instr.mapUpdate 76 (.map (some b)) (kn x.1) (ks x)).run Tryd.prog W = .ok () W' ∧ KM b W' (l ++ [x]) ∧ W'.heap.size = W.heap.size ∧ OB b W W' := by
  obtain ⟨es, clock, hb, h1, h2, h3⟩ := h
  obtain ⟨lt, hl⟩ := keyI x.1 hp
  rcases kI.find W hl es.toList (KM.keys h1 h3) with ⟨f1, f2⟩ | ⟨j, e0, f1, f2, f3⟩
  · refine ⟨setBlock W b (.map (es.push ⟨kn x.1, ks x, clock⟩) (clock + 1)), ?_, ⟨_, _, block_same hbz, ?_, ?_, ?_⟩, size_block, ?_⟩
    · simp [Instr.mapUpdate, run_underlying Tryd.underlying76, MapKept.run_getObj_map hb, kI.check W false hl, f1, MapKept.run_setObj_map _ hb, Result.andThen, setBlock]
    · simp [h1]
    · rw [List.map_append, List.nodup_append]
      refine ⟨h2, by simp, ?_⟩
      intro a ha c hc
      obtain ⟨pq, hpq, rfl⟩ := List.mem_map.1 ha
      simp at hc
      subst hc
      intro e
      exact hno pq hpq e
    · intro pq hpq
      rcases List.mem_append.1 hpq with h | h
      · exact h3 pq h
      · simp at h; subst h; exact hp
    · refine ⟨by rw [size_block]; exact Nat.le_refl _, fun i _ hi => block_other hi, fun L hL hW => below_block ((Below.refl _ _).mono hW) hL⟩
  · obtain ⟨pq, hpq, e1, e2⟩ := KM.at_ h1 (List.mem_of_getElem? f2)
    exact absurd (kn_inj (e1.symm.trans f3)) (hno pq hpq)
theorem erase_memG {β : Type} {l : List (Nat × β)} (hnd : (l.map Prod.fst).Nodup) : ∀ {j : Nat} {x : Nat × β}, l[j]? = some x → ∀ pq, pq ∈ l.eraseIdx j ↔ (pq ∈ l ∧ pq.1 ≠ x.1) := by
  induction l with
  | nil => intro j x h; simp at h
  | cons x l ih =>
    intro j y h pq
    rw [List.map_cons, List.nodup_cons] at hnd
    cases j with
    | zero =>
      simp at h
      subst h
      simp only [List.eraseIdx_zero, List.tail_cons]
      constructor
      · intro hm
        exact ⟨List.mem_cons_of_mem _ hm, fun e => hnd.1 (List.mem_map.2 ⟨pq, hm, e⟩)⟩
      · intro ⟨hm, hne⟩
        rcases List.mem_cons.1 hm with rfl | hm
        · exact absurd rfl hne
        · exact hm
    | succ j =>
      simp at h
      have h1 := ih hnd.2 h pq
      simp only [List.eraseIdx_cons_succ, List.mem_cons, h1]
      constructor
      · rintro (rfl | ⟨hm, hne⟩)
        · exact ⟨.inl rfl, fun e => hnd.1 (List.mem_map.2 ⟨y, List.mem_of_getElem? h, e.symm⟩)⟩
        · exact ⟨.inr hm, hne⟩
      · rintro ⟨rfl | hm, hne⟩
        · exact .inl rfl
        · exact .inr ⟨hm, hne⟩
/-- A deletion, whether something is kept there or not. -/
theorem delK (W : World) (b : Nat) (l : List (Nat × Nat × Nat)) (h : KM b W l) (hbz : b < W.heap.size) (p : Nat) (hp : p < 1099511627776) :
    ∃ W' l', (∀ ty, (Builtin.delete_ #[76, 3] ty #[.map (some b), kn p]).run Tryd.prog W = .ok (.tuple #[]) W') ∧ KM b W' l' ∧ W'.heap.size = W.heap.size ∧ OB b W W' ∧ ∀ x, x ∈ l' ↔ (x ∈ l ∧ x.1 ≠ p) := by
  obtain ⟨es, clock, hb, h1, h2, h3⟩ := h
  obtain ⟨lt, hl⟩ := keyI p hp
  have hob : ∀ o, OB b W (setBlock W b o) := fun o => ⟨by rw [size_block]; exact Nat.le_refl _, fun i _ hi => block_other hi, fun L hL hW => below_block ((Below.refl _ _).mono hW) hL⟩
  rcases kI.find W hl es.toList (KM.keys h1 h3) with ⟨f1, f2⟩ | ⟨j, e0, f1, f2, f3⟩
  · refine ⟨setBlock W b (.map es clock), l, fun ty => ?_, ⟨_, _, block_same hbz, h1, h2, h3⟩, size_block, hob _, fun pq => ⟨fun hpq => ⟨hpq, fun e => ?_⟩, fun h => h.1⟩⟩
    · simp [Builtin.delete_, run_underlying Tryd.underlying76, MapKept.run_getObj_map hb, kI.check W _ hl, f1, MapKept.run_setObj_map _ hb, Result.andThen, setBlock]
    · obtain ⟨e1, he, e2, _⟩ := KM.back h1 hpq
      rw [e] at e2
      exact f2 e1 he e2
  · have hm : (l.map (fun e => (kn e.1, ks e)))[j]? = some (e0.key, e0.val) := by rw [← h1, List.getElem?_map, f2]; rfl
    rw [List.getElem?_map] at hm
    obtain ⟨x, hj, he⟩ : ∃ x, l[j]? = some x ∧ (kn x.1, ks x) = (e0.key, e0.val) := by
      cases hlj : l[j]? with
      | none => rw [hlj] at hm; cases hm
      | some pq => rw [hlj] at hm; injection hm with hm; exact ⟨pq, rfl, hm⟩
    injection he with he _
    have hpp : x.1 = p := kn_inj (he.trans f3)
    subst hpp
    have hsub : (l.eraseIdx j).Sublist l := List.eraseIdx_sublist ..
    refine ⟨setBlock W b (.map (es.eraseIdxIfInBounds j) clock), l.eraseIdx j, fun ty => ?_, ⟨_, _, block_same hbz, ?_, h2.sublist (hsub.map _), fun pq hpq => h3 pq (hsub.subset hpq)⟩, size_block, hob _, erase_memG h2 hj⟩
    · simp [Builtin.delete_, run_underlying Tryd.underlying76, MapKept.run_getObj_map hb, kI.check W _ hl, f1, MapKept.run_setObj_map _ hb, Result.andThen, setBlock]
    · rw [map_erase, ← h1, ← map_erase]
      congr 1
      first | simp | (rw [Array.toList_eraseIdxIfInBounds])

theorem infoU8' : (Tryd.prog.info? 5).map (fun i => (i.zero, i.size, i.bytes)) = some (some (.int .u8 0), 1, 1) := by kernel_rfl
/-- A clone of n bytes. -/
def BClonePost (W : World) (n : Nat) (f : Nat → Nat) (e : Ending) (w' : World) : Prop :=
  ∃ D cap, e = .returned (.slice (some ⟨D, 0, none⟩) n cap) ∧ W.heap.size ≤ D ∧ n ≤ cap ∧ cap ≤ 9223372036854775807 ∧ PGn D n w' f ∧ Below W.heap.size W w'
set_option maxHeartbeats 1600000 in
theorem bclone (W : World) (gw o n cap : Nat) (f : Nat → Nat) (h : ∀ i, i < n → W.cell? ⟨gw, o + i, none⟩ = some (.int .u8 (f i : Int))) (hn : 0 < n) (hl : n ≤ 262144) :
    Calls Tryd.prog 34 #[.slice (some ⟨gw, o, none⟩) n cap] W (BClonePost W n f) := by
  obtain ⟨i0, hi0, hz0, hz1, hz2⟩ := info_parts infoU8'
  have hgw := World.block_lt_of_cell? W _ (h 0 hn)
  have HW := Lib.hid h; clear h
  have hnews : ∀ j u, ((List.range n).map fun i => Value.int .u8 ((f i : Nat) : Int))[j]? = some u → W.cell? ((⟨gw, o, none⟩ : Addr).add j) = some u := by
    intro j u hj
    have hlt : j < n := by
      by_cases h : j < n
      · exact h
      · rw [List.getElem?_eq_none (by simp; omega)] at hj; cases hj
    rw [addp, HW.out j hlt, ← hj]
    simp [hlt]
  have HN := Lib.hid hnews; clear hnews
  have hlen : ((List.range n).map fun i => Value.int .u8 ((f i : Nat) : Int)).length = n := by simp
  have hone : ∀ u ∈ ((List.range n).map fun i => Value.int .u8 ((f i : Nat) : Int)), u.oneCell' = true := fun u hu => by
    obtain ⟨n, _, rfl⟩ := List.mem_map.1 hu
    rfl
  have hat : ∀ i, i < n → ((List.range n).map fun i => Value.int .u8 ((f i : Nat) : Int))[i]? = some (.int .u8 ((f i : Nat) : Int)) := fun i hi => by simp [hi]
  generalize ((List.range n).map fun i => Value.int .u8 ((f i : Nat) : Int)) = vs at *
  have HAT := Lib.hid hat
  have HL := Lib.hid hlen
  have HON := Lib.hid hone
  clear hat hlen hone
  have hq := fun W : World => Lib.run_eql_slice_nil (P := Tryd.prog) W 39 5 (some ⟨gw, o, none⟩) n cap 0 0 Tryd.underlying39
  simp only [Option.isNone_some] at hq
  go_enter Tryd.func34, Tryd.ntmps34
  go_wp2_with (at_builtin; refine wpList_append_own _ rfl _ _ 39 rfl W.heap.size 5 i0 (.int .u8 0) 1 1 Tryd.underlying39 hi0 hz0 hz1 hz2 rfl (by decide) _ _ _ rfl (World.ownsRow_lit W #[] 0 (Nat.le_refl _) (by omega) rfl) ⟨gw, o, none⟩ n cap vs rfl ?c1 ?c2 ?c3 ?c4 ?c5 ?c6 ?_)
  try case c1 => exact HL.out
  case c2 =>
    intro j u hj
    have h1 := HN.out j u hj
    rw [addp] at h1
    first
      | exact h1
      | (rw [addp, World.cell?_alloc_lt _ _ _ hgw]; exact h1)
  case c3 => exact HON.out
  case c4 => unfold maxLen; omega
  case c5 => omega
  try case c6 => simp
  intro v' w1 hown hgrow hnil
  have hb1 : Below W.heap.size W w1 := (alc0 W _).grown hgrow (by simp) (fun j hj => by simp [Value.ownBlock] at hj; omega)
  clear hgrow
  have HO := Lib.hid hown; clear hown
  have HNIL := Lib.hid hnil; clear hnil
  go_wp2
  go_ret
  rcases HO.out.2 with ⟨rfl, hz⟩ | ⟨g, cap', cur, rfl, hg, hh, hc, hm, _⟩
  · exact (HNIL.out rfl).elim
  · have hb := HO.out.lt g rfl
    refine ⟨g, cap', rfl, hg, hc, by unfold maxLen at hm; omega, ⟨hb.2, fun i hi => ?_, fun o => HO.out.frozenAt o⟩, hb1⟩
    rw [HO.out.cellAt i (by simpa using hi)]
    simpa using HAT.out i hi
end Go.Proofs.YtljjcomedjdpaaaDoor

