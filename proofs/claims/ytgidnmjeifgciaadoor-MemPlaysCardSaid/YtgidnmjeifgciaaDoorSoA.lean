/- The store's map of pages: what a look at it and an insertion do. -/
import Derived.Test.YtgidnmjeifgciaaDoorRows
import Derived.Test.YtgidnmjeifgciaaDoorInt
import Derived.Maps.Own
import Derived.DeepKeys4
import Derived.WalkKit
import Derived.ProofKit
import Derived.WalkLawsBesides
import Derived.WalkSpells
import Derived.Lib.Hide
import Derived.Laws.MakeOwn
import Derived.Laws.IdiomCopy
namespace Go.Proofs.YtgidnmjeifgciaaDoor
set_option maxRecDepth 100000
open Go.RowKit Go.ChangeMaps Go.MapKept
open Go.Maps (Keyed)
set_option linter.unusedVariables false
set_option linter.unusedSimpArgs false

theorem laidOutS : laidOutB Tryd.prog = true := by kernel_rfl
theorem kP : Keyed Tryd.prog 164 := Keyed.of_law (Go.deep_law_laid laidOutS (m := 3) (by omega) (by decide +kernel) (by kernel_rfl) (by kernel_rfl))
def kv (p : Nat) : Value := .agg #[.int .i64 (p : Int)]
def sl (q : Nat) : Value := .slice (some ⟨q, 0, none⟩) 256 256
theorem keyP (p : Nat) (hp : p < 1099511627776) : ∃ l, keyOf Tryd.prog 164 (kv p) = some l := by
  have ha : (Lit.int .i64 (p : Int)).wf = true := by
    simp [Lit.wf, IntKind.min, IntKind.max, IntKind.signed, IntKind.bits]; omega
  obtain ⟨m, hm⟩ : ∃ m, Tryd.prog.types.size = m + 1 := ⟨Tryd.prog.types.size - 1, by have h : 0 < Tryd.prog.types.size := (by decide +kernel); omega⟩
  have hkt : Tryd.prog.keyType 164 = true := by kernel_rfl
  have hc : Tryd.prog.cellsOf 164 = 1 := by kernel_rfl
  have hi : Tryd.prog.cellsOf 3 = 1 := by kernel_rfl
  unfold keyOf kv
  simp only [Tryd.underlying164]
  rw [if_pos (by simp [hkt, Value.formed, Tryd.underlying164, hc]), hm]
  unfold Program.keyLits
  simp only [Tryd.underlying164, Value.cells]
  rw [if_pos (by simp [hc])]
  simp [hi, Program.keyLits, Tryd.underlying3, ha, List.mapM_cons]
/-- Block b is the map of pages: (p, q): page p is kept in block q. -/
def MP (b : Nat) (W : World) (l : List (Nat × Nat)) : Prop :=
  ∃ es clock, W.heap[b]? = some (.map es clock) ∧ es.toList.map (fun e => (e.key, e.val)) = l.map (fun pq => (kv pq.1, sl pq.2)) ∧ (l.map Prod.fst).Nodup ∧ ∀ pq ∈ l, pq.1 < 1099511627776
theorem MP.keep {b : Nat} {W W' : World} {l : List (Nat × Nat)} (h : MP b W l) (e : W'.heap[b]? = W.heap[b]?) : MP b W' l := by
  obtain ⟨es, clock, hb, h1, h2, h3⟩ := h
  exact ⟨es, clock, e.trans hb, h1, h2, h3⟩
theorem kv_inj {p p' : Nat} (h : kv p = kv p') : p = p' := by
  simp only [kv, Value.agg.injEq, Array.mk.injEq, List.cons.injEq, Value.int.injEq, true_and, and_true] at h
  omega
theorem MP.at_ {es : Array MapEntry} {l : List (Nat × Nat)} (h : es.toList.map (fun e => (e.key, e.val)) = l.map (fun pq => (kv pq.1, sl pq.2))) {e : MapEntry} (he : e ∈ es.toList) : ∃ pq ∈ l, e.key = kv pq.1 ∧ e.val = sl pq.2 := by
  have h1 : (e.key, e.val) ∈ es.toList.map (fun e => (e.key, e.val)) := List.mem_map.2 ⟨e, he, rfl⟩
  rw [h] at h1
  obtain ⟨pq, hpq, h2⟩ := List.mem_map.1 h1
  injection h2 with h2 h3
  exact ⟨pq, hpq, h2.symm, h3.symm⟩
theorem MP.back {es : Array MapEntry} {l : List (Nat × Nat)} (h : es.toList.map (fun e => (e.key, e.val)) = l.map (fun pq => (kv pq.1, sl pq.2))) {pq : Nat × Nat} (hpq : pq ∈ l) : ∃ e ∈ es.toList, e.key = kv pq.1 ∧ e.val = sl pq.2 := by
  have h1 : (kv pq.1, sl pq.2) ∈ l.map (fun pq => (kv pq.1, sl pq.2)) := List.mem_map.2 ⟨pq, hpq, rfl⟩
  rw [← h] at h1
  obtain ⟨e, he, h2⟩ := List.mem_map.1 h1
  injection h2 with h2 h3
  exact ⟨e, he, h2, h3⟩
theorem zSl (W : World) : (zeroValue 35).run Tryd.prog W = .ok (.slice none 0 0) W := by kernel_rfl
/-- A look at the map. -/
theorem lookP (W : World) (b : Nat) (l : List (Nat × Nat)) (h : MP b W l) (p : Nat) (hp : p < 1099511627776) :
    (∃ q, (p, q) ∈ l ∧ (Instr.lookup 147 (.map (some b)) (kv p) true).run Tryd.prog W = .ok (.tuple #[sl q, .bool true]) W ∧ (Instr.lookup 147 (.map (some b)) (kv p) false).run Tryd.prog W = .ok (sl q) W) ∨
    ((∀ q, ¬ (p, q) ∈ l) ∧ (Instr.lookup 147 (.map (some b)) (kv p) true).run Tryd.prog W = .ok (.tuple #[.slice none 0 0, .bool false]) W ∧ (Instr.lookup 147 (.map (some b)) (kv p) false).run Tryd.prog W = .ok (.slice none 0 0) W) := by
  obtain ⟨es, clock, hb, h1, h2, h3⟩ := h
  obtain ⟨lt, hl⟩ := keyP p hp
  have hes : ∀ e ∈ es.toList, ∃ l, keyOf Tryd.prog 164 e.key = some l := by
    intro e he
    obtain ⟨pq, hpq, e1, _⟩ := MP.at_ h1 he
    rw [e1]
    exact keyP pq.1 (h3 pq hpq)
  rcases kP.find W hl es.toList hes with ⟨f1, f2⟩ | ⟨j, e0, f1, f2, f3⟩
  · right
    refine ⟨fun q hq => ?_, ?_, ?_⟩
    · obtain ⟨e, he, e1, _⟩ := MP.back h1 hq
      exact f2 e he e1
    · simp [Instr.lookup, run_underlying Tryd.underlying147, MapKept.run_getObj_map hb, kP.check W _ hl, f1, zSl, Result.andThen]
    · simp [Instr.lookup, run_underlying Tryd.underlying147, MapKept.run_getObj_map hb, kP.check W _ hl, f1, zSl, Result.andThen]
  · left
    obtain ⟨pq, hpq, e1, e2⟩ := MP.at_ h1 (List.mem_of_getElem? f2)
    obtain ⟨p', q⟩ := pq
    have hpp : p' = p := kv_inj (e1.symm.trans f3)
    subst hpp
    refine ⟨q, hpq, ?_, ?_⟩
    · rw [← show e0.val = sl q from e2]
      simp [Instr.lookup, run_underlying Tryd.underlying147, MapKept.run_getObj_map hb, kP.check W _ hl, f1, Result.andThen]
    · rw [← show e0.val = sl q from e2]
      simp [Instr.lookup, run_underlying Tryd.underlying147, MapKept.run_getObj_map hb, kP.check W _ hl, f1, Result.andThen]
/-- All but block b stands as it was. -/
def OB (b : Nat) (W w' : World) : Prop :=
  W.heap.size ≤ w'.heap.size ∧ (∀ i, i < W.heap.size → i ≠ b → w'.heap[i]? = W.heap[i]?) ∧ ∀ L, L ≤ b → L ≤ W.heap.size → Below L W w'
theorem OB.of_below {b : Nat} {W w' : World} (h : Below W.heap.size W w') : OB b W w' := ⟨h.size, fun i hi _ => h.block i hi, fun L _ hL => h.mono hL⟩
theorem below_block {L : Nat} {W W' : World} {b : Nat} {o : Obj} (h : Below L W W') (hb : L ≤ b) : Below L W (setBlock W' b o) := by
  refine ⟨h.os, h.tape, h.output, by simpa [setBlock] using h.size, fun k hk => ?_⟩
  rw [show (setBlock W' b o).heap[k]? = W'.heap[k]? from by simp only [setBlock]; rw [Array.getElem?_setIfInBounds_ne (by omega)]]
  exact h.block k hk
theorem block_same {W : World} {b : Nat} {o : Obj} (hb : b < W.heap.size) : (setBlock W b o).heap[b]? = some o := by
  simp [setBlock, hb]
theorem block_other {W : World} {b i : Nat} {o : Obj} (hi : i ≠ b) : (setBlock W b o).heap[i]? = W.heap[i]? := by
  simp only [setBlock]; rw [Array.getElem?_setIfInBounds_ne (by omega)]
theorem size_block {W : World} {b : Nat} {o : Obj} : (setBlock W b o).heap.size = W.heap.size := by simp [setBlock]
/-- An insertion of a page that is not kept. -/
theorem insP (W : World) (b : Nat) (l : List (Nat × Nat)) (h : MP b W l) (hbz : b < W.heap.size) (p q : Nat) (hp : p < 1099511627776) (hno : ∀ q, ¬ (p, q) ∈ l) :
    ∃ W', (Instr.mapUpdate 147 (.map (some b)) (kv p) (sl q)).run Tryd.prog W = .ok () W' ∧ MP b W' (l ++ [(p, q)]) ∧ W'.heap.size = W.heap.size ∧ OB b W W' := by
  obtain ⟨es, clock, hb, h1, h2, h3⟩ := h
  obtain ⟨lt, hl⟩ := keyP p hp
  have hes : ∀ e ∈ es.toList, ∃ l, keyOf Tryd.prog 164 e.key = some l := by
    intro e he
    obtain ⟨pq, hpq, e1, _⟩ := MP.at_ h1 he
    rw [e1]
    exact keyP pq.1 (h3 pq hpq)
  rcases kP.find W hl es.toList hes with ⟨f1, f2⟩ | ⟨j, e0, f1, f2, f3⟩
  · refine ⟨setBlock W b (.map (es.push ⟨kv p, sl q, clock⟩) (clock + 1)), ?_, ⟨_, _, block_same hbz, ?_, ?_, ?_⟩, size_block, ?_⟩
    · simp [Instr.mapUpdate, run_underlying Tryd.underlying147, MapKept.run_getObj_map hb, kP.check W false hl, f1, MapKept.run_setObj_map _ hb, Result.andThen, setBlock]
    · simp [h1]
    · rw [List.map_append, List.nodup_append]
      refine ⟨h2, by simp, ?_⟩
      intro a ha c hc
      obtain ⟨pq, hpq, rfl⟩ := List.mem_map.1 ha
      simp at hc
      subst hc
      intro e
      exact hno pq.2 (by rw [← e]; exact hpq)
    · intro pq hpq
      rcases List.mem_append.1 hpq with h | h
      · exact h3 pq h
      · simp at h; subst h; exact hp
    · refine ⟨by rw [size_block]; exact Nat.le_refl _, fun i _ hi => block_other hi, fun L hL hW => below_block ((Below.refl _ _).mono hW) hL⟩
  · obtain ⟨pq, hpq, e1, e2⟩ := MP.at_ h1 (List.mem_of_getElem? f2)
    obtain ⟨p', q'⟩ := pq
    have hpp : p' = p := kv_inj (e1.symm.trans f3)
    subst hpp
    exact absurd hpq (hno q')
end Go.Proofs.YtgidnmjeifgciaaDoor
