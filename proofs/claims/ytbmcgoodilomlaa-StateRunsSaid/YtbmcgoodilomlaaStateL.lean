/- The map of changes: insertions and looks. -/
import Derived.Test.YtbmcgoodilomlaaStateK
namespace Go.Proofs.Ytbmcgoodilomlaa
open Go.RowKit Go.ChangeMaps Go.MapKept
open Go.Maps (Keyed)
set_option linter.unusedVariables false
set_option linter.unusedSimpArgs false

theorem wf_small (a : Int) (h : 0 ≤ a ∧ a ≤ 100) : (Lit.int .i64 a).wf = true := by
  simp [Lit.wf, IntKind.min, IntKind.max, IntKind.signed, IntKind.bits]; omega
theorem keyS (a b : Int) (h : (0 ≤ a ∧ a ≤ 100) ∧ 0 ≤ b ∧ b ≤ 100) : ∃ l, keyOf Try.prog 57 (.agg #[.int .i64 a, .int .i64 b]) = some l := keyC a b (wf_small a h.1) (wf_small b h.2)
theorem insC (W : World) (b : Nat) (es : Array MapEntry) (clock : Nat) (hb : W.heap[b]? = some (.map es clock)) (s x v : Int) (hk : (0 ≤ s ∧ s ≤ 100) ∧ 0 ≤ x ∧ x ≤ 100)
    (hes : ∀ e ∈ es.toList, (∃ l, keyOf Try.prog 57 e.key = some l) ∧ e.key ≠ .agg #[.int .i64 s, .int .i64 x]) :
    (Instr.mapUpdate 54 (.map (some b)) (.agg #[.int .i64 s, .int .i64 x]) (.int .i64 v)).run Try.prog W = .ok () (setBlock W b (.map (es.push ⟨.agg #[.int .i64 s, .int .i64 x], .int .i64 v, clock⟩) (clock + 1))) := by
  obtain ⟨l, hl⟩ := keyS s x hk
  rcases kC.find W hl es.toList (fun e he => (hes e he).1) with ⟨h1, h2⟩ | ⟨j, e0, h1, h2, h3⟩
  · simp [Instr.mapUpdate, run_underlying Try.underlying54, MapKept.run_getObj_map hb, kC.check W false hl, h1, MapKept.run_setObj_map _ hb, Result.andThen, setBlock]
  · exact absurd h3 (hes e0 (List.mem_of_getElem? h2)).2
def nxt (s x : Int) : Int := if s = 1 ∧ x = 1 then 2 else if s = 2 ∧ x = 2 then 3 else if s = 3 ∧ x = 3 then 1 else 0
def canB (s x : Int) : Bool := decide (0 < nxt s x)
/-- Block b is the map of changes. -/
def MapAt (b : Nat) (W : World) : Prop := ∃ es clock, W.heap[b]? = some (.map es clock) ∧
  (∀ e ∈ es.toList, ((e.key = .agg #[.int .i64 1, .int .i64 1] ∧ e.val = .int .i64 2) ∨ (e.key = .agg #[.int .i64 2, .int .i64 2] ∧ e.val = .int .i64 3) ∨ (e.key = .agg #[.int .i64 3, .int .i64 3] ∧ e.val = .int .i64 1))) ∧
  (∃ e ∈ es.toList, e.key = .agg #[.int .i64 1, .int .i64 1]) ∧ (∃ e ∈ es.toList, e.key = .agg #[.int .i64 2, .int .i64 2]) ∧ (∃ e ∈ es.toList, e.key = .agg #[.int .i64 3, .int .i64 3])
theorem zInt (W : World) : (zeroValue 3).run Try.prog W = .ok (.int .i64 0) W := by kernel_rfl
theorem lookC (W : World) (b : Nat) (h : MapAt b W) (s x : Int) (hs : (Lit.int .i64 s).wf = true) (hx : (Lit.int .i64 x).wf = true) :
    (Instr.lookup 54 (.map (some b)) (.agg #[.int .i64 s, .int .i64 x]) true).run Try.prog W = .ok (.tuple #[.int .i64 (nxt s x), .bool (canB s x)]) W := by
  obtain ⟨es, clock, hb, ha, h1, h2, h3⟩ := h
  obtain ⟨l, hl⟩ := keyC s x hs hx
  have hes : ∀ e ∈ es.toList, ∃ l, keyOf Try.prog 57 e.key = some l := by
    intro e he
    rcases ha e he with ⟨q, _⟩ | ⟨q, _⟩ | ⟨q, _⟩ <;> rw [q]
    · exact keyS 1 1 (by omega)
    · exact keyS 2 2 (by omega)
    · exact keyS 3 3 (by omega)
  rcases kC.find W hl es.toList hes with ⟨f1, f2⟩ | ⟨j, e0, f1, f2, f3⟩
  · have n1 : ¬ (s = 1 ∧ x = 1) := by rintro ⟨rfl, rfl⟩; obtain ⟨e, he, hk⟩ := h1; exact f2 e he hk
    have n2 : ¬ (s = 2 ∧ x = 2) := by rintro ⟨rfl, rfl⟩; obtain ⟨e, he, hk⟩ := h2; exact f2 e he hk
    have n3 : ¬ (s = 3 ∧ x = 3) := by rintro ⟨rfl, rfl⟩; obtain ⟨e, he, hk⟩ := h3; exact f2 e he hk
    have e1 : nxt s x = 0 := by unfold nxt; rw [if_neg n1, if_neg n2, if_neg n3]
    have e2 : canB s x = false := by unfold canB; rw [e1]; rfl
    rw [e1, e2]
    simp [Instr.lookup, run_underlying Try.underlying54, MapKept.run_getObj_map hb, kC.check W _ hl, f1, zInt, Result.andThen]
  · have hm := List.mem_of_getElem? f2
    have key : e0.val = .int .i64 (nxt s x) ∧ canB s x = true := by
      rcases ha e0 hm with ⟨q, r⟩ | ⟨q, r⟩ | ⟨q, r⟩
      all_goals
        rw [q] at f3
        simp only [Value.agg.injEq, Array.mk.injEq, List.cons.injEq, Value.int.injEq, true_and, and_true] at f3
        obtain ⟨rfl, rfl⟩ := f3
        rw [r]
        exact ⟨rfl, rfl⟩
    rw [← key.1, key.2]
    simp [Instr.lookup, run_underlying Try.underlying54, MapKept.run_getObj_map hb, kC.check W _ hl, f1, Result.andThen]
theorem below_block {W W' : World} {b : Nat} {o : Obj} (h : Below W.heap.size W W') (hb : W.heap.size ≤ b) : Below W.heap.size W (setBlock W' b o) := by
  refine ⟨h.os, h.tape, h.output, by simpa [setBlock] using h.size, fun k hk => ?_⟩
  rw [show (setBlock W' b o).heap[k]? = W'.heap[k]? from by simp only [setBlock]; rw [Array.getElem?_setIfInBounds_ne (by omega)]]
  exact h.block k hk
theorem block_same {W : World} {b : Nat} {o : Obj} (hb : b < W.heap.size) : (setBlock W b o).heap[b]? = some o := by
  simp [setBlock, hb]
theorem size_block {W : World} {b : Nat} {o : Obj} : (setBlock W b o).heap.size = W.heap.size := by simp [setBlock]
end Go.Proofs.Ytbmcgoodilomlaa
