/- Frames of memory, and slices of records of any size: take, drop, clear. -/
import Derived.Test.YtohamecjiidjdaaVz
import Derived.Lib.SliceRun
import Derived.WalkKit
import Derived.ProofKit
import Derived.OpenShut
import Derived.BigQuiet
import Derived.WalkSmall
namespace Go.Proofs.Ytohamecjiidjdaa
open Go.RowKit
set_option linter.unusedVariables false
set_option linter.unusedSimpArgs false

/-- All but block g and block b stands as it was. -/
def Fr (g b : Nat) (W w' : World) : Prop :=
  W.heap.size ≤ w'.heap.size ∧ (∀ i, i < W.heap.size → i ≠ g → i ≠ b → w'.heap[i]? = W.heap[i]?) ∧ ∀ L, L ≤ g → L ≤ b → L ≤ W.heap.size → Below L W w'
theorem Fr.of_below {g b : Nat} {W w' : World} (h : Below W.heap.size W w') : Fr g b W w' := ⟨h.size, fun i hi _ _ => h.block i hi, fun L _ _ hL => h.mono hL⟩
theorem Fr.trans {g b b' : Nat} {W w1 w2 : World} (h : Fr g b W w1) (k : Fr g b' w1 w2) (hb : b' = b ∨ W.heap.size ≤ b') : Fr g b W w2 := by
  obtain ⟨s1, o1, l1⟩ := h
  obtain ⟨s2, o2, l2⟩ := k
  refine ⟨Nat.le_trans s1 s2, fun i hi hg hb' => ?_, fun L hg hb' hL => (l1 L hg hb' hL).trans (l2 L hg ?_ (Nat.le_trans hL s1))⟩
  · rw [o2 i (Nat.lt_of_lt_of_le hi s1) hg (by rcases hb with rfl | h; exact hb'; omega), o1 i hi hg hb']
  · rcases hb with rfl | h; exact hb'; omega
theorem Fr.set {g b : Nat} {W w1 : World} (h : Fr g b W w1) (o : Nat) (v : Value) : Fr g b W (w1.setCell ⟨g, o, none⟩ v) :=
  ⟨by rw [size_set]; exact h.1, fun i hi hg hb => by rw [heap_other _ g o v i hg]; exact h.2.1 i hi hg hb, fun L hg hb hL => (h.2.2 L hg hb hL).setCell hg _⟩
theorem Fr.alc {g b : Nat} {W w1 : World} (h : Fr g b W w1) (o : Obj) : Fr g b W (w1.alloc o) :=
  ⟨by simp; have := h.1; omega, fun i hi hg hb => by rw [Below.heap_alloc _ _ _ (Nat.lt_of_lt_of_le hi h.1)]; exact h.2.1 i hi hg hb, fun L hg hb hL => (h.2.2 L hg hb hL).alloc (Nat.le_trans hL h.1) _⟩
theorem run_clear_any (w : World) (t e ty : TypeId) (z : Value) (ht : Try.prog.underlying t = some (.slice e)) (hv : ∀ w, (zeroValue e).run Try.prog w = .ok z w) (b o n c : Nat) (zs : List Value) (hzs : (Builtin.zeroCells z.cells n).toList = zs) (h1 : ∀ u ∈ zs, u.oneCell' = true) (hn : 0 < n)
    (hc : ∀ j, j < zs.length → (w.cell? ⟨b, o + j, none⟩).isSome = true) (hf : ∀ j, j < zs.length → w.frozen? ⟨b, o + j, none⟩ = false) :
    (Builtin.clear_ #[t] ty #[.slice (some ⟨b, o, none⟩) n c]).run Try.prog w = .ok (.tuple #[]) (w.setCells b o zs) := by
  have hst := run_storeCells_cells (P := Try.prog) b o zs 0 w (by simpa using hc) (by simpa using hf) h1
  simp only [Nat.add_zero] at hst
  obtain ⟨m, rfl⟩ : ∃ m, n = m + 1 := ⟨n - 1, by omega⟩
  simp [Builtin.clear_, run_underlying ht, hv, hzs, hst]
theorem setCells_other (b : Nat) (vs : List Value) (o : Nat) (w : World) (i : Nat) (h : i ≠ b) : (w.setCells b o vs).heap[i]? = w.heap[i]? := by
  induction vs generalizing o w with
  | nil => rfl
  | cons v r ih => rw [World.setCells, ih, heap_other _ _ _ _ _ h]
/-- Only block b changed, and not in its size. -/
def Fb (b : Nat) (W w' : World) : Prop := w'.heap.size = W.heap.size ∧ (∀ i, i ≠ b → w'.heap[i]? = W.heap[i]?) ∧ ∀ L, L ≤ b → L ≤ W.heap.size → Below L W w'
theorem flat_take {α : Type} (f : α → List Value) (sz : Nat) (hf : ∀ x, (f x).length = sz) (l : List α) (i : Nat) : (l.take i).flatMap f = (l.flatMap f).take (i * sz) := by
  induction l generalizing i with
  | nil => simp
  | cons p r ih =>
    cases i with
    | zero => simp
    | succ i =>
      have e : (f p).take ((i + 1) * sz) = f p := List.take_of_length_le (by rw [hf, Nat.add_mul]; omega)
      rw [List.take_succ_cons, List.flatMap_cons, List.flatMap_cons, ih, List.take_append, hf, e, show (i + 1) * sz - sz = i * sz by rw [Nat.add_mul]; omega]
theorem flat_drop {α : Type} (f : α → List Value) (sz : Nat) (hf : ∀ x, (f x).length = sz) (l : List α) (i : Nat) : (l.drop i).flatMap f = (l.flatMap f).drop (i * sz) := by
  induction l generalizing i with
  | nil => simp
  | cons p r ih =>
    cases i with
    | zero => simp
    | succ i =>
      have e : (f p).drop ((i + 1) * sz) = [] := List.drop_of_length_le (by rw [hf, Nat.add_mul]; omega)
      rw [List.drop_succ_cons, List.flatMap_cons, ih, List.drop_append, hf, e, show (i + 1) * sz - sz = i * sz by rw [Nat.add_mul]; omega, List.nil_append]
theorem Fb.fr {g b : Nat} {W w' : World} (h : Fb b W w') : Fr g b W w' := ⟨by rw [h.1]; exact Nat.le_refl _, fun i _ _ hb => h.2.1 i hb, fun L _ hb hL => h.2.2 L hb hL⟩
theorem Fr.far {g b x : Nat} {W w1 : World} (h : Fr g b W w1) (hx : W.heap.size ≤ x) (o : Nat) (v : Value) : Fr g b W (w1.setCell ⟨x, o, none⟩ v) :=
  ⟨by rw [size_set]; exact h.1, fun i hi hg hb => by rw [heap_other _ x o v i (by omega)]; exact h.2.1 i hi hg hb, fun L hg hb hL => (h.2.2 L hg hb hL).setCell (Nat.le_trans hL hx) _⟩
theorem Fr.drw {g b : Nat} {W w1 : World} (h : Fr g b W w1) (n : Nat) : Fr g b W (w1.drewN n) := ⟨h.1, h.2.1, fun L a c d => below_drewN (h.2.2 L a c d) n⟩
/-- What m[j+1:] is. -/
theorem drop_addr (sz b off c j n : Nat) (cs : List Value) (hl : cs.length = n * sz) (hn : n ≤ c) (hj : j ≤ n) (W : World) (h : At W b off cs) :
    ∃ A : Addr, (if c = j then some (⟨b, off, none⟩ : Addr) else some ⟨b, off + j * sz, none⟩) = some A ∧ ∀ W' : World, W'.heap[b]? = W.heap[b]? → ∀ (t : Nat) (u : Value), (cs.drop (j * sz))[t]? = some u → W'.cell? (A.add t) = some u := by
  by_cases h' : c = j
  · refine ⟨⟨b, off, none⟩, by simp [h'], fun W' _ t u hu => ?_⟩
    have := (List.getElem?_eq_some_iff.1 hu).1
    obtain rfl : n = j := by omega
    rw [List.length_drop, hl] at this
    omega
  · refine ⟨⟨b, off + j * sz, none⟩, by simp [h'], fun W' hW t u hu => ?_⟩
    rw [addp, Nat.add_assoc]
    rw [List.getElem?_drop] at hu
    exact (World.cell?_of_block hW).trans (h _ u hu)
end Go.Proofs.Ytohamecjiidjdaa
