/- MoX. -/
import Derived.Test.YtanmmhbnjmglhaaZ28
namespace Go.Proofs.Ytanmmhbnjmglhaa
set_option maxRecDepth 100000
open Go.RowKit Go.ChangeMaps Go.MapKept
set_option linter.unusedVariables false
set_option linter.unusedSimpArgs false
theorem setCells_other (b : Nat) : ∀ (vs : List Value) (o : Nat) (w : World) (i : Nat), i ≠ b → (w.setCells b o vs).heap[i]? = w.heap[i]?
  | [], _, _, _, _ => rfl
  | v :: r, o, w, i, h => (setCells_other b r (o + 1) _ i h).trans (heap_other _ _ _ _ _ h)
theorem BX.put {B : Nat} {old : Array Value} {W : World} (h : BX B old W) (vs : Array Value) (hs : old.size = vs.size) (w' : World) (hw : w' = W.setCells B 0 vs.toList) :
    w'.heap.size = W.heap.size ∧ (∀ i, i ≠ B → w'.heap[i]? = W.heap[i]?) ∧ (∀ L, L ≤ B → Below L W w') ∧ BX B vs w' := by
  subst hw
  refine ⟨setCells_size _ _ _ _, fun i hi => setCells_other B _ _ _ _ hi, fun L hL => setCells_below L B hL _ _ W W (Below.refl _ _), fun o u hu => ?_⟩
  have hin : ∀ j, j < vs.toList.length → (W.cell? ⟨B, 0 + j, none⟩).isSome = true := fun j hj => by
    have hj2 : j < old.size := by rw [hs]; simpa using hj
    have := (h j _ (Array.getElem?_eq_getElem hj2)).1
    rw [Nat.zero_add, this]; rfl
  have ho : o < vs.size := by
    by_cases h : o < vs.size
    · exact h
    · rw [Array.getElem?_eq_none (by omega)] at hu; cases hu
  have hj2 : o < old.size := by rw [hs]; exact ho
  refine ⟨?_, by rw [World.frozen?_setCells]; exact (h o _ (Array.getElem?_eq_getElem hj2)).2⟩
  have := World.cell?_setCells_in B vs.toList 0 W hin o (by simpa using ho)
  rw [Nat.zero_add] at this
  rw [this]
  rw [Array.getElem?_eq_getElem ho] at hu
  simpa using hu
theorem BX.put1 {B : Nat} {old : Array Value} {W : World} (h : BX B old W) (vs : Array Value) (i : Nat) (v : Value) (hv : vs = old.setIfInBounds i v) (hi : i < old.size) (w' : World) (hw : w' = W.setCell ⟨B, i, none⟩ v) :
    w'.heap.size = W.heap.size ∧ (∀ i, i ≠ B → w'.heap[i]? = W.heap[i]?) ∧ (∀ L, L ≤ B → Below L W w') ∧ BX B vs w' := by
  subst hw hv
  refine ⟨size_set _ _ _, fun j hj => heap_other _ _ _ _ _ hj, fun L hL => (Below.refl L W).setCell (p := ⟨B, i, none⟩) hL _, fun o u hu => ?_⟩
  by_cases e : o = i
  · subst e
    have h1 := h o _ (Array.getElem?_eq_getElem hi)
    rw [Array.getElem?_setIfInBounds_self_of_lt hi] at hu
    obtain rfl := Option.some.inj hu
    exact ⟨World.cell?_setCell_same _ _ _ h1.1, by rw [World.frozen?_setCell]; exact h1.2⟩
  · rw [Array.getElem?_setIfInBounds_ne (by omega)] at hu
    have h1 := h o u hu
    exact ⟨by rw [World.cell?_setCell_other _ _ _ _ (by intro e2; injection e2 with _ e2 _; omega)]; exact h1.1, by rw [World.frozen?_setCell]; exact h1.2⟩
def sets3 (w : World) (B : Nat) (a0 a1 a2 : Value) : World := ((w.setCell ⟨B, 0, none⟩ a0).setCell ⟨B, 1, none⟩ a1).setCell ⟨B, 2, none⟩ a2
theorem BX.put3s {B : Nat} {old : Array Value} {W : World} (h : BX B old W) {a0 a1 a2 : Value} (hs : old.size = 3) {w' : World} (hw : w' = sets3 W B a0 a1 a2) : w'.heap.size = W.heap.size ∧ (∀ i, i ≠ B → w'.heap[i]? = W.heap[i]?) ∧ (∀ L, L ≤ B → Below L W w') ∧ BX B #[a0, a1, a2] w' := h.put #[a0, a1, a2] hs w' hw
def sets5 (w : World) (B : Nat) (a0 a1 a2 a3 a4 : Value) : World := ((((w.setCell ⟨B, 0, none⟩ a0).setCell ⟨B, 1, none⟩ a1).setCell ⟨B, 2, none⟩ a2).setCell ⟨B, 3, none⟩ a3).setCell ⟨B, 4, none⟩ a4
theorem BX.put5s {B : Nat} {old : Array Value} {W : World} (h : BX B old W) {a0 a1 a2 a3 a4 : Value} (hs : old.size = 5) {w' : World} (hw : w' = sets5 W B a0 a1 a2 a3 a4) : w'.heap.size = W.heap.size ∧ (∀ i, i ≠ B → w'.heap[i]? = W.heap[i]?) ∧ (∀ L, L ≤ B → Below L W w') ∧ BX B #[a0, a1, a2, a3, a4] w' := h.put #[a0, a1, a2, a3, a4] hs w' hw
def sets13 (w : World) (B : Nat) (a0 a1 a2 a3 a4 a5 a6 a7 a8 a9 a10 a11 a12 : Value) : World := ((((((((((((w.setCell ⟨B, 0, none⟩ a0).setCell ⟨B, 1, none⟩ a1).setCell ⟨B, 2, none⟩ a2).setCell ⟨B, 3, none⟩ a3).setCell ⟨B, 4, none⟩ a4).setCell ⟨B, 5, none⟩ a5).setCell ⟨B, 6, none⟩ a6).setCell ⟨B, 7, none⟩ a7).setCell ⟨B, 8, none⟩ a8).setCell ⟨B, 9, none⟩ a9).setCell ⟨B, 10, none⟩ a10).setCell ⟨B, 11, none⟩ a11).setCell ⟨B, 12, none⟩ a12
theorem BX.put13s {B : Nat} {old : Array Value} {W : World} (h : BX B old W) {a0 a1 a2 a3 a4 a5 a6 a7 a8 a9 a10 a11 a12 : Value} (hs : old.size = 13) {w' : World} (hw : w' = sets13 W B a0 a1 a2 a3 a4 a5 a6 a7 a8 a9 a10 a11 a12) : w'.heap.size = W.heap.size ∧ (∀ i, i ≠ B → w'.heap[i]? = W.heap[i]?) ∧ (∀ L, L ≤ B → Below L W w') ∧ BX B #[a0, a1, a2, a3, a4, a5, a6, a7, a8, a9, a10, a11, a12] w' := h.put #[a0, a1, a2, a3, a4, a5, a6, a7, a8, a9, a10, a11, a12] hs w' hw
end Go.Proofs.Ytanmmhbnjmglhaa
