/- Contracts of package tags: Set, All. -/
import Derived.Test.YtljjcomedjdpaaaDoorTags
namespace Go.Proofs.YtljjcomedjdpaaaDoor
set_option maxRecDepth 100000
open Go.RowKit
set_option linter.unusedVariables false
set_option linter.unusedSimpArgs false

def setF (f : Nat → Nat) (g j v : Nat) : Nat → Nat := fun y => if g ≤ y ∧ y < g + j then v else f y
theorem setF_lt {f : Nat → Nat} {g j v : Nat} (h : ∀ y, f y < 16) (hv : v < 16) : ∀ y, setF f g j v y < 16 := by
  intro y; unfold setF; split; exact hv; exact h y
theorem n15 (a b : Nat) (ha : a < 16) (hb : b < 16) : bits .andNot .u8 ((a : Int) + 16 * b) 15 = 16 * b := by
  have all : ∀ a b : Fin 16, bits .andNot .u8 ((a.val : Int) + 16 * b.val) 15 = 16 * b.val := by decide +kernel
  exact all ⟨a, ha⟩ ⟨b, hb⟩
theorem n240 (a b : Nat) (ha : a < 16) (hb : b < 16) : bits .andNot .u8 ((a : Int) + 16 * b) 240 = a := by
  have all : ∀ a b : Fin 16, bits .andNot .u8 ((a.val : Int) + 16 * b.val) 240 = a.val := by decide +kernel
  exact all ⟨a, ha⟩ ⟨b, hb⟩
theorem o_lo (b v : Nat) (hb : b < 16) (hv : v < 16) : bits .or .u8 (16 * (b : Int)) v = v + 16 * b := by
  have all : ∀ b v : Fin 16, bits .or .u8 (16 * (b.val : Int)) v.val = v.val + 16 * b.val := by decide +kernel
  exact all ⟨b, hb⟩ ⟨v, hv⟩
theorem o_hi (a v : Nat) (ha : a < 16) (hv : v < 16) : bits .or .u8 (a : Int) (16 * (v : Int)) = a + 16 * v := by
  have all : ∀ a v : Fin 16, bits .or .u8 (a.val : Int) (16 * (v.val : Int)) = a.val + 16 * v.val := by decide +kernel
  exact all ⟨a, ha⟩ ⟨v, hv⟩
theorem o_hi2 (a v : Nat) (ha : a < 16) (hv : v < 16) : bits .or .u8 (a : Int) ((v : Int) * 16) = a + 16 * v := by
  rw [Int.mul_comm]; exact o_hi a v ha hv

theorem wv8 (v : Nat) (hv : v < 16) : IntKind.u8.wrap (v : Int) = v := by rw [IntKind.wrap_u8]; omega
theorem wv16 (v : Nat) (hv : v < 16) : IntKind.u8.wrap ((v : Int) * 16) = v * 16 := by rw [IntKind.wrap_u8]; omega
theorem lo_val (a b v : Nat) (ha : a < 16) (hb : b < 16) (hv : v < 16) : bits .or .u8 (bits .andNot .u8 ((a : Int) + 16 * b) (IntKind.u8.wrap 15)) (IntKind.u8.wrap (IntKind.u8.wrap (v : Int))) = v + 16 * b := by
  rw [show IntKind.u8.wrap 15 = 15 by decide, n15 a b ha hb, wv8 v hv, wv8 v hv, o_lo b v hb hv]
theorem hi_val (a b v : Nat) (ha : a < 16) (hb : b < 16) (hv : v < 16) : bits .or .u8 (bits .andNot .u8 ((a : Int) + 16 * b) (IntKind.u8.wrap 240)) (IntKind.u8.wrap (IntKind.u8.wrap (v : Int) * 16)) = a + 16 * v := by
  rw [show IntKind.u8.wrap 240 = 240 by decide, n240 a b ha hb, wv8 v hv, wv16 v hv, o_hi2 a v ha hv]
theorem TagIs.step {p x h : Nat} {W : World} {f : Nat → Nat} {v g j : Nat} (H : TagIs p W (setF f g j v)) (hf : ∀ y, f y < 16) (hv : v < 16) (hx : x = g + j) (hxh : x = 2 * h ∨ x = 2 * h + 1) (hh : h < 8192) (u : Int) (hu : u = ((setF f g (j + 1) v (2 * h) + 16 * setF f g (j + 1) v (2 * h + 1) : Nat) : Int)) : TagIs p (W.setCell ⟨p, h, none⟩ (.int .u8 u)) (setF f g (j + 1) v) := by
  obtain ⟨h1, h2, h3⟩ := H
  refine ⟨by simp [World.setCell]; exact h1, setF_lt hf hv, fun i hi => ?_⟩
  obtain ⟨a, b⟩ := h3 i hi
  refine ⟨?_, by simp [b]⟩
  by_cases e : h = i
  · subst e
    rw [World.cell?_setCell_same _ _ _ a, hu]
  · rw [World.cell?_setCell_other _ _ _ _ (by intro q; injection q with _ q; exact e q), a]
    have e1 : setF f g (j + 1) v (2 * i) = setF f g j v (2 * i) := by unfold setF; split <;> split <;> first | rfl | omega
    have e2 : setF f g (j + 1) v (2 * i + 1) = setF f g j v (2 * i + 1) := by unfold setF; split <;> split <;> first | rfl | omega
    rw [e1, e2]

theorem heap_far (W : World) (p h : Nat) (v : Value) (i : Nat) (hi : i ≠ p) : (W.setCell ⟨p, h, none⟩ v).heap[i]? = W.heap[i]? := Below.heap_setCell W ⟨p, h, none⟩ v i hi
theorem tail_set {p h : Nat} {W wr : World} {v : Value} (hb : Below p W wr ∧ wr.heap.size = W.heap.size ∧ ∀ i, p < i → wr.heap[i]? = W.heap[i]?) : Below p W (wr.setCell ⟨p, h, none⟩ v).drew ∧ (wr.setCell ⟨p, h, none⟩ v).drew.heap.size = W.heap.size ∧ ∀ i, p < i → (wr.setCell ⟨p, h, none⟩ v).drew.heap[i]? = W.heap[i]? :=
  ⟨(hb.1.setCell (Nat.le_refl _) v).drew, by show (wr.setCell ⟨p, h, none⟩ v).heap.size = _; simp [World.setCell]; exact hb.2.1, fun i hi => (heap_far wr p h v i (by omega)).trans (hb.2.2 i hi)⟩
def TSetPost (p : Nat) (W : World) (f : Nat → Nat) (g n v : Nat) (e : Ending) (w' : World) : Prop :=
  e = .returned (.bool true) ∧ TagIs p w' (setF f g n v) ∧ Below p W w' ∧ w'.heap.size = W.heap.size ∧ ∀ i, p < i → w'.heap[i]? = W.heap[i]?
/-- Whether all of a stretch have a tag. -/
def allR (f : Nat → Nat) (g : Nat) (v : Int) : Nat → Bool
  | 0 => true
  | k + 1 => allR f g v k && decide ((f (g + k) : Int) = v)
theorem allR_false {f : Nat → Nat} {g : Nat} {v : Int} {k n : Nat} (h : allR f g v (k + 1) = false) (hk : k < n) : allR f g v n = false := by
  induction n with
  | zero => omega
  | succ n ih =>
    by_cases e : k = n
    · rw [← e]; exact h
    · rw [allR, ih (by omega)]; rfl
end Go.Proofs.YtljjcomedjdpaaaDoor

