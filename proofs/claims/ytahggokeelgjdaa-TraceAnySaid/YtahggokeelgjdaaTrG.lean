/- The reader: take, number. -/
import Derived.Test.YtahggokeelgjdaaTrF
namespace Go.Proofs.Ytahggokeelgjdaa
open Go.RowKit
set_option linter.unusedVariables false
set_option linter.unusedSimpArgs false

/-- A reader at block g: what is left, and whether something was wrong. -/
def RdAt (g : Nat) (W : World) (s : ByteArray) (wr : Bool) : Prop :=
  g < W.heap.size ∧ W.cell? ⟨g, 0, none⟩ = some (.string s) ∧ W.cell? ⟨g, 1, none⟩ = some (.bool wr) ∧ ∀ o, W.frozen? ⟨g, o, none⟩ = false
theorem RdAt.keep {g : Nat} {W W' : World} {s : ByteArray} {wr : Bool} (h : RdAt g W s wr) (hs : W.heap.size ≤ W'.heap.size) (hg : W'.heap[g]? = W.heap[g]?) : RdAt g W' s wr := by
  obtain ⟨h1, h2, h3, h4⟩ := h
  exact ⟨Nat.lt_of_lt_of_le h1 hs, (World.cell?_of_block hg).trans h2, (World.cell?_of_block hg).trans h3, fun o => (World.frozen?_of_block hg).trans (h4 o)⟩
theorem set_other (W : World) (x a b : Nat) (v : Value) (h : a ≠ b) : (W.setCell ⟨x, a, none⟩ v).cell? ⟨x, b, none⟩ = W.cell? ⟨x, b, none⟩ :=
  World.cell?_setCell_other _ _ _ _ (by intro y; injection y with _ y; omega)
theorem RdAt.bad {g : Nat} {W : World} {s : ByteArray} {wr : Bool} (h : RdAt g W s wr) : RdAt g (W.setCell ⟨g, 1, none⟩ (.bool true)) s true := by
  obtain ⟨h1, h2, h3, h4⟩ := h
  exact ⟨by rw [size_set]; exact h1, by rw [set_other _ _ _ _ _ (by decide)]; exact h2, World.cell?_setCell_same _ _ _ h3, fun o => by simpa using h4 o⟩
theorem RdAt.left {g : Nat} {W : World} {s : ByteArray} {wr : Bool} (h : RdAt g W s wr) (t : ByteArray) : RdAt g (W.setCell ⟨g, 0, none⟩ (.string t)) t wr := by
  obtain ⟨h1, h2, h3, h4⟩ := h
  exact ⟨by rw [size_set]; exact h1, World.cell?_setCell_same _ _ _ h2, by rw [set_other _ _ _ _ _ (by decide)]; exact h3, fun o => by simpa using h4 o⟩
theorem ob_set (g o : Nat) (W : World) (v : Value) : OB g W (W.setCell ⟨g, o, none⟩ v) :=
  ⟨by rw [size_set]; exact Nat.le_refl _, fun i _ hi => heap_other W g o v i hi, fun L hL _ => (Below.refl _ _).setCell hL _⟩
theorem rtake_bad (g : Nat) (n : Int) (s : ByteArray) (wr : Bool) (W : World) (h : RdAt g W s wr) (hn : n < 0 ∨ (s.size : Int) < n) :
    Calls Try.prog 35 #[.pointer (some ⟨g, 0, none⟩), .int .i64 n] W fun e w' => e = .returned (.string ⟨#[]⟩) ∧ RdAt g w' s true ∧ OB g W w' := by
  have H := Lib.hid h
  obtain ⟨h1, h2, h3, h4⟩ := h
  have f1 := h4 1
  clear h4
  rcases (show n < 0 ∨ (¬ n < 0 ∧ (s.size : Int) < n) by omega) with h0 | ⟨h0, h5⟩
  all_goals
    go_enter Try.func35, Try.ntmps35
    go_wp2
    go_ret
    exact ⟨rfl, H.out.bad, ob_set _ _ _ _⟩
theorem rtake_ok (g n : Nat) (s : ByteArray) (wr : Bool) (W : World) (h : RdAt g W s wr) (hn : n ≤ s.size) :
    Calls Try.prog 35 #[.pointer (some ⟨g, 0, none⟩), .int .i64 n] W fun e w' => e = .returned (.string (s.extract 0 n)) ∧ RdAt g w' (s.extract n s.size) wr ∧ OB g W w' := by
  have H := Lib.hid h
  obtain ⟨h1, h2, h3, h4⟩ := h
  have f1 := h4 0
  clear h4
  have i0 : ¬ (n : Int) < 0 := by omega
  have i1 : ¬ (s.size : Int) < (n : Int) := by omega
  have i2 : (n : Int) ≤ s.size := by omega
  go_enter Try.func35, Try.ntmps35
  go_wp2
  go_ret
  exact ⟨rfl, H.out.left _, ob_set _ _ _ _⟩
end Go.Proofs.Ytahggokeelgjdaa
