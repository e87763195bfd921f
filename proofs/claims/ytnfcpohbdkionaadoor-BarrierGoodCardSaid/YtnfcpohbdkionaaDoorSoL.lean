/- SoI, SoJ, SoL in one text: a claim holds at most 60 files. -/
import Derived.Test.YtnfcpohbdkionaaDoorSoG
import Derived.Carry
namespace Go.Proofs.YtnfcpohbdkionaaDoor
set_option maxRecDepth 100000
open Go.RowKit Go.ChangeMaps Go.MapKept
open Go.Maps (Keyed)
set_option linter.unusedVariables false
set_option linter.unusedSimpArgs false

theorem over_over (c d : Nat → Nat) (a at_ k : Nat) (h : a ≤ at_) : over (over c a (at_ - a) d) at_ k (fun i => d (at_ - a + i)) = over c a (at_ + k - a) d := by
  funext x
  simp only [over]
  by_cases h1 : at_ ≤ x ∧ x < at_ + k
  · rw [if_pos h1, if_pos (by omega), show at_ - a + (x - at_) = x - a by omega]
  · rw [if_neg h1]
    by_cases h2 : a ≤ x ∧ x < a + (at_ - a)
    · rw [if_pos h2, if_pos (by omega)]
    · rw [if_neg h2, if_neg (by omega)]
theorem over_none (c d : Nat → Nat) (a : Nat) : over c a 0 d = c := by
  funext x
  simp only [over]
  rw [if_neg (by omega)]
end Go.Proofs.YtnfcpohbdkionaaDoor
namespace Go.Proofs.YtnfcpohbdkionaaDoor
set_option maxRecDepth 100000
open Go.RowKit Go.ChangeMaps Go.MapKept
open Go.Maps (Keyed)
set_option linter.unusedVariables false
set_option linter.unusedSimpArgs false

theorem STL.lt {B g b : Nat} {W : World} {l : List (Nat × Nat)} {c : Nat → Nat} (h : STL B g b W l c) : ∀ pq ∈ l, pq.2 < W.heap.size := fun pq hpq => (h.2.2.2.1 pq hpq).2.2.2.1
theorem snew (W : World) : Calls Tryd.prog 26 #[] W fun e w' => ∃ g b, e = .returned (.pointer (some ⟨g, 0, none⟩)) ∧ STL W.heap.size g b w' [] (fun _ => 0) ∧ Below W.heap.size W w' := by
  have hmm := fun w => run_makeMap (P := Tryd.prog) 84 w
  go_enter Tryd.func26, Tryd.ntmps26
  go_wp2
  go_ret
  refine ⟨W.heap.size + 1, W.heap.size, by first | rfl | simp, ⟨by simp, ⟨by omega, by omega, by omega, by simp, by simp <;> omega⟩, ⟨#[], 0, ?_, by simp, by simp, by simp⟩, by simp, by simp, by simp⟩, ?_⟩
  · first | (simp; done) | (rw [Below.heap_alloc _ _ _ (by simp)]; show (W.heap.push _)[W.heap.size]? = _; simp)
  · exact alc (alc0 _ _) _
end Go.Proofs.YtnfcpohbdkionaaDoor
namespace Go.Proofs.YtnfcpohbdkionaaDoor
set_option maxRecDepth 100000
open Go.RowKit Go.ChangeMaps Go.MapKept
open Go.Maps (Keyed)
set_option linter.unusedVariables false
set_option linter.unusedSimpArgs false

theorem or_add (x V m : Nat) (hx : x < 2 ^ m) (hm : m ≤ 64) (a : Nat) (hV : V = a * 2 ^ m) (hV64 : V < 18446744073709551616) (hx64 : x + V < 18446744073709551616) : bits .or .u64 (x : Int) (V : Int) = ((x + V : Nat) : Int) := by
  have h1 : (BitVec.ofInt 64 (x : Int)).toNat = x := by rw [BitVec.ofInt_natCast, BitVec.toNat_ofNat]; exact Nat.mod_eq_of_lt (by omega)
  have h2 : (BitVec.ofInt 64 (V : Int)).toNat = V := by rw [BitVec.ofInt_natCast, BitVec.toNat_ofNat]; exact Nat.mod_eq_of_lt (by omega)
  show IntKind.u64.wrap ((BitVec.ofInt 64 (x : Int) ||| BitVec.ofInt 64 (V : Int)).toNat : Int) = _
  rw [BitVec.toNat_or, h1, h2, Nat.or_comm, hV, Nat.mul_comm, ← Nat.two_pow_add_eq_or_of_lt hx, IntKind.wrap_u64]
  rw [hV, Nat.mul_comm] at hx64
  omega
theorem wrap_shl (B m : Nat) : IntKind.u64.wrap ((B : Int) * 2 ^ m) = ((B * 2 ^ m % 18446744073709551616 : Nat) : Int) := by
  rw [IntKind.wrap_u64, Int.natCast_emod, Int.natCast_mul, Int.natCast_pow]
  rfl
/-- A number's bytes. -/
def wb (n : Nat) : Nat → Nat := fun j => n / 2 ^ (8 * j) % 256
/-- The number of i bytes. -/
def wn (f : Nat → Nat) : Nat → Nat
  | 0 => 0
  | i + 1 => wn f i + f i * 2 ^ (8 * i)
theorem wn_lt (f : Nat → Nat) (h : ∀ j, f j < 256) : ∀ i, wn f i < 2 ^ (8 * i)
  | 0 => by simp [wn]
  | i + 1 => by
    have h1 := wn_lt f h i
    have h2 := h i
    have e : 2 ^ (8 * (i + 1)) = 256 * 2 ^ (8 * i) := by rw [show 8 * (i + 1) = 8 + 8 * i by omega, Nat.pow_add]
    have h3 : f i * 2 ^ (8 * i) ≤ 255 * 2 ^ (8 * i) := Nat.mul_le_mul_right _ (by omega)
    rw [wn, e]
    omega
theorem PGn.set {D n : Nat} {W : World} {f : Nat → Nat} (h : PGn D n W f) (i x : Nat) (hi : i < n) : PGn D n (W.setCell ⟨D, i, none⟩ (.int .u8 (x : Int))) (fun j => if j = i then x else f j) := by
  refine ⟨by rw [show (W.setCell ⟨D, i, none⟩ (.int .u8 (x : Int))).heap.size = W.heap.size by simp [World.setCell]]; exact h.1, fun j hj => ?_, fun o => by rw [World.frozen?_setCell]; exact h.2.2 o⟩
  by_cases e : j = i
  · subst e
    simp only [if_true]
    exact World.cell?_setCell_same _ _ _ (h.2.1 j hj)
  · simp only [if_neg e]
    rw [World.cell?_setCell_other W ⟨D, i, none⟩ ⟨D, j, none⟩ _ (by intro e2; injection e2 with _ e2 _; exact e e2.symm)]
    exact h.2.1 j hj
end Go.Proofs.YtnfcpohbdkionaaDoor
namespace Go.Proofs.YtnfcpohbdkionaaDoor
set_option maxRecDepth 100000
open Go.RowKit Go.ChangeMaps Go.MapKept
open Go.Maps (Keyed)
set_option linter.unusedVariables false
set_option linter.unusedSimpArgs false

end Go.Proofs.YtnfcpohbdkionaaDoor
namespace Go.Proofs.YtnfcpohbdkionaaDoor
set_option maxRecDepth 100000
open Go.RowKit Go.ChangeMaps Go.MapKept
open Go.Maps (Keyed)
set_option linter.unusedVariables false
set_option linter.unusedSimpArgs false

end Go.Proofs.YtnfcpohbdkionaaDoor

