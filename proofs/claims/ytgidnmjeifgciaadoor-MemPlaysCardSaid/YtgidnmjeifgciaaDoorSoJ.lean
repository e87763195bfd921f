/- The store: SetWord, Word. -/
import Derived.Test.YtgidnmjeifgciaaDoorSoI
namespace Go.Proofs.YtgidnmjeifgciaaDoor
set_option maxRecDepth 100000
open Go.RowKit Go.ChangeMaps Go.MapKept
open Go.Maps (Keyed)
set_option linter.unusedVariables false
set_option linter.unusedSimpArgs false

theorem or_add (x V m : Nat) (hx : x < 2 ^ m) (hm : m ≤ 64) (a : Nat) (hV : V = a * 2 ^ m) (hV64 : V < 18446744073709551616) (hx64 : x + V < 18446744073709551616) : bits .or .u64 (x : Int) (V : Int) = ((x + V : Nat) : Int) := by
  have h1 : (BitVec.ofInt 64 (x : Int)).toNat = x := by rw [BitVec.ofInt_natCast, BitVec.toNat_ofNat]; exact Nat.mod_eq_of_lt (by omega)
  have h2 : (BitVec.ofInt 64 (V : Int)).toNat = V := by rw [BitVec.ofInt_natCast, BitVec.toNat_ofNat]; exact Nat.mod_eq_of_lt (by omega)
  show IntKind.u64.wrap ((BitVec.ofInt 64 (x : Int) ||| BitVec.ofInt 64 (V : Int)).toNat : Int) = _
  rw [BitVec.toNat_or, h1, h2, Nat.or_comm, hV, Nat.mul_comm, ← Nat.two_pow_add_eq_or_of_lt hx, IntKind.wrap_u64]
  rw [hV, Nat.mul_comm] at hx64
  omega
theorem wrap_shl (B m : Nat) : IntKind.u64.wrap ((B : Int) * 2 ^ m) = ((B * 2 ^ m % 18446744073709551616 : Nat) : Int) := by
  rw [IntKind.wrap_u64, Int.natCast_emod, Int.natCast_mul, Int.natCast_pow]
  rfl
/-- A number's bytes. -/
def wb (n : Nat) : Nat → Nat := fun j => n / 2 ^ (8 * j) % 256
/-- The number of i bytes. -/
def wn (f : Nat → Nat) : Nat → Nat
  | 0 => 0
  | i + 1 => wn f i + f i * 2 ^ (8 * i)
theorem wn_lt (f : Nat → Nat) (h : ∀ j, f j < 256) : ∀ i, wn f i < 2 ^ (8 * i)
  | 0 => by simp [wn]
  | i + 1 => by
    have h1 := wn_lt f h i
    have h2 := h i
    have e : 2 ^ (8 * (i + 1)) = 256 * 2 ^ (8 * i) := by rw [show 8 * (i + 1) = 8 + 8 * i by omega, Nat.pow_add]
    have h3 : f i * 2 ^ (8 * i) ≤ 255 * 2 ^ (8 * i) := Nat.mul_le_mul_right _ (by omega)
    rw [wn, e]
    omega
theorem PGn.set {D n : Nat} {W : World} {f : Nat → Nat} (h : PGn D n W f) (i x : Nat) (hi : i < n) : PGn D n (W.setCell ⟨D, i, none⟩ (.int .u8 (x : Int))) (fun j => if j = i then x else f j) := by
  refine ⟨by rw [show (W.setCell ⟨D, i, none⟩ (.int .u8 (x : Int))).heap.size = W.heap.size by simp [World.setCell]]; exact h.1, fun j hj => ?_, fun o => by rw [World.frozen?_setCell]; exact h.2.2 o⟩
  by_cases e : j = i
  · subst e
    simp only [if_true]
    exact World.cell?_setCell_same _ _ _ (h.2.1 j hj)
  · simp only [if_neg e]
    rw [World.cell?_setCell_other W ⟨D, i, none⟩ ⟨D, j, none⟩ _ (by intro e2; injection e2 with _ e2 _; exact e e2.symm)]
    exact h.2.1 j hj
end Go.Proofs.YtgidnmjeifgciaaDoor
