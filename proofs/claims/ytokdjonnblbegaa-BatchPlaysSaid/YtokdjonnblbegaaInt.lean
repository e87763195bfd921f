/- Plain facts on numbers, for the walks of this seat. -/
import Derived.WalkKit
import Derived.OpenShut
import Derived.Lib.Hide
namespace Go.Proofs.Ytokdjonnblbegaa
set_option maxRecDepth 100000
open Go.RowKit

theorem ret_int {k : IntKind} {a b : Int} (h : a = b) : Ending.returned (.int k a) = .returned (.int k b) := by rw [h]
theorem ret_bool {a b : Bool} (h : a = b) : Ending.returned (.bool a) = .returned (.bool b) := by rw [h]

theorem bcell {W w1 : World} (hb : Below W.heap.size W w1) : (∀ b o, b < W.heap.size → w1.cell? ⟨b, o, none⟩ = W.cell? ⟨b, o, none⟩) ∧ (∀ b o, b < W.heap.size → w1.frozen? ⟨b, o, none⟩ = W.frozen? ⟨b, o, none⟩) :=
  ⟨fun b o h => hb.cell (p := ⟨b, o, none⟩) h, fun b o h => hb.frozen (p := ⟨b, o, none⟩) h⟩

/-- One stretch of new memory behind another one. -/
theorem thn {a b c : World} (h : Below a.heap.size a b) (k : Below b.heap.size b c) : Below a.heap.size a c := h.trans (k.mono h.size)
theorem alc {a b : World} (h : Below a.heap.size a b) (o : Obj) : Below a.heap.size a (b.alloc o) := h.alloc h.size o
theorem alc0 (a : World) (o : Obj) : Below a.heap.size a (a.alloc o) := (Below.refl _ _).alloc (Nat.le_refl _) o

/-- Any int, and a mask of low bits. -/
theorem i64_mask (x : Int) (i : Nat) (hi : i ≤ 62) : bits .and .i64 x (2 ^ i - 1) = x % 2 ^ i := by
  have hpos : 0 < 2 ^ i := Nat.two_pow_pos i
  have hle : 2 ^ i ≤ 2 ^ 62 := Nat.pow_le_pow_right (by decide) hi
  have hc : ((2 : Int) ^ i - 1) = ((2 ^ i - 1 : Nat) : Int) := by
    rw [Int.natCast_sub hpos]; simp
  have h1 : (BitVec.ofInt 64 x).toNat = (x % 18446744073709551616).toNat := by
    rw [BitVec.toNat_ofInt]; rfl
  have h2 : (BitVec.ofInt 64 ((2 ^ i - 1 : Nat) : Int)).toNat = 2 ^ i - 1 := by
    rw [BitVec.ofInt_natCast, BitVec.toNat_ofNat]
    exact Nat.mod_eq_of_lt (by omega)
  rw [hc]
  show IntKind.i64.wrap ((BitVec.ofInt 64 x &&& BitVec.ofInt 64 ((2 ^ i - 1 : Nat) : Int)).toNat : Int) = _
  rw [BitVec.toNat_and, h1, h2, Nat.and_two_pow_sub_one_eq_mod]
  have hx0 : 0 ≤ x % 18446744073709551616 := Int.emod_nonneg _ (by decide)
  have e : (((x % 18446744073709551616).toNat % 2 ^ i : Nat) : Int) = x % 2 ^ i := by
    rw [Int.natCast_emod, Int.toNat_of_nonneg hx0]
    have hd : ((2 ^ i : Nat) : Int) ∣ 18446744073709551616 := by
      have : (2 ^ i : Nat) ∣ 2 ^ 64 := Nat.pow_dvd_pow 2 (by omega)
      have h' : ((2 ^ i : Nat) : Int) ∣ ((2 ^ 64 : Nat) : Int) := Int.natCast_dvd_natCast.2 this
      simpa using h'
    rw [Int.emod_emod_of_dvd _ hd]
    simp
  rw [e, IntKind.wrap_i64]
  have h3 : 0 ≤ x % 2 ^ i := Int.emod_nonneg _ (by have : (0 : Int) < 2 ^ i := Int.pow_pos (by decide); omega)
  have h4 : x % 2 ^ i < 2 ^ i := Int.emod_lt_of_pos _ (Int.pow_pos (by decide))
  have h5 : (2 : Int) ^ i ≤ 2 ^ 62 := by exact_mod_cast hle
  omega

theorem and1 (x : Int) : bits .and .i64 x 1 = x % 2 := i64_mask x 1 (by decide)
theorem and3 (x : Int) : bits .and .i64 x 3 = x % 4 := i64_mask x 2 (by decide)
theorem and7 (x : Int) : bits .and .i64 x 7 = x % 8 := i64_mask x 3 (by decide)
theorem and15 (x : Int) : bits .and .i64 x 15 = x % 16 := i64_mask x 4 (by decide)
theorem and31 (x : Int) : bits .and .i64 x 31 = x % 32 := i64_mask x 5 (by decide)
theorem and63 (x : Int) : bits .and .i64 x 63 = x % 64 := i64_mask x 6 (by decide)
theorem and127 (x : Int) : bits .and .i64 x 127 = x % 128 := i64_mask x 7 (by decide)
theorem and255 (x : Int) : bits .and .i64 x 255 = x % 256 := i64_mask x 8 (by decide)
theorem and511 (x : Int) : bits .and .i64 x 511 = x % 512 := i64_mask x 9 (by decide)
theorem and1023 (x : Int) : bits .and .i64 x 1023 = x % 1024 := i64_mask x 10 (by decide)
theorem and2047 (x : Int) : bits .and .i64 x 2047 = x % 2048 := i64_mask x 11 (by decide)
theorem and16383 (x : Int) : bits .and .i64 x 16383 = x % 16384 := i64_mask x 14 (by decide)
theorem and32767 (x : Int) : bits .and .i64 x 32767 = x % 32768 := i64_mask x 15 (by decide)
theorem and65535 (x : Int) : bits .and .i64 x 65535 = x % 65536 := i64_mask x 16 (by decide)
theorem and262143 (x : Int) : bits .and .i64 x 262143 = x % 262144 := i64_mask x 18 (by decide)
theorem and24 (x : Int) : bits .and .i64 x 16777215 = x % 16777216 := i64_mask x 24 (by decide)
end Go.Proofs.Ytokdjonnblbegaa
