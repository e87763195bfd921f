/- Int, Vz. -/
import Derived.WalkKit
import Derived.OpenShut
import Derived.Lib.Hide
import Derived.Test.YtanmmhbnjmglhaaRows
import Derived.ArgAppend
import Derived.Laws.AppendOwnNone
import Derived.Deep.MidRow
import Derived.Deep.Upon
namespace Go.Proofs.Ytanmmhbnjmglhaa
set_option maxRecDepth 100000
open Go.RowKit
theorem ret_int {k : IntKind} {a b : Int} (h : a = b) : Ending.returned (.int k a) = .returned (.int k b) := by rw [h]
theorem ret_bool {a b : Bool} (h : a = b) : Ending.returned (.bool a) = .returned (.bool b) := by rw [h]
/-- One stretch of new memory behind another one. -/
theorem thn {a b c : World} (h : Below a.heap.size a b) (k : Below b.heap.size b c) : Below a.heap.size a c := h.trans (k.mono h.size)
theorem alc {a b : World} (h : Below a.heap.size a b) (o : Obj) : Below a.heap.size a (b.alloc o) := h.alloc h.size o
theorem alc0 (a : World) (o : Obj) : Below a.heap.size a (a.alloc o) := (Below.refl _ _).alloc (Nat.le_refl _) o
/-- Any int, and a mask of low bits. -/
theorem i64_mask (x : Int) (i : Nat) (hi : i ≤ 62) : bits .and .i64 x (2 ^ i - 1) = x % 2 ^ i := by
  have hpos : 0 < 2 ^ i := Nat.two_pow_pos i
  have hle : 2 ^ i ≤ 2 ^ 62 := Nat.pow_le_pow_right (by decide) hi
  have hc : ((2 : Int) ^ i - 1) = ((2 ^ i - 1 : Nat) : Int) := by
    rw [Int.natCast_sub hpos]; simp
  have h1 : (BitVec.ofInt 64 x).toNat = (x % 18446744073709551616).toNat := by
    rw [BitVec.toNat_ofInt]; rfl
  have h2 : (BitVec.ofInt 64 ((2 ^ i - 1 : Nat) : Int)).toNat = 2 ^ i - 1 := by
    rw [BitVec.ofInt_natCast, BitVec.toNat_ofNat]
    exact Nat.mod_eq_of_lt (by omega)
  rw [hc]
  show IntKind.i64.wrap ((BitVec.ofInt 64 x &&& BitVec.ofInt 64 ((2 ^ i - 1 : Nat) : Int)).toNat : Int) = _
  rw [BitVec.toNat_and, h1, h2, Nat.and_two_pow_sub_one_eq_mod]
  have hx0 : 0 ≤ x % 18446744073709551616 := Int.emod_nonneg _ (by decide)
  have e : (((x % 18446744073709551616).toNat % 2 ^ i : Nat) : Int) = x % 2 ^ i := by
    rw [Int.natCast_emod, Int.toNat_of_nonneg hx0]
    have hd : ((2 ^ i : Nat) : Int) ∣ 18446744073709551616 := by
      have : (2 ^ i : Nat) ∣ 2 ^ 64 := Nat.pow_dvd_pow 2 (by omega)
      have h' : ((2 ^ i : Nat) : Int) ∣ ((2 ^ 64 : Nat) : Int) := Int.natCast_dvd_natCast.2 this
      simpa using h'
    rw [Int.emod_emod_of_dvd _ hd]
    simp
  rw [e, IntKind.wrap_i64]
  have h3 : 0 ≤ x % 2 ^ i := Int.emod_nonneg _ (by have : (0 : Int) < 2 ^ i := Int.pow_pos (by decide); omega)
  have h4 : x % 2 ^ i < 2 ^ i := Int.emod_lt_of_pos _ (Int.pow_pos (by decide))
  have h5 : (2 : Int) ^ i ≤ 2 ^ 62 := by exact_mod_cast hle
  omega
theorem and3 (x : Int) : bits .and .i64 x 3 = x % 4 := i64_mask x 2 (by decide)
theorem and7 (x : Int) : bits .and .i64 x 7 = x % 8 := i64_mask x 3 (by decide)
theorem and63 (x : Int) : bits .and .i64 x 63 = x % 64 := i64_mask x 6 (by decide)
theorem and255 (x : Int) : bits .and .i64 x 255 = x % 256 := i64_mask x 8 (by decide)
theorem and24 (x : Int) : bits .and .i64 x 16777215 = x % 16777216 := i64_mask x 24 (by decide)
end Go.Proofs.Ytanmmhbnjmglhaa
namespace Go.Proofs.Ytanmmhbnjmglhaa
open Go.RowKit
set_option linter.unusedVariables false
set_option linter.unusedSimpArgs false
theorem heap_other (W : World) (g o : Nat) (v : Value) (i : Nat) (h : i ≠ g) : (W.setCell ⟨g, o, none⟩ v).heap[i]? = W.heap[i]? := Below.heap_setCell W ⟨g, o, none⟩ v i h
theorem size_set (W : World) (p : Addr) (v : Value) : (W.setCell p v).heap.size = W.heap.size := by simp [World.setCell]
theorem addp (b off : Nat) (i : Nat) : (⟨b, off, none⟩ : Addr).add i = ⟨b, off + i, none⟩ := by unfold Addr.add; split <;> simp_all
theorem setCells_below (L b : Nat) (hL : L ≤ b) : ∀ (vs : List Value) (o : Nat) (a w : World), Below L a w → Below L a (w.setCells b o vs)
  | [], _, _, _, h => h
  | v :: r, o, a, w, h => setCells_below L b hL r (o + 1) a _ (h.setCell hL v)
theorem setCells_size (b : Nat) (vs : List Value) (o : Nat) (w : World) : (w.setCells b o vs).heap.size = w.heap.size := by
  induction vs generalizing o w with
  | nil => rfl
  | cons v r ih => rw [World.setCells, ih, size_set]
/-- So many cells, one behind the other. -/
def At (W : World) (b off : Nat) (cs : List Value) : Prop := ∀ j u, cs[j]? = some u → W.cell? ⟨b, off + j, none⟩ = some u
theorem At.keep {W W' : World} {b off : Nat} {cs : List Value} (h : At W b off cs) (hb : W'.heap[b]? = W.heap[b]?) : At W' b off cs := fun j u hu => (World.cell?_of_block hb).trans (h j u hu)
/-- A slice of n elements of sz cells each, in block b, with room behind it that may be written; cs are its cells. -/
def VZ (sz b : Nat) (W : World) (v : Value) (n : Nat) (cs : List Value) : Prop :=
  ∃ A c, v = .slice A n c ∧ cs.length = n * sz ∧ n ≤ c ∧ c ≤ 9223372036854775807 ∧ (∀ u ∈ cs, u.oneCell' = true) ∧
    ((A = none ∧ n = 0 ∧ c = 0) ∨ ∃ off, A = some ⟨b, off, none⟩ ∧ b < W.heap.size ∧ At W b off cs ∧ ∀ i, i < c * sz → (W.cell? ⟨b, off + i, none⟩).isSome = true ∧ W.frozen? ⟨b, off + i, none⟩ = false)
theorem VZ.keep {sz b : Nat} {W W' : World} {v : Value} {n : Nat} {cs : List Value} (h : VZ sz b W v n cs) (hs : W.heap.size ≤ W'.heap.size) (hb : b < W.heap.size → W'.heap[b]? = W.heap[b]?) : VZ sz b W' v n cs := by
  obtain ⟨A, c, e, h1, h2, h3, h4, h | ⟨off, e2, hl, hc, hsp⟩⟩ := h
  · exact ⟨A, c, e, h1, h2, h3, h4, .inl h⟩
  · have hb := hb hl
    exact ⟨A, c, e, h1, h2, h3, h4, .inr ⟨off, e2, Nat.lt_of_lt_of_le hl hs, hc.keep hb, fun i hi => ⟨by rw [World.cell?_of_block hb]; exact (hsp i hi).1, (World.frozen?_of_block hb).trans (hsp i hi).2⟩⟩⟩
theorem VZ.below {sz b : Nat} {W W' : World} {v : Value} {n : Nat} {cs : List Value} (h : VZ sz b W v n cs) (hb : Below W.heap.size W W') : VZ sz b W' v n cs := h.keep hb.size (hb.block b)
end Go.Proofs.Ytanmmhbnjmglhaa
