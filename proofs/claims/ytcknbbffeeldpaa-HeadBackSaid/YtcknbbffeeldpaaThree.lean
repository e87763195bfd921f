/- Package three: numbers of three bytes in a row of bytes. -/
import Derived.Test.YtcknbbffeeldpaaDeriveA
import Derived.Laws.BitsAllLaws
namespace Go.Proofs.Ytcknbbffeeldpaa
open Go.RowKit
set_option linter.unusedVariables false
set_option linter.unusedSimpArgs false

/-- K bytes at block g. -/
def RowU (g K : Nat) (W : World) (f : Nat → Nat) : Prop :=
  g < W.heap.size ∧ ∀ i, i < K → W.cell? ⟨g, i, none⟩ = some (.int .u8 (f i : Int)) ∧ W.frozen? ⟨g, i, none⟩ = false
theorem sizeSet (W : World) (p : Addr) (v : Value) : (W.setCell p v).heap.size = W.heap.size := by simp [World.setCell]
theorem RowU.up {r K x : Nat} {W : World} {c c' : Nat → Nat} {v : Int} (h : RowU r K W c) (hx : x < K) (hv : v = (c' x : Nat)) (hc : ∀ k, k ≠ x → c' k = c k) : RowU r K (W.setCell ⟨r, x, none⟩ (.int .u8 v)) c' := by
  refine ⟨by rw [sizeSet]; exact h.1, fun i hi => ?_⟩
  obtain ⟨k1, k2⟩ := h.2 i hi
  refine ⟨?_, by simp [k2]⟩
  by_cases e : x = i
  · subst e
    rw [World.cell?_setCell_same _ _ _ k1, hv]
  · rw [World.cell?_setCell_other _ _ _ _ (by intro q; injection q with _ q; exact e q), k1, hc i (fun q => e q.symm)]
theorem RowU.keep {r K : Nat} {W W' : World} {c : Nat → Nat} (h : RowU r K W c) (hs : W.heap.size ≤ W'.heap.size) (hk : W'.heap[r]? = W.heap[r]?) : RowU r K W' c := by
  refine ⟨Nat.lt_of_lt_of_le h.1 hs, fun i hi => ?_⟩
  obtain ⟨h1, h2⟩ := h.2 i hi
  exact ⟨(World.cell?_of_block hk).trans h1, (World.frozen?_of_block hk).trans h2⟩
theorem RowU.below {r K : Nat} {W W' : World} {c : Nat → Nat} (h : RowU r K W c) (hb : Below W.heap.size W W') : RowU r K W' c := h.keep hb.size (hb.block r h.1)
/-- The j lowest bytes of n from place o on. -/
def put3 (f : Nat → Nat) (o n j : Nat) : Nat → Nat := fun y => if o ≤ y ∧ y < o + j then n / 256 ^ (y - o) % 256 else f y
/-- Only block g is another one. -/
def OnlyG (g : Nat) (W W' : World) : Prop := Below g W W' ∧ W'.heap.size = W.heap.size ∧ ∀ i, i ≠ g → W'.heap[i]? = W.heap[i]?
theorem OnlyG.refl (g : Nat) (W : World) : OnlyG g W W := ⟨Below.refl _ _, rfl, fun _ _ => rfl⟩
theorem OnlyG.set_ {g o : Nat} {W W' : World} {v : Value} (h : OnlyG g W W') : OnlyG g W (W'.setCell ⟨g, o, none⟩ v) :=
  ⟨h.1.setCell (Nat.le_refl _) _, by rw [sizeSet]; exact h.2.1, fun i hi => (Below.heap_setCell _ _ _ _ (by simpa using hi)).trans (h.2.2 i hi)⟩
theorem wu0 (n : Nat) : IntKind.u8.wrap (n : Int) = ((n % 256 : Nat) : Int) := by rw [IntKind.wrap_u8]; omega
theorem wu1 (n : Nat) : IntKind.u8.wrap ((n : Int) / 256) = ((n / 256 % 256 : Nat) : Int) := by rw [IntKind.wrap_u8]; omega
theorem wu2 (n : Nat) : IntKind.u8.wrap ((n : Int) / 65536) = ((n / 65536 % 256 : Nat) : Int) := by rw [IntKind.wrap_u8]; omega

set_option maxHeartbeats 800000 in
theorem tput (g o K len cap n : Nat) (f : Nat → Nat) (W : World) (H : RowU g K W f) (ho : o + 3 ≤ K) (hl : 3 ≤ len) (hl2 : len ≤ 1000) (hn : n < 16777216) :
    Calls Try.prog 38 #[.slice (some ⟨g, o, none⟩) len cap, .int .i64 n] W fun e w' => e = .returned (.bool true) ∧ RowU g K w' (put3 f o n 3) ∧ OnlyG g W w' := by
  have HH := Lib.hid H; clear H
  have l0 : ¬ (len : Int) < 3 := by omega
  have l1 : (0 : Int) < len := by omega
  have l2 : (1 : Int) < len := by omega
  have l3 : (2 : Int) < len := by omega
  have w0 := wu0 n
  have w1 := wu1 n
  have w2 := wu2 n
  have hz : put3 f o n 0 = f := by funext y; unfold put3; rw [if_neg (by omega)]
  go_enter Try.func38, Try.ntmps38
  go_wp2_with fail
  go_loopw [9] (fun v9 wr => ∃ j : Nat, j ≤ 3 ∧ v9 = .int .i64 (j : Nat) ∧ Hid (RowU g K wr (put3 f o n j)) ∧ Hid (OnlyG g W wr)) (fun v9 _ => 3 - (intOf v9).toNat)
  case atStart => exact ⟨0, by omega, rfl, Lib.hid (by rw [hz]; exact HH.out), Lib.hid (OnlyG.refl _ _)⟩
  case round =>
    clear hz HH
    obtain ⟨j, hj, rfl, HR, HO⟩ := hrel
    have hj4 : j = 0 ∨ j = 1 ∨ j = 2 ∨ j = 3 := by omega
    rcases hj4 with rfl | rfl | rfl | rfl
    · obtain ⟨k1, k2⟩ := HR.out.2 o (by omega)
      have HU := Lib.hid (HR.out.up (x := o) (c' := put3 f o n 1) (v := ((n % 256 : Nat) : Int)) (by omega) (by unfold put3; rw [if_pos (by omega)]; simp) (fun y hy => by unfold put3; split <;> split <;> first | rfl | omega))
      go_wp2_with fail
      go_roundw
      case rel => exact ⟨1, by omega, by go_num, HU, Lib.hid HO.out.set_⟩
      case measure => simp [intOf]
    · obtain ⟨k1, k2⟩ := HR.out.2 (o + 1) (by omega)
      have HU := Lib.hid (HR.out.up (x := o + 1) (c' := put3 f o n 2) (v := ((n / 256 % 256 : Nat) : Int)) (by omega) (by unfold put3; rw [if_pos (by omega)]; simp) (fun y hy => by unfold put3; split <;> split <;> first | rfl | omega))
      go_wp2_with fail
      go_roundw
      case rel => exact ⟨2, by omega, by go_num, HU, Lib.hid HO.out.set_⟩
      case measure => simp [intOf]
    · obtain ⟨k1, k2⟩ := HR.out.2 (o + 2) (by omega)
      have HU := Lib.hid (HR.out.up (x := o + 2) (c' := put3 f o n 3) (v := ((n / 65536 % 256 : Nat) : Int)) (by omega) (by unfold put3; rw [if_pos (by omega)]; simp) (fun y hy => by unfold put3; split <;> split <;> first | rfl | omega))
      go_wp2_with fail
      go_roundw
      case rel => exact ⟨3, by omega, by go_num, HU, Lib.hid HO.out.set_⟩
      case measure => simp [intOf]
    · go_wp2_with fail
      go_ret
      exact ⟨rfl, HR.out, HO.out⟩

/-- Or of numbers that share no bit. -/
theorem or_disj (a b i : Nat) (ha : a < 2 ^ i) (hs : 2 ^ i * b + a < 9223372036854775808) : bits .or .i64 (a : Int) ((2 ^ i * b : Nat) : Int) = ((2 ^ i * b + a : Nat) : Int) := by
  have h1 : (BitVec.ofInt 64 (a : Int)).toNat = a := by
    rw [BitVec.ofInt_natCast, BitVec.toNat_ofNat]; exact Nat.mod_eq_of_lt (by omega)
  have h2 : (BitVec.ofInt 64 ((2 ^ i * b : Nat) : Int)).toNat = 2 ^ i * b := by
    rw [BitVec.ofInt_natCast, BitVec.toNat_ofNat]; exact Nat.mod_eq_of_lt (by omega)
  show IntKind.i64.wrap ((BitVec.ofInt 64 (a : Int) ||| BitVec.ofInt 64 ((2 ^ i * b : Nat) : Int)).toNat : Int) = _
  rw [BitVec.toNat_or, h1, h2, Nat.or_comm, ← Nat.two_pow_add_eq_or_of_lt ha, IntKind.wrap_i64]
  omega
theorem or8 (a b : Nat) (ha : a < 256) (hb : b < 256) : bits .or .i64 (a : Int) ((b : Int) * 256) = (a : Int) + 256 * b := by
  have := or_disj a b 8 ha (by omega)
  rw [show ((2 ^ 8 * b : Nat) : Int) = (b : Int) * 256 by omega] at this
  rw [this]; omega
theorem or16 (a b c : Nat) (ha : a < 256) (hb : b < 256) (hc : c < 256) : bits .or .i64 ((a : Int) + 256 * b) ((c : Int) * 65536) = (a : Int) + 256 * b + 65536 * c := by
  have := or_disj (a + 256 * b) c 16 (by omega) (by omega)
  rw [show ((2 ^ 16 * c : Nat) : Int) = (c : Int) * 65536 by omega, show ((a + 256 * b : Nat) : Int) = (a : Int) + 256 * b by omega] at this
  rw [this]; omega
def get3 (f : Nat → Nat) (o : Nat) : Nat := f o + 256 * f (o + 1) + 65536 * f (o + 2)
set_option maxHeartbeats 800000 in
theorem tget (g o len cap a b c : Nat) (W : World) (k0 : W.cell? ⟨g, o, none⟩ = some (.int .u8 (a : Int))) (k1 : W.cell? ⟨g, o + 1, none⟩ = some (.int .u8 (b : Int))) (k2 : W.cell? ⟨g, o + 2, none⟩ = some (.int .u8 (c : Int))) (ha : a < 256) (hb : b < 256) (hc : c < 256) (hl : 3 ≤ len) (hl2 : len ≤ 1000) :
    Calls Try.prog 40 #[.slice (some ⟨g, o, none⟩) len cap] W fun e w' => e = .returned (.int .i64 (a + 256 * b + 65536 * c : Nat)) ∧ ∃ q, w' = W.drewN q := by
  have l0 : ¬ (len : Int) < 3 := by omega
  have l1 : (0 : Int) < len := by omega
  have l2 : (1 : Int) < len := by omega
  have l3 : (2 : Int) < len := by omega
  have e1 := or8 a b ha hb
  have e2 := or16 a b c ha hb hc
  go_enter Try.func40, Try.ntmps40
  go_wp2_with fail
  go_quiet (fail)
  go_wp2
  go_ret
  exact ⟨ret_int (by omega), _, rfl⟩
end Go.Proofs.Ytcknbbffeeldpaa
