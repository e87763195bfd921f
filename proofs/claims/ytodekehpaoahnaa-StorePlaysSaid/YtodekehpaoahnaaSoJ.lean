/- The store: SetWord, Word. -/
import Derived.Test.YtodekehpaoahnaaSoI
namespace Go.Proofs.Ytodekehpaoahnaa
open Go.RowKit Go.ChangeMaps Go.MapKept
open Go.Maps (Keyed)
set_option linter.unusedVariables false
set_option linter.unusedSimpArgs false

theorem or_add (x V m : Nat) (hx : x < 2 ^ m) (hm : m ≤ 64) (a : Nat) (hV : V = a * 2 ^ m) (hV64 : V < 18446744073709551616) (hx64 : x + V < 18446744073709551616) : bits .or .u64 (x : Int) (V : Int) = ((x + V : Nat) : Int) := by
  have h1 : (BitVec.ofInt 64 (x : Int)).toNat = x := by rw [BitVec.ofInt_natCast, BitVec.toNat_ofNat]; exact Nat.mod_eq_of_lt (by omega)
  have h2 : (BitVec.ofInt 64 (V : Int)).toNat = V := by rw [BitVec.ofInt_natCast, BitVec.toNat_ofNat]; exact Nat.mod_eq_of_lt (by omega)
  show IntKind.u64.wrap ((BitVec.ofInt 64 (x : Int) ||| BitVec.ofInt 64 (V : Int)).toNat : Int) = _
  rw [BitVec.toNat_or, h1, h2, Nat.or_comm, hV, Nat.mul_comm, ← Nat.two_pow_add_eq_or_of_lt hx, IntKind.wrap_u64]
  rw [hV, Nat.mul_comm] at hx64
  omega
theorem wrap_shl (B m : Nat) : IntKind.u64.wrap ((B : Int) * 2 ^ m) = ((B * 2 ^ m % 18446744073709551616 : Nat) : Int) := by
  rw [IntKind.wrap_u64, Int.natCast_emod, Int.natCast_mul, Int.natCast_pow]
  rfl
/-- A number's bytes. -/
def wb (n : Nat) : Nat → Nat := fun j => n / 2 ^ (8 * j) % 256
/-- The number of i bytes. -/
def wn (f : Nat → Nat) : Nat → Nat
  | 0 => 0
  | i + 1 => wn f i + f i * 2 ^ (8 * i)
theorem wn_lt (f : Nat → Nat) (h : ∀ j, f j < 256) : ∀ i, wn f i < 2 ^ (8 * i)
  | 0 => by simp [wn]
  | i + 1 => by
    have h1 := wn_lt f h i
    have h2 := h i
    have e : 2 ^ (8 * (i + 1)) = 256 * 2 ^ (8 * i) := by rw [show 8 * (i + 1) = 8 + 8 * i by omega, Nat.pow_add]
    have h3 : f i * 2 ^ (8 * i) ≤ 255 * 2 ^ (8 * i) := Nat.mul_le_mul_right _ (by omega)
    rw [wn, e]
    omega
theorem PGn.set {D n : Nat} {W : World} {f : Nat → Nat} (h : PGn D n W f) (i x : Nat) (hi : i < n) : PGn D n (W.setCell ⟨D, i, none⟩ (.int .u8 (x : Int))) (fun j => if j = i then x else f j) := by
  refine ⟨by rw [show (W.setCell ⟨D, i, none⟩ (.int .u8 (x : Int))).heap.size = W.heap.size by simp [World.setCell]]; exact h.1, fun j hj => ?_, fun o => by rw [World.frozen?_setCell]; exact h.2.2 o⟩
  by_cases e : j = i
  · subst e
    simp only [if_true]
    exact World.cell?_setCell_same _ _ _ (h.2.1 j hj)
  · simp only [if_neg e]
    rw [World.cell?_setCell_other W ⟨D, i, none⟩ ⟨D, j, none⟩ _ (by intro e2; injection e2 with _ e2 _; exact e e2.symm)]
    exact h.2.1 j hj
set_option maxHeartbeats 3200000 in
theorem sset_any (p : Option Addr) (a : Int) (n : Nat) (W : World) (hn : n < 18446744073709551616) (Q : Ending → World → Prop)
    (hW : ∀ w, Below W.heap.size W w → PGn W.heap.size 8 w (wb n) → Calls Try.prog 7 #[.pointer p, .int .i64 a, .slice (some ⟨W.heap.size, 0, none⟩) 8 8] w fun e w' => ∃ x, e = .returned (.bool x) ∧ Q e w') :
    Calls Try.prog 9 #[.pointer p, .int .i64 a, .int .u64 (n : Int)] W Q := by
  have HW := Lib.hid hW
  have hmk : ∀ W, (Instr.makeSlice 26 (.int .i64 8) (.int .i64 8)).run Try.prog W = .ok (.slice (some ⟨W.heap.size, 0, none⟩) 8 8) (W.alloc (.cells (madeCells #[.int .u8 0] 8) 5)) := fun W => mkN 8 (by decide) W
  clear hW
  go_enter Try.func9, Try.ntmps9
  go_wp2_with fail
  obtain ⟨D, hD⟩ : ∃ D, W.heap.size = D := ⟨_, rfl⟩
  obtain ⟨w1, hw1⟩ : ∃ w1, W.alloc (.cells (madeCells #[.int .u8 0] 8) 5) = w1 := ⟨_, rfl⟩
  have HP0 : Hid (PGn D 8 w1 (fun j => if j < 0 then wb n j else 0)) := Lib.hid (by
    rw [← hw1, ← hD]
    exact ⟨by simp, fun j hj => by simp only [Nat.not_lt_zero, if_false]; exact made_cell W 8 _ j hj, fun o => made_frozen W 8 _ o⟩)
  have HB0 : Hid (Below W.heap.size W w1) := Lib.hid (by rw [← hw1]; exact alc0 _ _)
  have HDD := Lib.hid hD
  rw [hw1, hD]
  clear hw1 hD hmk
  go_loopw [12] (fun v12 wr => ∃ i : Nat, i ≤ 8 ∧ v12 = .int .i64 i ∧ Hid (PGn D 8 wr (fun j => if j < i then wb n j else 0)) ∧ Hid (Below W.heap.size W wr)) (fun v12 _ => 8 - (intOf v12).toNat)
  case atStart => exact ⟨0, by omega, rfl, HP0, HB0⟩
  case round =>
    clear HP0 HB0
    obtain ⟨i, hi, rfl, HP, HB⟩ := hrel
    by_cases hi8 : i < 8
    · have i1 : (i : Int) < 8 := by omega
      obtain ⟨m8, hm8⟩ : ∃ m8, 8 * i = m8 := ⟨_, rfl⟩
      obtain ⟨q, hq⟩ : ∃ q, n / 2 ^ m8 = q := ⟨_, rfl⟩
      have f1 : IntKind.i64.wrap (8 * (i : Int)) = (m8 : Int) := by rw [IntKind.wrap_i64]; omega
      have f2 : (n : Int) / 2 ^ m8 = (q : Int) := by rw [← hq, Int.natCast_ediv, Int.natCast_pow]; rfl
      have f3 : IntKind.u8.wrap (q : Int) = ((q % 256 : Nat) : Int) := by rw [IntKind.wrap_u8]; omega
      have hm64 : m8 < 64 := by omega
      have hm0 : (0 : Int) ≤ m8 := by omega
      have hqw : q % 256 = wb n i := by rw [wb, ← hq, hm8]
      obtain ⟨x, hx⟩ : ∃ x, q % 256 = x := ⟨_, rfl⟩
      rw [hx] at f3 hqw
      have ca := HP.out.2.1 i hi8
      have cf := HP.out.2.2 i
      simp only [Nat.lt_irrefl, if_false] at ca
      have HP2 : Hid (PGn D 8 (wr.setCell ⟨D, i, none⟩ (.int .u8 (x : Int))) (fun j => if j < i + 1 then wb n j else 0)) := Lib.hid ((HP.out.set i x hi8).congr (fun j hj => by
        by_cases e : j = i
        · subst e; rw [if_pos rfl, if_pos (by omega), hqw]
        · rw [if_neg e]
          by_cases e2 : j < i
          · rw [if_pos e2, if_pos (by omega)]
          · rw [if_neg e2, if_neg (by omega)]))
      have HB2 : Hid (Below W.heap.size W (wr.setCell ⟨D, i, none⟩ (.int .u8 (x : Int)))) := Lib.hid (HB.out.setCell (by show W.heap.size ≤ D; rw [HDD.out]; exact Nat.le_refl _) _)
      clear hm8 hq hx hqw
      go_wp2_with fail
      go_roundw
      case rel => exact ⟨i + 1, by omega, by go_num, HP2, HB2⟩
      case measure => simp [intOf] <;> omega
    · obtain rfl : i = 8 := by omega
      have HP8 : Hid (PGn D 8 wr (wb n)) := Lib.hid (HP.out.congr (fun j hj => by rw [if_pos hj]))
      have hc := HW.out wr HB.out (by rw [HDD.out]; exact HP8.out)
      rw [HDD.out] at hc
      have HC := Lib.hid hc
      clear hc
      go_wp2_with fail
      with_reducible refine Calls.mono HC.out ?_
      rintro e w5 ⟨x, rfl, hQ⟩
      have HQ := Lib.hid hQ
      clear hQ
      go_wp2
      exact HQ.out
set_option maxHeartbeats 3200000 in
theorem sword_no (p : Option Addr) (a : Int) (W : World) (h : p = none ∨ mayB a 8 = false) : Calls Try.prog 10 #[.pointer p, .int .i64 a] W fun e w' => e = .returned (.int .u64 0) ∧ Below W.heap.size W w' := by
  have H := Lib.hid h
  clear h
  go_enter Try.func10, Try.ntmps10
  go_wp2_with fail
  with_reducible refine Calls.mono (sread_no p a 8 W H.out) ?_
  rintro e w1 ⟨rfl, hb⟩
  have HB := Lib.hid hb
  clear hb
  go_wp2_with fail
  go_loopw [5, 12] (fun v5 v12 wr => v12 = .int .i64 0 ∧ v5 = .int .u64 0 ∧ w1 = wr) (fun _ _ _ => 0)
  case atStart => exact ⟨rfl, rfl, rfl⟩
  case round =>
    obtain ⟨rfl, rfl, rfl⟩ := hrel
    go_wp2
    go_ret
    exact ⟨rfl, HB.out⟩
set_option maxHeartbeats 3200000 in
theorem sword_yes (B g : Nat) (W : World) (c : Nat → Nat) (h : ST B g W c) (hc : ∀ x, c x < 256) (a : Nat) (ha : a + 8 ≤ 262144) : Calls Try.prog 10 #[.pointer (some ⟨g, 0, none⟩), .int .i64 (a : Int)] W fun e w' => e = .returned (.int .u64 (wn (fun j => c (a + j)) 8 : Nat)) ∧ Below W.heap.size W w' := by
  have H := Lib.hid h
  have HC : Hid (∀ j, (fun j => c (a + j)) j < 256) := Lib.hid (fun j => hc (a + j))
  clear h hc
  obtain ⟨f, hf⟩ : ∃ f : Nat → Nat, (fun j => c (a + j)) = f := ⟨_, rfl⟩
  rw [hf] at HC ⊢
  have HF := Lib.hid hf
  clear hf
  go_enter Try.func10, Try.ntmps10
  go_wp2_with fail
  with_reducible refine Calls.mono (sread_yes B g W c H.out a 8 (by decide) (by omega)) ?_
  rintro e w1 ⟨⟨D, rfl, hD, hp⟩, hb⟩
  have HB := Lib.hid hb
  have HP : Hid (PGn D 8 w1 f) := Lib.hid (by rw [← HF.out]; exact hp)
  clear hb hp hD
  go_wp2_with fail
  go_loopw [5, 12] (fun v5 v12 wr => ∃ i : Nat, i ≤ 8 ∧ v12 = .int .i64 i ∧ v5 = .int .u64 (wn f i : Nat) ∧ w1 = wr) (fun _ v12 _ => 8 - (intOf v12).toNat)
  case atStart => exact ⟨0, by omega, rfl, rfl, rfl⟩
  case round =>
    obtain ⟨i, hi, rfl, rfl, rfl⟩ := hrel
    by_cases hi8 : i < 8
    · have i1 : (i : Int) < 8 := by omega
      have ca := HP.out.2.1 i hi8
      obtain ⟨y, hy⟩ : ∃ y, f i = y := ⟨_, rfl⟩
      obtain ⟨u, hu⟩ : ∃ u, wn f i = u := ⟨_, rfl⟩
      obtain ⟨X, hX⟩ : ∃ X, wn f (i + 1) = X := ⟨_, rfl⟩
      have hy9 : y < 256 := by rw [← hy]; exact HC.out i
      have hul := wn_lt f HC.out i
      have hXl := wn_lt f HC.out (i + 1)
      have hXu : X = u + y * 2 ^ (8 * i) := by rw [← hX, wn, hu, hy]
      rw [hu] at hul
      rw [hX] at hXl
      have hX64 : X < 18446744073709551616 := Nat.lt_of_lt_of_le hXl (by rw [show (18446744073709551616 : Nat) = 2 ^ 64 from by decide]; exact Nat.pow_le_pow_right (by decide) (by omega))
      obtain ⟨m8, hm8⟩ : ∃ m8, 8 * i = m8 := ⟨_, rfl⟩
      rw [hm8] at hul hXu
      obtain ⟨V, hV⟩ : ∃ V, y * 2 ^ m8 = V := ⟨_, rfl⟩
      rw [hV] at hXu
      have f5 := or_add u V m8 hul (by omega) y hV.symm (by omega) (by omega)
      rw [← hXu] at f5
      have f4 := wrap_shl y m8
      rw [hV, Nat.mod_eq_of_lt (by omega)] at f4
      have f1 : IntKind.i64.wrap (8 * (i : Int)) = (m8 : Int) := by rw [IntKind.wrap_i64]; omega
      have f2 : IntKind.u64.wrap (y : Int) = (y : Int) := by rw [IntKind.wrap_u64]; omega
      have hm64 : m8 < 64 := by omega
      have hm0 : (0 : Int) ≤ m8 := by omega
      rw [hy] at ca
      rw [hu]
      have HXX := Lib.hid hX
      clear hX hu hy hXu hul hXl hV hm8 hX64 hy9
      go_wp2_with fail
      go_roundw
      case rel => exact ⟨i + 1, by omega, by go_num, by rw [HXX.out], by first | rfl | trivial⟩
      case measure => simp [intOf] <;> omega
    · obtain rfl : i = 8 := by omega
      go_wp2
      go_ret
      exact ⟨rfl, HB.out⟩
end Go.Proofs.Ytodekehpaoahnaa
