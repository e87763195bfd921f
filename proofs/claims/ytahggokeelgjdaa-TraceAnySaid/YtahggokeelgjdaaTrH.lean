/- The reader: number. -/
import Derived.Test.YtahggokeelgjdaaTrG
namespace Go.Proofs.Ytahggokeelgjdaa
open Go.RowKit
set_option linter.unusedVariables false
set_option linter.unusedSimpArgs false

/-- A string's bytes. -/
def sb (s : ByteArray) : List Nat := s.data.toList.map UInt8.toNat
theorem sb_size (s : ByteArray) : (sb s).length = s.size := by simp [sb]
theorem sb_lt (s : ByteArray) : ∀ x ∈ sb s, x < 256 := by
  intro x hx
  obtain ⟨y, _, rfl⟩ := List.mem_map.1 hx
  exact y.toNat_lt
theorem sb_drop (s : ByteArray) (n : Nat) : sb (s.extract n s.size) = (sb s).drop n := by
  simp only [sb, ByteArray.data_extract, Array.toList_extract, List.extract]
  rw [List.take_of_length_le (by simp), List.map_drop]
theorem sb_take (s : ByteArray) (n : Nat) : sb (s.extract 0 n) = (sb s).take n := by
  simp [sb, ByteArray.data_extract, Array.toList_extract, List.extract, List.map_take]
theorem sb_ext {s t : ByteArray} (h : sb s = sb t) : s = t := by
  have h1 : s.data.toList = t.data.toList := List.map_inj_right (fun a b h => UInt8.toNat_inj.1 h) |>.1 h
  have h2 : s.data = t.data := Array.toList_inj.1 h1
  cases s; cases t; simp at h2; rw [h2]
/-- What a number is that bytes begin with, and what is behind it. -/
def rdN : Nat → Nat → Nat → List Nat → Option (Nat × List Nat)
  | 0, _, _, _ => none
  | _ + 1, _, _, [] => none
  | k + 1, i, x, b :: r => if b < 128 then some (x + b % 128 * 2 ^ (7 * i) % 18446744073709551616, r) else rdN k (i + 1) (x + b % 128 * 2 ^ (7 * i) % 18446744073709551616) r
def unzig (x : Nat) : Int := if x % 2 = 0 then (x / 2 : Nat) else -((x / 2 : Nat) : Int) - 1
theorem unzig_zig (n : Int) : unzig (zig n) = n := by
  unfold unzig zig
  split <;> split <;> omega
theorem u8_and127 (b : Nat) (hb : b < 256) : bits .and .u8 (b : Int) 127 = ((b % 128 : Nat) : Int) := by
  have h : ∀ b : Fin 256, bits .and .u8 ((b : Nat) : Int) 127 = (((b : Nat) % 128 : Nat) : Int) := by decide +kernel
  exact h ⟨b, hb⟩
theorem or_add (x V m : Nat) (hx : x < 2 ^ m) (hm : m ≤ 64) (a : Nat) (hV : V = a * 2 ^ m) (hV64 : V < 18446744073709551616) (hx64 : x + V < 18446744073709551616) : bits .or .u64 (x : Int) (V : Int) = ((x + V : Nat) : Int) := by
  have h1 : (BitVec.ofInt 64 (x : Int)).toNat = x := by rw [BitVec.ofInt_natCast, BitVec.toNat_ofNat]; exact Nat.mod_eq_of_lt (by omega)
  have h2 : (BitVec.ofInt 64 (V : Int)).toNat = V := by rw [BitVec.ofInt_natCast, BitVec.toNat_ofNat]; exact Nat.mod_eq_of_lt (by omega)
  show IntKind.u64.wrap ((BitVec.ofInt 64 (x : Int) ||| BitVec.ofInt 64 (V : Int)).toNat : Int) = _
  rw [BitVec.toNat_or, h1, h2, Nat.or_comm, hV, Nat.mul_comm, ← Nat.two_pow_add_eq_or_of_lt hx, IntKind.wrap_u64]
  rw [hV, Nat.mul_comm] at hx64
  omega
theorem wrap_shl (B m : Nat) : IntKind.u64.wrap ((B : Int) * 2 ^ m) = ((B * 2 ^ m % 18446744073709551616 : Nat) : Int) := by
  rw [IntKind.wrap_u64, Int.natCast_emod, Int.natCast_mul, Int.natCast_pow]
  rfl
theorem xi_zero (h : Nat) (hh : h < 9223372036854775808) : bits .xor .i64 (h : Int) 0 = h := by
  have h1 : (BitVec.ofInt 64 (h : Int)).toNat = h := by rw [BitVec.ofInt_natCast, BitVec.toNat_ofNat]; exact Nat.mod_eq_of_lt (by omega)
  show IntKind.i64.wrap ((BitVec.ofInt 64 (h : Int) ^^^ BitVec.ofInt 64 0).toNat : Int) = _
  have h2 : BitVec.ofInt 64 0 = 0#64 := rfl
  rw [h2, BitVec.xor_zero, h1, IntKind.wrap_i64]
  omega
theorem xi_ones (h : Nat) (hh : h < 9223372036854775808) : bits .xor .i64 (h : Int) (-1) = -(h : Int) - 1 := by
  have h1 : (BitVec.ofInt 64 (h : Int)).toNat = h := by rw [BitVec.ofInt_natCast, BitVec.toNat_ofNat]; exact Nat.mod_eq_of_lt (by omega)
  show IntKind.i64.wrap ((BitVec.ofInt 64 (h : Int) ^^^ BitVec.ofInt 64 (-1)).toNat : Int) = _
  have h2 : BitVec.ofInt 64 (-1) = BitVec.allOnes 64 := by decide
  rw [h2, BitVec.xor_allOnes, BitVec.toNat_not, h1, IntKind.wrap_i64]
  omega
theorem u64_and1 (x : Nat) (hx : x < 18446744073709551616) : bits .and .u64 (x : Int) 1 = ((x % 2 : Nat) : Int) := by
  have h1 : (BitVec.ofInt 64 (x : Int)).toNat = x := by rw [BitVec.ofInt_natCast, BitVec.toNat_ofNat]; exact Nat.mod_eq_of_lt (by omega)
  have h2 : (BitVec.ofInt 64 (1 : Int)).toNat = 2 ^ 1 - 1 := rfl
  show IntKind.u64.wrap ((BitVec.ofInt 64 (x : Int) &&& BitVec.ofInt 64 (1 : Int)).toNat : Int) = _
  rw [BitVec.toNat_and, h1, h2, Nat.and_two_pow_sub_one_eq_mod, IntKind.wrap_u64]
  omega
theorem mulmod (B m : Nat) (hm : m ≤ 63) : ∃ a, B * 2 ^ m % 18446744073709551616 = a * 2 ^ m ∧ a ≤ B ∧ (a + 1) * 2 ^ m ≤ 18446744073709551616 := by
  have e : (18446744073709551616 : Nat) = 2 ^ (64 - m) * 2 ^ m := by rw [← Nat.pow_add, show 64 - m + m = 64 by omega]
  refine ⟨B % 2 ^ (64 - m), ?_, Nat.mod_le _ _, ?_⟩
  · rw [e, Nat.mul_mod_mul_right]
  · rw [e]
    exact Nat.mul_le_mul_right _ (Nat.mod_lt _ (Nat.two_pow_pos _))
theorem index0 (s1 : ByteArray) (b : Nat) (h : sb s1 = [b]) : ∀ w, (Instr.index 9 (.string s1) (.int .i64 0)).run Try.prog w = .ok (.int .u8 (b : Int)) w := by
  intro w
  have hz : s1.size = 1 := by rw [← sb_size, h]; rfl
  have hb0 : ∀ h, (s1[0]'h).toNat = b := fun h0 => by
    have h8 : (sb s1)[0]? = some b := by rw [h]; rfl
    have hd : 0 < s1.data.size := by have : s1.data.size = 1 := hz; omega
    rw [sb, List.getElem?_map, Array.getElem?_toList, Array.getElem?_eq_getElem hd] at h8
    exact Option.some.inj h8
  rw [run_index_string w 9 s1 .i64 0 Try.underlying9, dif_pos ⟨by decide, by omega⟩]
  show Result.ok (Value.int .u8 (((s1[0]'_).toNat : Nat) : Int)) w = _
  rw [hb0]
theorem wpl_index {P : Program} {ops : Array Oper} {rest : List Oper} {op : Oper} {a : Act} {w : World} {Q : Exit → Act → World → Prop} (hgd : op.guard = none) (t : TypeId) (x y : Operand) (ho : op.op = .index t x y)
    (X Y v : Value) (hx : a.eval x = X) (hy : a.eval y = Y) (hr : (Instr.index t X Y).run P w = .ok v w)
    (h : wpList P ops Q rest (a.put op.dst v) w) : wpList P ops Q (op :: rest) a w :=
  wpList_plain hgd fun _ hK => by
    unfold Oper.wp execOp
    simp only [ho, hx, hy, Sem.run_bind, Sem.run_pure, Result.andThen_ok, hr]
    exact hK _ _ h
set_option maxHeartbeats 3200000 in
theorem rnum_ok (g : Nat) (s : ByteArray) (W : World) (x : Nat) (r : List Nat) (h : RdAt g W s false) (hr : rdN 10 0 0 (sb s) = some (x, r)) :
    Calls Try.prog 24 #[.pointer (some ⟨g, 0, none⟩)] W fun e w' => e = .returned (.int .i64 (unzig x)) ∧ (∃ s', sb s' = r ∧ RdAt g w' s' false) ∧ OB g W w' := by
  have H := Lib.hid h
  have HR := Lib.hid hr
  clear h hr
  go_enter Try.func24, Try.ntmps24
  go_wp2_with fail
  go_loopw [3, 6] (fun v3 v6 wr => ∃ (i x' : Nat) (s' : ByteArray), i ≤ 10 ∧ v6 = .int .i64 i ∧ v3 = .int .u64 x' ∧ Hid (x' < 2 ^ (7 * i) ∧ x' < 18446744073709551616) ∧ Hid (rdN (10 - i) i x' (sb s') = some (x, r)) ∧ Hid (RdAt g wr s' false) ∧ Hid (OB g W wr)) (fun _ v6 _ => 10 - (intOf v6).toNat)
  case atStart => exact ⟨0, 0, s, by omega, rfl, rfl, Lib.hid ⟨by decide, by decide⟩, HR, H, Lib.hid (OB.of_below (Below.refl _ _))⟩
  case round =>
    clear H HR
    obtain ⟨i, x', s', hi, rfl, rfl, HX, HR, H, HO⟩ := hrel
    have hi9 : i < 10 := by
      have := HR.out
      by_cases hh : i < 10
      · exact hh
      · obtain rfl : i = 10 := by omega
        simp [rdN] at this
    obtain ⟨k, hk⟩ : ∃ k, 10 - i = k + 1 := ⟨9 - i, by omega⟩
    obtain ⟨b, t, hbt⟩ : ∃ b t, sb s' = b :: t := by
      have := HR.out
      rw [hk] at this
      cases h : sb s' with
      | nil => rw [h] at this; simp [rdN] at this
      | cons b t => exact ⟨b, t, rfl⟩
    have hsz : 1 ≤ s'.size := by rw [← sb_size, hbt]; simp
    have hb : b < 256 := sb_lt s' b (by rw [hbt]; simp)
    have i1 : (i : Int) < 10 := by omega
    have HBT := Lib.hid hbt
    have HK := Lib.hid hk
    clear hbt hk
    go_wp2_with fail
    refine (rtake_ok g 1 s' false wr H.out hsz).mono ?_
    rintro e w2 ⟨rfl, hr2, ho2⟩
    have HR2 := Lib.hid hr2
    have HO2 := Lib.hid ho2
    obtain ⟨q1, q2, q3, q4⟩ := hr2
    clear ho2
    have hs1 : sb (s'.extract 0 1) = [b] := by rw [sb_take, HBT.out]; rfl
    obtain ⟨s1, he1⟩ : ∃ s1, s'.extract 0 1 = s1 := ⟨_, rfl⟩
    rw [he1] at hs1 ⊢
    have hz1 : s1.size = 1 := by rw [← sb_size, hs1]; rfl
    have HS1 := Lib.hid hs1
    clear hs1 he1
    go_upto_region 8 with (fail)
    have hi7 : 7 * i ≤ 63 := by omega
    obtain ⟨a, ha, haB, ha64⟩ := mulmod (b % 128) (7 * i) hi7
    obtain ⟨V, hV⟩ : ∃ V, b % 128 * 2 ^ (7 * i) % 18446744073709551616 = V := ⟨_, rfl⟩
    have hB : b % 128 < 128 := Nat.mod_lt _ (by decide)
    have hx2 := HX.out.1
    have hp : 0 < 2 ^ (7 * i) := Nat.two_pow_pos _
    have hxv : x' + V < 18446744073709551616 ∧ x' + V < 2 ^ (7 * (i + 1)) := by
      have e1 : (a + 1) * 2 ^ (7 * i) = a * 2 ^ (7 * i) + 2 ^ (7 * i) := by rw [Nat.add_mul, Nat.one_mul]
      have e2 : 2 ^ (7 * (i + 1)) = 128 * 2 ^ (7 * i) := by rw [show 7 * (i + 1) = 7 + 7 * i by omega, Nat.pow_add]
      have e3 : a * 2 ^ (7 * i) ≤ 127 * 2 ^ (7 * i) := Nat.mul_le_mul_right _ (by omega)
      have e4 : 128 * 2 ^ (7 * i) = 127 * 2 ^ (7 * i) + 2 ^ (7 * i) := by omega
      constructor <;> omega
    have f5 := or_add x' V (7 * i) hx2 (by omega) a (by rw [← hV]; exact ha) (by omega) hxv.1
    have f4 := wrap_shl (b % 128) (7 * i)
    rw [hV] at f4
    have f1 := u8_and127 b hb
    have f2 : IntKind.u64.wrap (((b % 128 : Nat)) : Int) = ((b % 128 : Nat) : Int) := by rw [IntKind.wrap_u64]; omega
    have f3 : IntKind.i64.wrap (7 * (i : Int)) = ((7 * i : Nat) : Int) := by rw [IntKind.wrap_i64]; omega
    have HXV := Lib.hid hxv
    have HV := Lib.hid hV
    obtain ⟨Bm, hBm⟩ : ∃ Bm, b % 128 = Bm := ⟨_, rfl⟩
    obtain ⟨m7, hm7⟩ : ∃ m7, 7 * i = m7 := ⟨_, rfl⟩
    have HM : Hid (b % 128 = Bm ∧ 7 * i = m7) := Lib.hid ⟨hBm, hm7⟩
    rw [hBm] at f1 f2 f4
    rw [hm7] at f3 f4
    rw [hm7] at hi7
    clear hBm hm7
    have hix := index0 s1 b HS1.out
    clear ha haB ha64 hV hxv hx2 hp hB hb q4 hsz hz1
    go_upto_region 9 with (refine wpl_index rfl 9 (.tmp 16) _ rfl _ _ _ rfl rfl (hix _) ?_)
    obtain ⟨X, hXX⟩ : ∃ X, x' + V = X := ⟨_, rfl⟩
    have hXI : (x' : Int) + (V : Int) = (X : Int) := by omega
    rw [hXI]
    clear hXI
    have HXX := Lib.hid hXX
    have hX64 : X < 18446744073709551616 := by rw [← hXX]; exact HXV.out.1
    clear f5 f4 f3 f2 f1 hXX
    have hst : (b < 128 ∧ X = x ∧ t = r) ∨ (¬ b < 128 ∧ rdN (10 - (i + 1)) (i + 1) X t = some (x, r)) := by
      have h := HR.out
      rw [HBT.out, HK.out, rdN, HV.out, HXX.out] at h
      by_cases h8 : b < 128
      · rw [if_pos h8] at h
        have h9 := Option.some.inj h
        injection h9 with e1 e2
        exact .inl ⟨h8, e1, e2⟩
      · rw [if_neg h8] at h
        refine .inr ⟨h8, ?_⟩
        have := HK.out
        rw [show 10 - (i + 1) = k by omega]
        exact h
    have HSB : Hid (sb (s'.extract 1 s'.size) = t) := Lib.hid (by rw [sb_drop, HBT.out]; rfl)
    have HO3 : Hid (OB g W w2) := Lib.hid (HO.out.trans HO2.out (.inl rfl))
    rcases hst with ⟨h8, rfl, rfl⟩ | ⟨h8, hrd⟩
    · have i8 : (b : Int) < 128 := by omega
      have g1 := u64_and1 X hX64
      have g2 : IntKind.i64.wrap ((X : Int) / 2) = ((X / 2 : Nat) : Int) := by rw [IntKind.wrap_i64]; omega
      have hX2 : X / 2 < 9223372036854775808 := by omega
      have he2 : (X : Int) / 2 = ((X / 2 : Nat) : Int) := by omega
      obtain ⟨U, hU⟩ : ∃ U, unzig X = U := ⟨_, rfl⟩
      have HU := Lib.hid hU
      rcases (show X % 2 = 0 ∨ X % 2 = 1 by omega) with hm | hm
      · rw [hm] at g1
        have g3 : bits .xor .i64 ((X : Int) / 2) 0 = U := by rw [he2, xi_zero (X / 2) hX2, ← hU, unzig, if_pos hm]
        clear hX64 hX2 hm h8 hU he2
        go_wp2_with (refine wpl_index rfl 9 (.tmp 24) _ rfl _ _ _ rfl rfl (hix _) ?_)
        go_ret
        exact ⟨ret_int HU.out.symm, ⟨_, HSB.out, HR2.out⟩, HO3.out⟩
      · rw [hm] at g1
        have g3 : bits .xor .i64 ((X : Int) / 2) (-1) = U := by rw [he2, xi_ones (X / 2) hX2, ← hU, unzig, if_neg (by omega)]
        clear hX64 hX2 hm h8 hU he2
        go_wp2_with (refine wpl_index rfl 9 (.tmp 24) _ rfl _ _ _ rfl rfl (hix _) ?_)
        go_ret
        exact ⟨ret_int HU.out.symm, ⟨_, HSB.out, HR2.out⟩, HO3.out⟩
    · have i8 : ¬ (b : Int) < 128 := by omega
      have HRD := Lib.hid hrd
      have HX3 : Hid (X < 2 ^ (7 * (i + 1)) ∧ X < 18446744073709551616) := Lib.hid (by have := HXV.out; rw [HXX.out] at this; exact ⟨this.2, this.1⟩)
      have HRs : Hid (rdN (10 - (i + 1)) (i + 1) X (sb (s'.extract 1 s'.size)) = some (x, r)) := Lib.hid (by rw [HSB.out]; exact HRD.out)
      clear hX64 h8 hrd
      go_wp2_with (refine wpl_index rfl 9 (.tmp 24) _ rfl _ _ _ rfl rfl (hix _) ?_)
      go_roundw
      case rel => exact ⟨i + 1, X, _, by omega, by go_num, rfl, HX3, HRs, HR2, HO3⟩
      case measure => simp [intOf] <;> omega
end Go.Proofs.Ytahggokeelgjdaa
