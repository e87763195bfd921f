/- The reader: number, where something is wrong. -/
import Derived.Test.YtahggokeelgjdaaTrH
namespace Go.Proofs.Ytahggokeelgjdaa
open Go.RowKit
set_option linter.unusedVariables false
set_option linter.unusedSimpArgs false

theorem rnum_wrong (g : Nat) (s : ByteArray) (W : World) (h : RdAt g W s true) :
    Calls Try.prog 24 #[.pointer (some ⟨g, 0, none⟩)] W fun e w' => e = .returned (.int .i64 0) ∧ (∃ s', RdAt g w' s' true) ∧ OB g W w' := by
  have H := Lib.hid h
  clear h
  go_enter Try.func24, Try.ntmps24
  go_wp2_with fail
  go_loopw [3, 6] (fun v3 v6 wr => v6 = .int .i64 0 ∧ v3 = .int .u64 0 ∧ W = wr) (fun _ _ _ => 0)
  case atStart => exact ⟨rfl, rfl, rfl⟩
  case round =>
    obtain ⟨rfl, rfl, rfl⟩ := hrel
    go_wp2_with fail
    by_cases hs : 1 ≤ s.size
    · refine (rtake_ok g 1 s true W H.out hs).mono ?_
      rintro e w2 ⟨rfl, hr2, ho2⟩
      have HR2 := Lib.hid hr2
      have HO2 := Lib.hid ho2
      obtain ⟨q1, q2, q3, q4⟩ := hr2
      clear ho2 q4
      go_wp2
      go_ret
      exact ⟨rfl, ⟨_, HR2.out⟩, HO2.out⟩
    · refine (rtake_bad g 1 s true W H.out (.inr (by omega))).mono ?_
      rintro e w2 ⟨rfl, hr2, ho2⟩
      have HR2 := Lib.hid hr2
      have HO2 := Lib.hid ho2
      obtain ⟨q1, q2, q3, q4⟩ := hr2
      clear ho2 q4
      go_wp2
      go_ret
      exact ⟨rfl, ⟨_, HR2.out⟩, HO2.out⟩
set_option maxHeartbeats 3200000 in
theorem rnum_bad (g : Nat) (s : ByteArray) (W : World) (h : RdAt g W s false) (hr : rdN 10 0 0 (sb s) = none) :
    Calls Try.prog 24 #[.pointer (some ⟨g, 0, none⟩)] W fun e w' => e = .returned (.int .i64 0) ∧ (∃ s', RdAt g w' s' true) ∧ OB g W w' := by
  have H := Lib.hid h
  have HR := Lib.hid hr
  clear h hr
  go_enter Try.func24, Try.ntmps24
  go_wp2_with fail
  go_loopw [3, 6] (fun v3 v6 wr => ∃ (i x' : Nat) (s' : ByteArray), i ≤ 10 ∧ v6 = .int .i64 i ∧ v3 = .int .u64 x' ∧ Hid (x' < 2 ^ (7 * i) ∧ x' < 18446744073709551616) ∧ Hid (rdN (10 - i) i x' (sb s') = none) ∧ Hid (RdAt g wr s' false) ∧ Hid (OB g W wr)) (fun _ v6 _ => 10 - (intOf v6).toNat)
  case atStart => exact ⟨0, 0, s, by omega, rfl, rfl, Lib.hid ⟨by decide, by decide⟩, HR, H, Lib.hid (OB.of_below (Below.refl _ _))⟩
  case round =>
    clear H HR
    obtain ⟨i, x', s', hi, rfl, rfl, HX, HR, H, HO⟩ := hrel
    by_cases hi9 : i < 10
    · obtain ⟨k, hk⟩ : ∃ k, 10 - i = k + 1 := ⟨9 - i, by omega⟩
      have i1 : (i : Int) < 10 := by omega
      by_cases hsz : 1 ≤ s'.size
      · obtain ⟨b, t, hbt⟩ : ∃ b t, sb s' = b :: t := by
          cases h : sb s' with
          | nil => have := sb_size s'; rw [h] at this; simp at this; omega
          | cons b t => exact ⟨b, t, rfl⟩
        have hb : b < 256 := sb_lt s' b (by rw [hbt]; simp)
        have HBT := Lib.hid hbt
        have HK := Lib.hid hk
        clear hbt hk
        go_wp2_with fail
        refine (rtake_ok g 1 s' false wr H.out hsz).mono ?_
        rintro e w2 ⟨rfl, hr2, ho2⟩
        have HR2 := Lib.hid hr2
        have HO2 := Lib.hid ho2
        obtain ⟨q1, q2, q3, q4⟩ := hr2
        clear ho2
        have hs1 : sb (s'.extract 0 1) = [b] := by rw [sb_take, HBT.out]; rfl
        obtain ⟨s1, he1⟩ : ∃ s1, s'.extract 0 1 = s1 := ⟨_, rfl⟩
        rw [he1] at hs1 ⊢
        have hz1 : s1.size = 1 := by rw [← sb_size, hs1]; rfl
        have HS1 := Lib.hid hs1
        clear hs1 he1
        go_upto_region 8 with (fail)
        have hi7 : 7 * i ≤ 63 := by omega
        obtain ⟨a, ha, haB, ha64⟩ := mulmod (b % 128) (7 * i) hi7
        obtain ⟨V, hV⟩ : ∃ V, b % 128 * 2 ^ (7 * i) % 18446744073709551616 = V := ⟨_, rfl⟩
        have hB : b % 128 < 128 := Nat.mod_lt _ (by decide)
        have hx2 := HX.out.1
        have hp : 0 < 2 ^ (7 * i) := Nat.two_pow_pos _
        have hxv : x' + V < 18446744073709551616 ∧ x' + V < 2 ^ (7 * (i + 1)) := by
          have e1 : (a + 1) * 2 ^ (7 * i) = a * 2 ^ (7 * i) + 2 ^ (7 * i) := by rw [Nat.add_mul, Nat.one_mul]
          have e2 : 2 ^ (7 * (i + 1)) = 128 * 2 ^ (7 * i) := by rw [show 7 * (i + 1) = 7 + 7 * i by omega, Nat.pow_add]
          have e3 : a * 2 ^ (7 * i) ≤ 127 * 2 ^ (7 * i) := Nat.mul_le_mul_right _ (by omega)
          have e4 : 128 * 2 ^ (7 * i) = 127 * 2 ^ (7 * i) + 2 ^ (7 * i) := by omega
          constructor <;> omega
        have f5 := or_add x' V (7 * i) hx2 (by omega) a (by rw [← hV]; exact ha) (by omega) hxv.1
        have f4 := wrap_shl (b % 128) (7 * i)
        rw [hV] at f4
        have f1 := u8_and127 b hb
        have f2 : IntKind.u64.wrap (((b % 128 : Nat)) : Int) = ((b % 128 : Nat) : Int) := by rw [IntKind.wrap_u64]; omega
        have f3 : IntKind.i64.wrap (7 * (i : Int)) = ((7 * i : Nat) : Int) := by rw [IntKind.wrap_i64]; omega
        have HXV := Lib.hid hxv
        have HV := Lib.hid hV
        obtain ⟨Bm, hBm⟩ : ∃ Bm, b % 128 = Bm := ⟨_, rfl⟩
        obtain ⟨m7, hm7⟩ : ∃ m7, 7 * i = m7 := ⟨_, rfl⟩
        have HM : Hid (b % 128 = Bm ∧ 7 * i = m7) := Lib.hid ⟨hBm, hm7⟩
        rw [hBm] at f1 f2 f4
        rw [hm7] at f3 f4
        rw [hm7] at hi7
        clear hBm hm7
        have hix := index0 s1 b HS1.out
        clear ha haB ha64 hV hxv hx2 hp hB hb q4 hsz hz1
        go_upto_region 9 with (refine wpl_index rfl 9 (.tmp 16) _ rfl _ _ _ rfl rfl (hix _) ?_)
        obtain ⟨X, hXX⟩ : ∃ X, x' + V = X := ⟨_, rfl⟩
        have hXI : (x' : Int) + (V : Int) = (X : Int) := by omega
        rw [hXI]
        clear hXI
        have HXX := Lib.hid hXX
        have hX64 : X < 18446744073709551616 := by rw [← hXX]; exact HXV.out.1
        clear f5 f4 f3 f2 f1 hXX
        have hst : ¬ b < 128 ∧ rdN (10 - (i + 1)) (i + 1) X t = none := by
          have h := HR.out
          rw [HBT.out, HK.out, rdN, HV.out, HXX.out] at h
          by_cases h8 : b < 128
          · rw [if_pos h8] at h; cases h
          · rw [if_neg h8] at h
            refine ⟨h8, ?_⟩
            have := HK.out
            rw [show 10 - (i + 1) = k by omega]
            exact h
        have HSB : Hid (sb (s'.extract 1 s'.size) = t) := Lib.hid (by rw [sb_drop, HBT.out]; rfl)
        have HO3 : Hid (OB g W w2) := Lib.hid (HO.out.trans HO2.out (.inl rfl))
        obtain ⟨h8, hrd⟩ := hst
        have i8 : ¬ (b : Int) < 128 := by omega
        have HRD := Lib.hid hrd
        have HX3 : Hid (X < 2 ^ (7 * (i + 1)) ∧ X < 18446744073709551616) := Lib.hid (by have := HXV.out; rw [HXX.out] at this; exact ⟨this.2, this.1⟩)
        have HRs : Hid (rdN (10 - (i + 1)) (i + 1) X (sb (s'.extract 1 s'.size)) = none) := Lib.hid (by rw [HSB.out]; exact HRD.out)
        clear hX64 h8 hrd
        go_wp2_with (refine wpl_index rfl 9 (.tmp 24) _ rfl _ _ _ rfl rfl (hix _) ?_)
        go_roundw
        case rel => exact ⟨i + 1, X, _, by omega, by go_num, rfl, HX3, HRs, HR2, HO3⟩
        case measure => simp [intOf] <;> omega
      · have hz : (s'.size : Int) < 1 := by omega
        go_wp2_with fail
        refine (rtake_bad g 1 s' false wr H.out (.inr hz)).mono ?_
        rintro e w2 ⟨rfl, hr2, ho2⟩
        have HR2 := Lib.hid hr2
        have HO2 := Lib.hid (HO.out.trans ho2 (.inl rfl))
        obtain ⟨q1, q2, q3, q4⟩ := hr2
        clear ho2 q4
        go_wp2
        go_ret
        exact ⟨rfl, ⟨_, HR2.out⟩, HO2.out⟩
    · obtain rfl : i = 10 := by omega
      obtain ⟨q1, q2, q3, q4⟩ := H.out
      have f1 := q4 1
      clear q4
      go_wp2
      go_ret
      exact ⟨rfl, ⟨_, H.out.bad⟩, HO.out.trans (ob_set _ _ _ _) (.inl rfl)⟩
end Go.Proofs.Ytahggokeelgjdaa
