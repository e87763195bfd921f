/- DrillBelow: awake, and the walk. -/
import Derived.Test.YtahggokeelgjdaaDiG
import Derived.Test.YtahggokeelgjdaaInts0
namespace Go.Proofs.Ytahggokeelgjdaa
open Go.RowKit
set_option linter.unusedVariables false
set_option linter.unusedSimpArgs false

set_option maxRecDepth 100000 in
set_option maxHeartbeats 8000000 in
theorem w51awake (W : World) :
    Calls Try.prog 18 #[] W fun e w' => e = .returned (.bool true) ∧ Below W.heap.size W w' := by
  have hcf : cfI 109 5 0 2 27 13 3 15 2205 57 = 0 := by decide
  have HCF := Lib.hid hcf
  have HRG : Hid ((5 ≤ (5 : Int) ∧ (5 : Int) ≤ 16) ∧ (0 ≤ (0 : Int) ∧ (0 : Int) ≤ 1024)) := Lib.hid (by decide)
  have hnew : Calls Try.prog 19 #[.int .u64 0] W fun e w' => ∃ g, e = .returned (.pointer (some ⟨g, 0, none⟩)) ∧ DC g (sd 0) w' ∧ W.heap.size ≤ g ∧ Below W.heap.size W w' := dnew 0 (by decide) W
  have HNEW := Lib.hid hnew
  clear hcf hnew
  go_enter Try.func18, Try.ntmps18
  go_wp2_with fail
  with_reducible refine Calls.mono HNEW.out ?_
  rintro e w1 ⟨g, rfl, hd, hg, hb⟩
  have HD := Lib.hid hd
  have HB := Lib.hid (And.intro hg hb)
  clear hd hg hb
  go_wp2_with fail
  with_reducible refine Calls.mono (dconf0 g _ HD.out) ?_
  rintro e w2 ⟨rfl, hd⟩
  have HD2 := Lib.hid hd.dc
  have HB2 : Hid (W.heap.size ≤ g ∧ Below W.heap.size W w2) := Lib.hid ⟨HB.out.1, HB.out.2.trans (hd.kp.1.mono HB.out.1)⟩
  clear hd HD HB
  go_upto_region 3 with (fail)
  obtain ⟨z, hz⟩ : ∃ z, w2.heap.size = z := ⟨_, rfl⟩
  obtain ⟨w3, hw3⟩ : ∃ w3, w2.alloc (.cells #[.int .i64 109, .int .i64 5, .int .i64 0, .int .i64 2, .int .i64 27, .int .i64 13, .int .i64 3, .int .i64 15, .int .i64 2205, .int .i64 57, .int .u64 318699214] 59) = w3 := ⟨_, rfl⟩
  have HZ3 : Hid (ConfAt z w3 109 5 0 2 27 13 3 15 2205 57 318699214) := Lib.hid (by rw [← hw3, ← hz]; exact ConfAt.new _ 109 5 0 2 27 13 3 15 2205 57 318699214 _)
  have HD3 : Hid (DC g (sd 11) w3) := Lib.hid (by rw [← hw3]; exact HD2.out.below (alc0 _ _))
  have HB3 : Hid (W.heap.size ≤ g ∧ Below W.heap.size W w3) := Lib.hid (by rw [← hw3]; exact ⟨HB2.out.1, alc HB2.out.2 _⟩)
  rw [hw3, hz]
  clear hw3 hz HD2 HB2
  obtain ⟨hzl, k0, k1, k2, k3, k4, k5, k6, k7, k8, k9, k10, -⟩ := HZ3.out
  go_wp2_with fail
  with_reducible refine Calls.mono (cchk_is 0 _ _ _ _ _ _ _ _ _ _ _ _ HCF.out) ?_
  rintro e w4 ⟨rfl, hb⟩
  have HZ4 := Lib.hid (HZ3.out.below hb)
  have HD4 := Lib.hid (HD3.out.below hb)
  have HB4 : Hid (W.heap.size ≤ g ∧ Below W.heap.size W w4) := Lib.hid ⟨HB3.out.1, thn HB3.out.2 hb⟩
  clear hb HZ3 HD3 HB3 hzl k0 k1 k2 k3 k4 k5 k6 k7 k8 k9 k10
  obtain ⟨hzl, k0, k1, k2, k3, k4, k5, k6, k7, k8, k9, k10, -⟩ := HZ4.out
  go_wp2_with fail
  have ha : Calls Try.prog 32 #[.agg #[.int .i64 109, .int .i64 5, .int .i64 0, .int .i64 2, .int .i64 27, .int .i64 13, .int .i64 3, .int .i64 15, .int .i64 2205, .int .i64 57, .int .u64 318699214]] w4 fun e w' => e = .returned (.bool true) ∧ Below w4.heap.size w4 w' := campl_yes _ _ _ _ _ _ _ _ _ _ _ _ HCF HRG
  with_reducible refine Calls.mono ha ?_
  rintro e w5 ⟨rfl, hb⟩
  have HZ5 := Lib.hid (HZ4.out.below hb)
  have HD5 := Lib.hid (HD4.out.below hb)
  have HB5 : Hid (W.heap.size ≤ g ∧ Below W.heap.size W w5) := Lib.hid ⟨HB4.out.1, thn HB4.out.2 hb⟩
  clear hb ha HZ4 HD4 HB4 hzl k0 k1 k2 k3 k4 k5 k6 k7 k8 k9 k10
  obtain ⟨hzl, k0, k1, k2, k3, k4, k5, k6, k7, k8, k9, k10, -⟩ := HZ5.out
  go_wp2_with fail
  with_reducible refine Calls.mono (dops g (sd 11) 109 5 0 2 27 13 3 15 2205 57 318699214 _ HD5.out (by decide) (by decide) (by decide)) ?_
  rintro e w6 ⟨A, c, rfl, s', hd⟩
  have HB6 : Hid (Below W.heap.size W w6) := Lib.hid (HB5.out.2.trans (hd.kp.1.mono HB5.out.1))
  clear hd
  go_wp2
  go_ret
  exact ⟨rfl, HB6.out⟩
theorem row_bd {w : World} {a : Option Addr} {len cap : Nat} {zs : List Int} (h : IsRow .i64 w a len cap zs) (i : Nat) (hi : i < len) : -9223372036854775808 ≤ (zs.take len).getD i 0 ∧ (zs.take len).getD i 0 ≤ 9223372036854775807 := by
  rcases h with ⟨_, rfl, _⟩ | ⟨x, _, hl, _, hz, _, hw⟩
  · omega
  · have e : (zs.take len).getD i 0 = zs[i]'(by omega) := by simp [List.getD, hi, show i < zs.length by omega]
    rw [e]
    exact bounds_i64 (hw _ (List.getElem_mem _))
set_option maxRecDepth 100000 in
set_option maxHeartbeats 8000000 in
theorem walkDrillBelow (a0 : Int) (a1 : Option Addr) (len1 cap1 : Nat) (z1 : List Int) (w : World) (w0 : (Lit.int .u64 a0).wf = true) (w1 : IsRow .i64 w a1 len1 cap1 z1) :
    Calls Try.prog 7 #[.int .u64 a0, .slice a1 len1 cap1] w fun e w' => e = .returned (.bool true) ∧ Below w.heap.size w w' := by
  have HI := Lib.hid w1.ints
  have HBD := Lib.hid (row_bd w1)
  clear w1
  generalize z1.take len1 = zs at *
  have ha : 0 ≤ a0 ∧ a0 < 18446744073709551616 := by
    simp [Lit.wf] at w0
    have h1 : IntKind.u64.min = 0 := rfl
    have h2 : IntKind.u64.max = 18446744073709551615 := rfl
    omega
  obtain ⟨s0, rfl⟩ := Int.eq_ofNat_of_zero_le ha.1
  have hs0 : Hid (s0 < 18446744073709551616) := Lib.hid (by omega)
  clear ha w0
  obtain ⟨n1, hn1, hn2, hn3⟩ : ∃ n : Nat, n ≤ len1 ∧ n ≤ 60 ∧ (n < len1 → n = 60) := ⟨min len1 60, by omega, by omega, by omega⟩
  go_enter Try.func7, Try.ntmps7
  go_wp2_with fail
  with_reducible refine Calls.mono (w51awake _) ?_
  rintro e v1 ⟨rfl, hb⟩
  have HB1 := Lib.hid hb
  clear hb
  go_wp2_with fail
  with_reducible refine Calls.mono (dnew s0 hs0.out _) ?_
  rintro e v2 ⟨g, rfl, hd, hg, hb⟩
  have HST : Hid (DC g s0 v2 ∧ w.heap.size ≤ g ∧ Below w.heap.size w v2) := Lib.hid ⟨hd, Nat.le_trans HB1.out.size hg, thn HB1.out hb⟩
  clear hd hg hb HB1
  go_wp2_with fail
  go_loopw [6, 7, 8] (fun v6 v7 v8 wr => ∃ (i s : Nat), i ≤ n1 ∧ v7 = .int .i64 i ∧ v6 = .int .u64 (s : Int) ∧ Hid (DC g s wr ∧ w.heap.size ≤ g ∧ Below w.heap.size w wr)) (fun _ v7 _ _ => n1 - (intOf v7).toNat)
  case atStart => exact ⟨0, s0, by omega, rfl, rfl, HST⟩
  case round =>
    clear HST
    obtain ⟨i, s, hi, rfl, rfl, HST⟩ := hrel
    by_cases hlt : i < n1
    · obtain ⟨_, hin⟩ := HI.out.below HST.out.2.2
      rcases hin with h0 | ⟨b, off, rfl, hbl, hmx, hc⟩
      · omega
      have hck := hc i (by omega)
      have hbd := HBD.out i (by omega)
      clear hc
      generalize zs.getD i 0 = x at *
      have l1 : (i : Int) < len1 := by omega
      have l2 : (i : Int) < 60 := by omega
      have l60 : i < 60 := by omega
      obtain ⟨hx1, hx2⟩ := hbd
      by_cases hx : 1 ≤ x
      · obtain ⟨n, rfl⟩ := Int.eq_ofNat_of_zero_le (show 0 ≤ x by omega)
        obtain ⟨p, hp⟩ : ∃ p : Nat, s * 2862933555777941757 % 18446744073709551616 = p := ⟨_, rfl⟩
        obtain ⟨q, hq⟩ : ∃ q : Nat, nx s = q := ⟨_, rfl⟩
        have hq2 : (p + 3037000493) % 18446744073709551616 = q := by rw [← hp, ← hq, nx]; omega
        have f1 : IntKind.u64.wrap ((s : Int) * 2862933555777941757) = (p : Int) := by rw [IntKind.wrap_u64]; omega
        have f2 : IntKind.u64.wrap ((p : Int) + 3037000493) = (q : Int) := by rw [IntKind.wrap_u64]; omega
        obtain ⟨r, hr⟩ : ∃ r : Nat, q / 8589934592 = r := ⟨_, rfl⟩
        have f3 : (q : Int) / 8589934592 = (r : Int) := by omega
        have f3' : (q : Int).tdiv 8589934592 = (r : Int) := by rw [Int.tdiv_eq_ediv_of_nonneg (by omega)]; omega
        have hr9 : (r : Int) ≤ 2147483647 := by omega
        obtain ⟨v, hv⟩ : ∃ v : Nat, r % n = v := ⟨_, rfl⟩
        have hv9 : (v : Int) ≤ 2147483647 := by have := Nat.mod_le r n; omega
        have f4 : (r : Int) % (n : Int) = (v : Int) := by rw [← hv]; exact (Int.natCast_emod r n).symm
        have f4' : (r : Int).tmod (n : Int) = (v : Int) := by rw [Int.tmod_eq_emod_of_nonneg (by omega)]; exact f4
        have f5 : IntKind.u64.wrap (n : Int) = (n : Int) := by rw [IntKind.wrap_u64]; omega
        have hn0 : ¬ (n : Int) = 0 := by omega
        have hx3 : ¬ (n : Int) < 1 := by omega
        have HV : Hid (bel s n = v ∧ nx s = q) := Lib.hid ⟨by rw [bel, hq, hr, hv], hq⟩
        have hbel := dbelow g s n wr HST.out.1 (by omega) (by omega)
        rw [HV.out.1, HV.out.2] at hbel
        have HBL := Lib.hid hbel
        clear hp hq hq2 hr hv hbel
        go_wp2_with fail
        with_reducible refine Calls.mono HBL.out ?_
        rintro e w3 ⟨rfl, hd⟩
        have HST3 : Hid (DC g q w3 ∧ w.heap.size ≤ g ∧ Below w.heap.size w w3) := Lib.hid ⟨hd.dc, HST.out.2.1, HST.out.2.2.trans (hd.kp.1.mono HST.out.2.1)⟩
        clear hd HST HBL f1 f2 f3 f3' f4 f4' f5
        go_wp2_with fail
        go_roundw
        case rel => exact ⟨i + 1, q, by omega, by go_num, rfl, HST3⟩
        case measure => simp [intOf] <;> omega
      · have hx3 : x < 1 := by omega
        go_wp2_with fail
        with_reducible refine Calls.mono (dbelow_none g x _ hx3) ?_
        rintro e w3 ⟨rfl, rfl⟩
        go_wp2_with fail
        go_roundw
        case rel => exact ⟨i + 1, s, by omega, by go_num, rfl, HST⟩
        case measure => simp [intOf] <;> omega
    · obtain rfl : i = n1 := by omega
      have hstop : ¬ ((i : Int) < (len1 : Int)) ∨ ((i : Int) < (len1 : Int) ∧ ¬ ((i : Int) < 60)) := by omega
      clear hlt HI HBD hn3
      rcases hstop with h | ⟨h, h'⟩
      all_goals
        go_wp2_with fail
        go_ret
        exact ⟨rfl, HST.out.2.2⟩
end Go.Proofs.Ytahggokeelgjdaa
