/- The walk of ShufBack. -/
import Derived.Test.YtbmcgoodilomlaaShufB
import Derived.Deep.DeepCutAuto
namespace Go.Proofs.Ytbmcgoodilomlaa
open Go.RowKit
set_option linter.unusedVariables false
set_option linter.unusedSimpArgs false

theorem row_lsb {w : World} {a : Option Addr} {len cap : Nat} {zs : List Int} (h : IsRow .i64 w a len cap zs) (m : Nat) (hm : m ≤ len) : ∃ bl, (m = 0 ∨ bl < w.heap.size) ∧ LsB bl w a m cap (zs.take m) := by
  rcases h with ⟨rfl, rfl, rfl, rfl⟩ | ⟨x, rfl, hl, hmx, hz, hc, hw⟩
  · obtain rfl : m = 0 := by omega
    exact ⟨0, .inl rfl, by simp, Nat.le_refl _, by omega, fun _ => ⟨rfl, rfl⟩, .inl rfl⟩
  · by_cases h0 : m = 0
    · subst h0
      exact ⟨0, .inl rfl, by simp, by omega, by unfold maxLen at hmx; omega, fun h => (by cases h), .inl rfl⟩
    · obtain ⟨b, off, rfl, hc2⟩ := ints_at hc (by omega)
      have hb : b < w.heap.size := World.block_lt_of_cell? w _ (hc2 0 (by omega))
      refine ⟨b, .inr hb, by simp; omega, by omega, by unfold maxLen at hmx; omega, fun h => (by cases h), .inr ⟨off, rfl, hb, fun i hi => ?_⟩⟩
      rw [hc2 i (by omega)]
      simp [List.getD, hi]
theorem row_bd {w : World} {a : Option Addr} {len cap : Nat} {zs : List Int} (h : IsRow .i64 w a len cap zs) : ∀ x ∈ zs, -9223372036854775808 ≤ x ∧ x ≤ 9223372036854775807 := by
  rcases h with ⟨_, _, _, rfl⟩ | ⟨_, _, _, _, _, _, hw⟩
  · simp
  · exact fun x hx => bounds_i64 (hw x hx)
theorem row_cap {w : World} {a : Option Addr} {len cap : Nat} {zs : List Int} (h : IsRow .i64 w a len cap zs) : (a = none → len = 0 ∧ cap = 0) ∧ len ≤ cap ∧ cap ≤ 9223372036854775807 := by
  rcases h with ⟨_, rfl, rfl, _⟩ | ⟨x, rfl, h1, h2, _⟩
  · exact ⟨fun _ => ⟨rfl, rfl⟩, by omega, by omega⟩
  · exact ⟨fun h => (by cases h), h1, by unfold maxLen at h2; omega⟩
def allB (X : List Int) (i : Nat) : Bool := (List.range i).all (fun v : Nat => decide ((v : Int) ∈ X))
theorem allB_snoc (X : List Int) (i : Nat) : allB X (i + 1) = (allB X i && decide ((i : Int) ∈ X)) := by simp [allB, List.range_succ]
theorem allB_surj (X : List Int) : allB X X.length = true ↔ Surj X := by
  simp only [allB, List.all_eq_true, List.mem_range, decide_eq_true_eq]; exact Iff.rfl
def inB (X : List Int) (i : Int) (j : Nat) : Bool := decide (i ∈ X.take j)
theorem inB_snoc (X : List Int) (i : Int) (j : Nat) (h : j < X.length) : inB X i (j + 1) = (inB X i j || decide (X.getD j 0 = i)) := by
  unfold inB
  have e : X.getD j 0 = X[j] := by simp [h]
  rw [List.take_succ_eq_append_getElem h, e, Bool.eq_iff_iff, Bool.or_eq_true, decide_eq_true_eq, decide_eq_true_eq, decide_eq_true_eq, List.mem_append, List.mem_singleton]
  constructor
  · rintro (h | h)
    · exact .inl h
    · exact .inr h.symm
  · rintro (h | h)
    · exact .inl h
    · exact .inr h.symm
theorem inB_all (X : List Int) (i : Int) : inB X i X.length = decide (i ∈ X) := by simp [inB]
set_option maxRecDepth 100000 in
set_option maxHeartbeats 3200000 in
theorem walkShufBack (a0 : Int) (a1 : Option Addr) (len1 cap1 : Nat) (z1 : List Int) (a2 : Option Addr) (len2 cap2 : Nat) (z2 : List Int) (w : World) (w0 : (Lit.int .i64 a0).wf = true) (w1 : IsRow .i64 w a1 len1 cap1 z1) (w2 : IsRow .i64 w a2 len2 cap2 z2) :
    Calls Try.prog 6 #[.int .i64 a0, .slice a1 len1 cap1, .slice a2 len2 cap2] w fun e w' => e = .returned (.bool true) ∧ Below w.heap.size w w' := by
  obtain ⟨md, hmd⟩ : ∃ md : Nat, min len1 40 = md := ⟨_, rfl⟩
  obtain ⟨m2, hm2⟩ : ∃ m2 : Nat, min len2 6 = m2 := ⟨_, rfl⟩
  have hd1 : md ≤ len1 ∧ md ≤ 40 := by omega
  have hd2 : m2 ≤ len2 ∧ m2 ≤ 6 := by omega
  obtain ⟨hd1, hd3⟩ := hd1
  obtain ⟨hd2, hd4⟩ := hd2
  have hdI : min (len1 : Int) 40 = (md : Int) := by omega
  have hdJ : min (len2 : Int) 6 = (m2 : Int) := by omega
  obtain ⟨bl1, hbl1, hl1⟩ := row_lsb w1 md hd1
  obtain ⟨bl2, hbl2, hl2⟩ := row_lsb w2 m2 hd2
  have hbd1 : ∀ x ∈ z1.take md, -9223372036854775808 ≤ x ∧ x ≤ 9223372036854775807 := fun x hx => row_bd w1 x (List.mem_of_mem_take hx)
  obtain ⟨hnil1, hc11, hc12⟩ := row_cap w1
  obtain ⟨hnil2, hc21, hc22⟩ := row_cap w2
  generalize z1.take md = Z0 at *
  generalize z2.take m2 = X2 at *
  have HBD := Lib.hid hbd1
  have HL1 := Lib.hid hl1
  have HL2 := Lib.hid hl2
  have HNIL := Lib.hid (And.intro hnil1 hnil2)
  have ea := and31 a0
  obtain ⟨kk, hkk⟩ : ∃ kk : Nat, a0 % 32 = (kk : Int) := ⟨(a0 % 32).toNat, by have := Int.emod_nonneg a0 (b := 32) (by decide); omega⟩
  have hk31 : kk ≤ 31 := by have := Int.emod_lt_of_pos a0 (b := 32) (by decide); omega
  rw [hkk] at ea
  obtain ⟨FIN, hF⟩ : ∃ F, shufL (kk - 1) (rangeI kk) Z0 0 = F := ⟨_, rfl⟩
  have HF := Lib.hid hF
  have hFl : FIN.length = kk := by rw [← hF, shufL_len, rangeI_len]
  have hFs : Surj FIN := by rw [← hF]; exact shufL_surj _ _ _ _ (by rw [rangeI_len]; omega) (rangeI_surj kk)
  obtain ⟨Y, hY⟩ := Option.isSome_iff_exists.1 ((bkGo_iff FIN).2 hFs)
  have hYs := bkGo_some hY
  rw [hFl] at hY hYs
  have HY := Lib.hid hY
  have HYS := Lib.hid hYs
  clear w0 w1 w2 hmd hm2 hl1 hl2 hbd1 hnil1 hnil2 hbl1 hbl2 hF hFs hY hYs hkk hFl
  go_enter Try.func6, Try.ntmps6
  go_upto_region 2 with (fail)
  go_cut [8] (fun v8 wx => ∃ bo A c, v8 = .slice A kk c ∧ Hid (SlW bo wx A kk c FIN) ∧ Hid (Below w.heap.size w wx))
  case first =>
    cases a1 with
    | none =>
      obtain ⟨rfl, rfl⟩ := HNIL.out.1 rfl
      obtain rfl : md = 0 := by omega
      go_wp2_with fail
      refine (dnew_b _ _ _ _ _ (HL1.out.ints) (by omega)).mono ?_
      rintro e w3 ⟨g, b, rfl, hd, hg, hb0, hb3, hb1⟩
      have HD := Lib.hid hd
      have HB3 := Lib.hid hb1
      have HG := Lib.hid (And.intro hg hb1.size)
      clear hd hb0 hb1 hg
      go_wp2_with fail
      refine (order_any kk g b Z0 0 _ (by omega) HD.out hb3 (by omega) HBD.out).mono ?_
      rintro e w4 ⟨bo, A9, c9, rfl, hbo, hs9, hbl⟩
      rw [HF.out] at hs9
      have HS9 := Lib.hid hs9
      have HB4 : Hid (Below w.heap.size w w4) := Lib.hid (HB3.out.trans (hbl w.heap.size HG.out.1 HG.out.2))
      clear hs9 hbl HD HB3 hbo
      go_wp2_with fail
      go_meet
      exact ⟨bo, A9, c9, rfl, HS9, HB4⟩
    | some ad =>
      go_wp2_with fail
      refine (dnew_b _ _ _ _ _ (HL1.out.ints) (by omega)).mono ?_
      rintro e w3 ⟨g, b, rfl, hd, hg, hb0, hb3, hb1⟩
      have HD := Lib.hid hd
      have HB3 := Lib.hid hb1
      have HG := Lib.hid (And.intro hg hb1.size)
      clear hd hb0 hb1 hg
      go_wp2_with fail
      refine (order_any kk g b Z0 0 _ (by omega) HD.out hb3 (by omega) HBD.out).mono ?_
      rintro e w4 ⟨bo, A9, c9, rfl, hbo, hs9, hbl⟩
      rw [HF.out] at hs9
      have HS9 := Lib.hid hs9
      have HB4 : Hid (Below w.heap.size w w4) := Lib.hid (HB3.out.trans (hbl w.heap.size HG.out.1 HG.out.2))
      clear hs9 hbl HD HB3 hbo
      go_wp2_with fail
      go_meet
      exact ⟨bo, A9, c9, rfl, HS9, HB4⟩
  case rest =>
    obtain ⟨bo, A9, c9, rfl, HS9, HB4⟩ := hcut
    go_wp2_with fail
    refine (back_any A9 kk c9 FIN _ HS9.out.ints (by omega)).mono ?_
    rintro e w5 ⟨hb, hm5⟩
    rw [HY.out] at hm5
    obtain ⟨bk, Ab, cb, rfl, hbk, hsb⟩ := hm5
    have HSB := Lib.hid hsb
    have HS5 := Lib.hid (HS9.out.below hb)
    have HB5 := Lib.hid (thn HB4.out hb)
    clear hb hbk hsb HS9 HB4
    go_wp2_with fail
    go_loopw [10] (fun i wr => ∃ k : Nat, k ≤ kk ∧ i = .int .i64 k ∧ Hid (SlW bo wr A9 kk c9 FIN) ∧ Hid (SlW bk wr Ab kk cb Y) ∧ Hid (Below w.heap.size w wr)) (fun i _ => kk - (intOf i).toNat)
    case atStart => exact ⟨0, by omega, rfl, HS5, HSB, HB5⟩
    case round =>
      clear HS5 HSB HB5
      obtain ⟨k, hk, rfl, HS, HSB, HB⟩ := hrel
      by_cases hlt : k < kk
      · have l1 : (k : Int) < (kk : Int) := by omega
        obtain ⟨_, _, _, h0 | ⟨rfl, hr9⟩⟩ := HS.out
        · omega
        · obtain ⟨_, _, _, h0 | ⟨rfl, hrb⟩⟩ := HSB.out
          · omega
          · obtain ⟨x0, x1, x2⟩ := HYS.out.2.1 k hlt
            have d9 := (hr9.2.2 k hlt).1
            obtain ⟨v, hv⟩ : ∃ v : Nat, FIN.getD k 0 = (v : Int) := ⟨_, (Int.toNat_of_nonneg x0).symm⟩
            rw [hv] at d9 x1 x2
            simp only [Int.toNat_natCast] at x2
            have hvk : v < kk := by omega
            have db := (hrb.2.2 v hvk).1
            rw [x2] at db
            clear hr9 hrb x0 x2 hv
            go_wp2_with fail
            go_roundw
            case rel => exact ⟨k + 1, by omega, by go_num, HS, HSB, HB⟩
            case measure => simp [intOf]; omega
      · obtain rfl : k = kk := by omega
        clear HS HSB
        obtain ⟨wo, rfl⟩ : ∃ wo : World, wo = wr := ⟨_, rfl⟩
        go_upto_region 11 with (fail)
        go_cut [11, 12] (fun v11 v12 wx => v11 = .slice a2 m2 cap2 ∧ v12 = .bool true ∧ wo = wx)
        case first =>
          cases a2 with
          | none =>
            obtain ⟨rfl, rfl⟩ := HNIL.out.2 rfl
            obtain rfl : m2 = 0 := by omega
            go_wp2_with fail
            go_meet
            exact ⟨rfl, rfl, rfl⟩
          | some ad =>
            go_wp2_with fail
            go_meet
            exact ⟨rfl, rfl, rfl⟩
        case rest =>
          obtain ⟨rfl, rfl, rfl⟩ := hcut
          have hX2 : X2.length = m2 := HL2.out.1
          have HX2 := Lib.hid hX2
          clear hX2
          go_wp2_with fail
          go_loopw [12, 13, 14, 15] (fun v12 v13 v14 v15 wr => ∃ (i : Nat) (r : Bool) (u14 u15 : Value), i ≤ m2 ∧ v13 = .int .i64 i ∧ v12 = .bool r ∧ v14 = u14 ∧ v15 = u15 ∧ Hid (allB X2 i = r) ∧ wo = wr) (fun _ v13 _ _ _ => m2 - (intOf v13).toNat)
          case atStart => exact ⟨0, true, _, _, by omega, rfl, rfl, rfl, rfl, Lib.hid rfl, rfl⟩
          case round =>
            obtain ⟨i, r, u14, u15, hi, rfl, rfl, rfl, rfl, HA, rfl⟩ := hrel
            by_cases hlt : i < m2
            · have l1 : (i : Int) < (m2 : Int) := by omega
              obtain ⟨i2, hi2⟩ : ∃ i2, i2 = i := ⟨_, rfl⟩
              go_wp2_with fail
              go_loopw [14, 15] (fun v14 v15 wr => ∃ (j : Nat) (f : Bool), j ≤ m2 ∧ v15 = .int .i64 j ∧ v14 = .bool f ∧ Hid (inB X2 i j = f) ∧ wo = wr) (fun _ v15 _ => m2 - (intOf v15).toNat)
              case atStart => exact ⟨0, false, by omega, rfl, rfl, Lib.hid (by simp [inB]), rfl⟩
              case round =>
                obtain ⟨j, f, hj, rfl, rfl, HI, rfl⟩ := hrel
                by_cases hlj : j < m2
                · have l2 : (j : Int) < (m2 : Int) := by omega
                  obtain ⟨_, h0 | ⟨bb, off, rfl, _, _, hc⟩⟩ := (HL2.out.below HB.out).ints
                  · omega
                  · have d2 := hc j hlj
                    have hsn := inB_snoc X2 (i : Int) j (by rw [HX2.out]; exact hlj)
                    rw [HI.out] at hsn
                    obtain ⟨x, hx⟩ : ∃ x, X2.getD j 0 = x := ⟨_, rfl⟩
                    rw [hx] at d2 hsn
                    clear hc hx
                    cases f with
                    | true =>
                      have HS := Lib.hid hsn
                      clear hsn
                      go_wp2_with fail
                      go_roundw
                      case rel => exact ⟨j + 1, true, by omega, by go_num, rfl, Lib.hid (by rw [HS.out]; rfl), trivial⟩
                      case measure => simp [intOf]; omega
                    | false =>
                      by_cases hxi : x = (i : Int)
                      · subst hxi
                        have HS : Hid (inB X2 i (j + 1) = true) := Lib.hid (by rw [hsn]; simp)
                        clear hsn
                        go_wp2_with fail
                        go_roundw
                        case rel => exact ⟨j + 1, true, by omega, by go_num, rfl, HS, trivial⟩
                        case measure => simp [intOf]; omega
                      · have HS : Hid (inB X2 i (j + 1) = false) := Lib.hid (by rw [hsn]; simpa using hxi)
                        have hbq : (x == (i : Int)) = false := by simpa using hxi
                        clear hsn hxi
                        go_wp2_with fail
                        go_roundw
                        case rel => exact ⟨j + 1, false, by omega, by go_num, rfl, HS, trivial⟩
                        case measure => simp [intOf]; omega
                · obtain rfl : j = m2 := by omega
                  have hal := allB_snoc X2 i
                  have hin := inB_all X2 (i : Int)
                  rw [HX2.out, HI.out] at hin
                  rw [HA.out, ← hin] at hal
                  have HAL := Lib.hid hal
                  clear hal hin
                  cases r
                  · go_wp2_with fail
                    go_roundw
                    case rel => exact ⟨i + 1, false, _, _, by omega, by go_num, rfl, rfl, rfl, Lib.hid (by rw [HAL.out]; rfl), trivial⟩
                    case measure => simp [intOf]; omega
                  · cases f
                    · go_wp2_with fail
                      go_roundw
                      case rel => exact ⟨i + 1, false, _, _, by omega, by go_num, rfl, rfl, rfl, Lib.hid (by rw [HAL.out]; rfl), trivial⟩
                      case measure => simp [intOf]; omega
                    · go_wp2_with fail
                      go_roundw
                      case rel => exact ⟨i + 1, true, _, _, by omega, by go_num, rfl, rfl, rfl, Lib.hid (by rw [HAL.out]; rfl), trivial⟩
                      case measure => simp [intOf]; omega
            · obtain rfl : i = m2 := by omega
              obtain ⟨m2, rfl⟩ : ∃ m2, m2 = i := ⟨_, rfl⟩
              have hiff := bkGo_iff X2
              have hsur := allB_surj X2
              rw [HX2.out] at hiff hsur
              rw [HA.out] at hsur
              obtain ⟨RES, hRES⟩ : ∃ r, bkGo X2 0 (List.replicate m2 (-1)) = r := ⟨_, rfl⟩
              rw [hRES] at hiff
              have HRES := Lib.hid hRES
              clear hRES HX2 HA
              cases RES with
              | none =>
                obtain rfl : r = false := by
                  cases r
                  · rfl
                  · have := hiff.2 (hsur.1 rfl); cases this
                clear hiff hsur
                go_wp2_with fail
                refine (s23awake _).mono ?_
                rintro e w7 ⟨rfl, hb⟩
                have HB7 := Lib.hid (thn HB.out hb)
                clear hb HB
                go_wp2_with fail
                refine (back_any a2 m2 cap2 X2 _ ((HL2.out.below HB7.out).ints) (by omega)).mono ?_
                rintro e w8 ⟨hb, hm8⟩
                rw [HRES.out] at hm8
                have hm8 : e = .returned (.slice none 0 0) := hm8
                subst hm8
                have HB8 := Lib.hid (thn HB7.out hb)
                clear hb HB7
                go_wp2
                go_ret
                exact ⟨rfl, HB8.out⟩
              | some Y2 =>
                obtain rfl : r = true := hsur.2 (hiff.1 rfl)
                clear hiff hsur
                by_cases h0 : m2 = 0
                · subst h0
                  go_wp2_with fail
                  refine (s23awake _).mono ?_
                  rintro e w7 ⟨rfl, hb⟩
                  have HB7 := Lib.hid (thn HB.out hb)
                  clear hb HB
                  go_wp2_with fail
                  refine (back_any a2 0 cap2 X2 _ ((HL2.out.below HB7.out).ints) (by omega)).mono ?_
                  rintro e w8 ⟨hb, hm8⟩
                  rw [HRES.out] at hm8
                  obtain ⟨bk8, A8, c8, rfl, _, _⟩ := hm8
                  have HB8 := Lib.hid (thn HB7.out hb)
                  clear hb HB7
                  go_wp2
                  go_ret
                  exact ⟨rfl, HB8.out⟩
                · have hp : (0 : Int) < (m2 : Int) := by omega
                  go_wp2_with fail
                  refine (s23awake _).mono ?_
                  rintro e w7 ⟨rfl, hb⟩
                  have HB7 := Lib.hid (thn HB.out hb)
                  clear hb HB
                  go_wp2_with fail
                  refine (back_any a2 m2 cap2 X2 _ ((HL2.out.below HB7.out).ints) (by omega)).mono ?_
                  rintro e w8 ⟨hb, hm8⟩
                  rw [HRES.out] at hm8
                  obtain ⟨bk8, A8, c8, rfl, _, _⟩ := hm8
                  have HB8 := Lib.hid (thn HB7.out hb)
                  clear hb HB7
                  go_wp2
                  go_ret
                  exact ⟨rfl, HB8.out⟩
end Go.Proofs.Ytbmcgoodilomlaa
