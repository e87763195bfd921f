/- The walk of HeadAny. -/
import Derived.Test.YtcknbbffeeldpaaHeadE
import Derived.Test.YtcknbbffeeldpaaCodeC
namespace Go.Proofs.Ytcknbbffeeldpaa
open Go.RowKit
set_option linter.unusedVariables false
set_option linter.unusedSimpArgs false

theorem hread_no (key at_ : Int) (g cap : Nat) (f : Nat → Nat) (w : World) (H : RowU g 16 w f) (hf : ∀ i, f i < 256) (hcap : 16 ≤ cap) (hk0 : 0 ≤ key) (hk1 : key < 18446744073709551616) (h : readOk key at_ f = false) :
    Calls Try.prog 22 #[.int .u64 key, .int .i64 at_, .slice (some ⟨g, 0, none⟩) 16 cap] w fun e w' => e = .returned (.tuple #[.agg #[.int .i64 0, .int .i64 0, .int .i64 0, .int .i64 0, .int .i64 0], .int .i64 11]) ∧ Below w.heap.size w w' := by
  refine (hread key at_ g cap f w H hf hcap hk0 hk1).mono fun e w' q => ?_
  unfold HReadPost at q
  rw [h, if_neg (by simp)] at q
  exact q
theorem hread_yes (key at_ : Int) (g cap : Nat) (f : Nat → Nat) (w : World) (H : RowU g 16 w f) (hf : ∀ i, f i < 256) (hcap : 16 ≤ cap) (hk0 : 0 ≤ key) (hk1 : key < 18446744073709551616) (h : readOk key at_ f = true) (F1 F2 F3 N E : Nat) (e1 : f 1 = F1) (e2 : f 2 = F2) (e3 : f 3 = F3) (e4 : get3 f 4 = N) (e5 : get3 f 7 = E) :
    Calls Try.prog 22 #[.int .u64 key, .int .i64 at_, .slice (some ⟨g, 0, none⟩) 16 cap] w fun e w' => e = .returned (.tuple #[.agg #[.int .i64 F1, .int .i64 F2, .int .i64 F3, .int .i64 N, .int .i64 E], .int .i64 0]) ∧ Below w.heap.size w w' := by
  refine (hread key at_ g cap f w H hf hcap hk0 hk1).mono fun e w' q => ?_
  unfold HReadPost at q
  rw [h, if_pos rfl, e1, e2, e3, e4, e5] at q
  exact q
theorem row_xor {g : Nat} {W : World} {f : Nat → Nat} (H : RowU g 16 W f) (hf : ∀ i, f i < 256) (J : Nat) (hJ : J < 16) (a b : Int) :
    ∃ f', RowU g 16 (W.setCell ⟨g, J, none⟩ (.int .u8 (bits .xor .u8 a b))) f' ∧ ∀ i, f' i < 256 := by
  obtain ⟨v, hv, e⟩ := bits_u8 a b
  refine ⟨fun i => if i = J then v else f i, H.up (x := J) hJ ?_ (fun k hk => by simp [hk]), fun i => ?_⟩
  · rw [e]; simp
  · show (if i = J then v else f i) < 256
    split
    · exact hv
    · exact hf i
theorem getD_bd {zs : List Int} (h : ∀ x ∈ zs, 0 ≤ x ∧ x < 256) (i : Nat) : 0 ≤ zs.getD i 0 ∧ zs.getD i 0 < 256 := by
  by_cases hi : i < zs.length
  · have := h zs[i] (List.getElem_mem hi)
    simp [List.getD, hi]; omega
  · simp [List.getD, List.getElem?_eq_none (Nat.le_of_not_lt hi)]
set_option maxRecDepth 8000 in
set_option maxHeartbeats 8000000 in
theorem walkHeadAny (a0 : Int) (a1_0 : Int) (a1_1 : Int) (a1_2 : Int) (a1_3 : Int) (a1_4 : Int) (a2 : Option Addr) (len2 cap2 : Nat) (z2 : List Int) (w : World) (w0 : (Lit.int .u64 a0).wf = true) (w1_0 : (Lit.int .i64 a1_0).wf = true) (w1_1 : (Lit.int .i64 a1_1).wf = true) (w1_2 : (Lit.int .i64 a1_2).wf = true) (w1_3 : (Lit.int .i64 a1_3).wf = true) (w1_4 : (Lit.int .i64 a1_4).wf = true) (w2 : IsRow .u8 w a2 len2 cap2 z2) :
    Calls Try.prog 8 #[.int .u64 a0, .agg #[.int .i64 a1_0, .int .i64 a1_1, .int .i64 a1_2, .int .i64 a1_3, .int .i64 a1_4], .slice a2 len2 cap2] w fun e w' => e = .returned (.bool true) ∧ Below w.heap.size w w' := by
  obtain ⟨i0, hi, hz0, hz1, hz2⟩ := info_parts infoU8
  have HK := Lib.hid (bounds_u64 w0)
  have HI := Lib.hid w2.ints
  have hbd : ∀ x ∈ z2.take len2, 0 ≤ x ∧ x < 256 := by
    rcases w2.at with h | ⟨_, _, _, _, _, _, _, hw⟩
    · simp [h]
    · exact fun x hx => wf_u8 (hw x (List.mem_of_mem_take hx))
  have hcap : (a2 = none → len2 = 0 ∧ cap2 = 0) ∧ len2 ≤ cap2 ∧ cap2 ≤ 9223372036854775807 := by
    rcases w2 with ⟨_, rfl, rfl, _⟩ | ⟨x, rfl, h1, h2, _⟩
    · exact ⟨fun _ => ⟨rfl, rfl⟩, by omega, by omega⟩
    · exact ⟨fun h => (by cases h), h1, by unfold maxLen at h2; omega⟩
  obtain ⟨hnil, hc1, hc2⟩ := hcap
  have HNIL := Lib.hid hnil
  clear w2 hnil w0 w1_0 w1_1 w1_2 w1_3 w1_4
  generalize z2.take len2 = zs at *
  have hzl : zs.length = len2 := HI.out.1
  obtain ⟨m, hm⟩ : ∃ m : Nat, min len2 17 = m := ⟨_, rfl⟩
  have hm1 : m ≤ len2 ∧ m ≤ 17 := by omega
  obtain ⟨hm1, hm2⟩ := hm1
  have hmI : min (len2 : Int) 17 = (m : Int) := by omega
  have hmI2 : (if (17 : Int) < (len2 : Int) then (17 : Int) else (len2 : Int)) = (m : Int) := by split <;> omega
  have HBD : Hid (∀ x ∈ zs.take m, 0 ≤ x ∧ x < 256) := Lib.hid fun x hx => hbd x (List.mem_of_mem_take hx)
  have HZB := Lib.hid (getD_bd hbd)
  have HXL : Hid ((zs.take m).length = m) := Lib.hid (by simp; omega)
  have HZL := Lib.hid hzl
  clear hbd hm hzl
  go_enter Try.func8, Try.ntmps8
  go_upto_region 1 with (fail)
  obtain ⟨W2, hW2⟩ : ∃ W2, w.alloc (.cells #[.int .i64 a1_0, .int .i64 a1_1, .int .i64 a1_2, .int .i64 a1_3, .int .i64 a1_4] 47) = W2 := ⟨_, rfl⟩
  have HP := Lib.hid (HeadAt.new w a1_0 a1_1 a1_2 a1_3 a1_4 47)
  have HB2 := Lib.hid (alc0 w (.cells #[.int .i64 a1_0, .int .i64 a1_1, .int .i64 a1_2, .int .i64 a1_3, .int .i64 a1_4] 47))
  have HI2 : Hid (Ints .u8 W2 a2 len2 zs) := Lib.hid (by rw [← hW2]; exact HI.out.below (alc0 w _))
  rw [hW2] at HP HB2 ⊢
  clear hW2 HI
  go_cut [7] (fun v7 wx => ∃ at_, v7 = .int .i64 at_ ∧ W2 = wx)
  case first =>
    go_wp2_with fail
    go_meet
    exact ⟨_, rfl, rfl⟩
  case rest =>
  obtain ⟨at_, rfl, rfl⟩ := hcut
  go_upto_region 2 with (fail)
  go_cut [8] (fun v7 wx => ∃ A K cap, v7 = .slice A K cap ∧ Hid (SomeB A K cap wx) ∧ Hid (Below W2.heap.size W2 wx))
  case first =>
    have hmade := World.ownsRow_made (base := W2.heap.size) (e := 5) (size := 1) W2 #[] 0 (Nat.le_refl _) (by unfold maxLen; omega) (by simp)
    cases a2 with
    | none =>
      obtain ⟨rfl, rfl⟩ := HNIL.out rfl
      obtain rfl : m = 0 := by omega
      go_wp2_with (at_builtin; refine wpList_append_own_none rfl _ _ 37 rfl W2.heap.size 5 i0 1 Try.underlying37 hi _ _ _ rfl hmade rfl ?_)
      go_wp2_with fail
      go_meet
      exact ⟨_, _, _, rfl, Lib.hid ⟨by omega, fun h => by omega⟩, Lib.hid (alc0 _ _)⟩
    | some ad =>
      go_wp2_with (at_builtin; refine wpList_append_own _ rfl _ _ 37 rfl W2.heap.size 5 i0 (.int .u8 0) 1 1 Try.underlying37 hi hz0 hz1 hz2 rfl (by decide) _ _ _ rfl hmade ad m cap2 ((zs.take m).map (Value.int .u8)) rfl ?c0 ?c1 ?c2 ?c3 ?c4 ?c5 ?_)
      case c0 => simp; have := HZL.out; omega
      case c1 =>
        intro j u hu
        have hjl := (List.getElem?_eq_some_iff.1 hu).1
        have hXL := HXL.out
        have hZL := HZL.out
        simp only [List.length_map] at hjl
        obtain ⟨_, h0 | ⟨b, off, e, hlt, _, hc⟩⟩ := HI2.out
        · omega
        · injection e with e
          subst e
          rw [addo, World.cell?_alloc_lt _ _ _ (by exact hlt), hc j (by omega)]
          have hj2 : j < m := by omega
          rw [List.getElem?_map, List.getElem?_take_of_lt hj2] at hu
          simp only [List.getD_eq_getElem?_getD]
          cases hz : zs[j]? with
          | none => rw [hz] at hu; cases hu
          | some y => rw [hz] at hu; simpa using hu
      case c2 => intro u hu; obtain ⟨x, _, rfl⟩ := List.mem_map.1 hu; rfl
      case c3 => unfold maxLen; omega
      case c4 => omega
      case c5 => simp
      intro v' w3 hown hgrow _
      have hown2 : w3.ownsRow W2.heap.size 5 1 v' m ((zs.take m).map (Value.int .u8)) := by simpa using hown
      obtain ⟨A, cap, rfl, hs⟩ := some_of_own hown2 hm2 HBD.out
      have hb3 : Below W2.heap.size W2 w3 := (alc0 _ _).grown hgrow (by simp) (fun j hj => (hmade.lt j hj).1)
      clear hown hown2 hgrow
      go_wp2_with fail
      go_meet
      exact ⟨A, m, cap, rfl, Lib.hid hs, Lib.hid hb3⟩
  case rest =>
  obtain ⟨A, K, cap, rfl, HS, HBc⟩ := hcut
  clear HBD HXL HZL HNIL hmI hmI2 hm1 hm2
  obtain ⟨wa, hwa⟩ : ∃ wa : World, wa = wc := ⟨_, rfl⟩
  rw [← hwa] at HS HBc ⊢
  clear hwa
  have HIa := Lib.hid (HI2.out.below HBc.out)
  go_upto_region 3 with (fail)
  go_cut [33] (fun v33 wx => ∃ c, v33 = .bool c ∧ wa = wx)
  case first =>
    by_cases h0 : len2 = 0
    · have h0' : (len2 : Int) = 0 := by omega
      go_wp2_with fail
      go_meet
      exact ⟨_, rfl, rfl⟩
    · obtain ⟨_, h | ⟨b, off, rfl, hlt, _, hc⟩⟩ := HIa.out
      · exact absurd h h0
      · have c0 := hc 0 (by omega)
        have h0' : ¬ (len2 : Int) = 0 := by omega
        have h0'' : (0 : Int) < len2 := by omega
        rw [Nat.add_zero] at c0
        clear hc
        go_wp2_with fail
        go_meet
        exact ⟨_, rfl, rfl⟩
  case rest =>
  obtain ⟨c, rfl, rfl⟩ := hcut
  go_upto_if 33 with (fail)
  go_cut [8] (fun v7 wx => ∃ A K cap, v7 = .slice A K cap ∧ Hid (SomeB A K cap wx) ∧ Hid (Below W2.heap.size W2 wx))
  case first =>
    cases c
    · go_wp2_with fail
      go_meet
      exact ⟨A, K, cap, rfl, HS, HBc⟩
    · have HPa := Lib.hid (HP.out.below HBc.out)
      obtain ⟨_, k0, k1, k2, k3, k4, kf⟩ := HPa.out
      go_wp2_with fail
      refine (rhead_any _ _ _ _ _ _).mono ?_
      rintro e w3 ⟨S, C, T, N, E, rfl, hok, hb⟩
      obtain ⟨S', C', T', N', E', d1, d2, d3, d4, d5, b1, b2, b3, b4, b5⟩ := headOk_nat hok
      have HBD : Hid (S < 256 ∧ C < 256 ∧ T < 256 ∧ N < 16777216 ∧ E < 16777216) := Lib.hid (by omega)
      have HOK := Lib.hid hok
      have HB3 := Lib.hid (thn HBc.out hb)
      clear hok d1 d2 d3 d4 d5 b1 b2 b3 b4 b5 hb k0 k1 k2 k3 k4 kf HPa HS HIa
      go_wp2_with fail
      refine (hbytes_yes a0 at_ S C T N E _ HOK.out HBD.out.1 HBD.out.2.1 HBD.out.2.2.1 HBD.out.2.2.2.1 HBD.out.2.2.2.2 HK.out.1 HK.out.2).mono ?_
      rintro e w4 ⟨g, rfl, hg, hr, hb⟩
      have HR := Lib.hid hr
      have HB4 := Lib.hid (thn HB3.out hb)
      have HFL := Lib.hid (headF_lt a0 at_ N E HBD.out.1 HBD.out.2.1 HBD.out.2.2.1)
      have hgW : W2.heap.size ≤ g := by have := HB3.out.size; omega
      clear hr hb HB3 hg
      go_wp2_with fail
      go_loopw [9] (fun v9 wr => ∃ (i : Nat) (f : Nat → Nat), i ≤ 6 ∧ i % 2 = 0 ∧ v9 = .int .i64 (i : Nat) ∧ Hid (RowU g 16 wr f) ∧ Hid (∀ i, f i < 256) ∧ Hid (Below W2.heap.size W2 wr)) (fun v9 _ => 8 - (intOf v9).toNat)
      case atStart => exact ⟨0, _, by omega, by omega, rfl, HR, HFL, HB4⟩
      case round =>
        clear HR HFL HB4
        obtain ⟨i, f, hi6, hi2, rfl, HR, HFL, HB4⟩ := hrel
        by_cases hl : i + 1 < len2 ∧ i < 6
        · obtain ⟨hl1, hl2⟩ := hl
          have l1 : (i : Int) + 1 < len2 := by omega
          have l2 : (i : Int) < 6 := by omega
          have l3 : (i : Int) < len2 := by omega
          obtain ⟨_, h | ⟨b, off, rfl, hlt, _, hc⟩⟩ := (HI2.out.below HB4.out)
          · omega
          · have c0 := hc i (by omega)
            have c1 := hc (i + 1) (by omega)
            obtain ⟨Z1, hZ1⟩ : ∃ Z1 : Nat, zs.getD i 0 = Z1 := ⟨(zs.getD i 0).toNat, by have := HZB.out i; omega⟩
            obtain ⟨Z2, hZ2⟩ : ∃ Z2 : Nat, zs.getD (i + 1) 0 = Z2 := ⟨(zs.getD (i + 1) 0).toNat, by have := HZB.out (i + 1); omega⟩
            have hZb := HZB.out i
            rw [hZ1] at c0 hZb; rw [hZ2] at c1
            obtain ⟨Y, hY⟩ : ∃ Y, Z1 / 2 = Y := ⟨_, rfl⟩
            have hy : (Z1 : Int) / 2 = (Y : Int) := by omega
            have hyl : Y < 256 := by omega
            have hJ0 : Y &&& 15 < 16 := Nat.lt_of_le_of_lt Nat.and_le_right (by decide)
            have ha : bits .and .u8 (Y : Int) 15 = ((Y &&& 15 : Nat) : Int) := u8_and_nat Y 15 hyl (by decide)
            obtain ⟨J, hJ⟩ : ∃ J, Y &&& 15 = J := ⟨_, rfl⟩
            rw [hJ] at ha hJ0
            have j0 : (0 : Int) ≤ (J : Int) := by omega
            have j1 : (J : Int) < 16 := by omega
            have j2 : (J : Int).toNat = J := Int.toNat_natCast J
            obtain ⟨m1, m2⟩ := HR.out.2 J hJ0
            clear hc hZ1 hZ2 hZb hY hJ hlt
            go_upto_region 10 with (fail)
            go_region
            all_goals
              go_wp2_with fail
              go_roundw
              case rel =>
                obtain ⟨f', x1, x2⟩ := row_xor HR.out HFL.out J hJ0 (f J : Int) (Z2 : Int)
                exact ⟨i + 2, f', by omega, by omega, by go_num, Lib.hid (x1.below (Below.refl _ _).drew), Lib.hid x2, Lib.hid (HB4.out.setCell (p := ⟨g, J, none⟩) hgW _).drew⟩
              case measure => simp [intOf]; omega
        · have hend : ¬ (i : Int) + 1 < len2 ∨ ((i : Int) + 1 < len2 ∧ ¬ (i : Int) < 6) := by omega
          rcases hend with hend | ⟨hend1, hend⟩
          all_goals
            go_wp2_with fail
            go_meet
            exact ⟨_, 16, 16, rfl, Lib.hid ⟨by omega, fun _ => ⟨g, f, rfl, by omega, HR.out, HFL.out⟩⟩, HB4⟩
  case rest =>
  obtain ⟨A, K, cap, rfl, HS2, HBd⟩ := hcut
  clear HS HBc HIa HI2 HZB
  obtain ⟨wb, hwb⟩ : ∃ wb : World, wb = wc := ⟨_, rfl⟩
  rw [← hwb] at HS2 HBd ⊢
  clear hwb
  have HBw := Lib.hid (thn HB2.out HBd.out)
  have hK17 := HS2.out.1
  by_cases hK : K = 16
  · obtain ⟨g, f, rfl, hcap16, hr, hf⟩ := HS2.out.2 hK
    subst hK
    have HR := Lib.hid hr; have HF := Lib.hid hf
    clear hr hf HS2
    obtain ⟨SB, hSB⟩ : ∃ SB, sealB a0 at_ f = SB := ⟨_, rfl⟩
    have HSB := Lib.hid hSB
    clear hSB
    go_upto_region 11 with (fail)
    go_cut [10] (fun v10 wx => v10 = .bool SB ∧ ∃ q, wx = wb.drewN q)
    case first =>
      obtain ⟨m14, _⟩ := HR.out.2 14 (by omega)
      obtain ⟨m15, _⟩ := HR.out.2 15 (by omega)
      have l14 := HF.out 14
      have l15 := HF.out 15
      have hsb := HSB.out
      unfold sealB at hsb
      obtain ⟨P, hP⟩ : ∃ P, f 14 = P := ⟨_, rfl⟩
      obtain ⟨Q, hQ⟩ : ∃ Q, f 15 = Q := ⟨_, rfl⟩
      rw [hP] at m14 l14 hsb; rw [hQ] at m15 l15 hsb
      obtain ⟨SS, hSS⟩ : ∃ SS, sumR a0 at_ f = SS := ⟨_, rfl⟩
      rw [hSS] at hsb
      have HSS := Lib.hid hSS
      have HS1 := Lib.hid hsb
      clear hP hQ hSS hsb
      have q1 := IntWalk.i64_in (256 * (Q : Int)) (by omega)
      have q2 := IntWalk.i64_in ((P : Int) + 256 * (Q : Int)) (by omega)
      have q3 := IntWalk.i64_in (P : Int) (by omega)
      have q4 := IntWalk.i64_in (Q : Int) (by omega)
      go_quiet (first | (go_at_call 28; exact Calls.quiet_of_same ((rsum a0 at_ g cap 16 f _ ((HR.out).heap (by simp)) (by omega) HF.out HK.out.1 HK.out.2).mono fun _ _ ⟨he, hm⟩ => ⟨he, hm.symm⟩)))
      go_wp2
      go_meet
      exact ⟨congrArg Value.bool (by rw [HSS.out, ← HS1.out, Bool.eq_iff_iff]; simp <;> omega), _, rfl⟩
    case rest =>
    obtain ⟨rfl, q, hq⟩ := hcut
    have hbq : Below wb.heap.size wb wc := by rw [hq]; exact below_drewN (Below.refl _ _) q
    have HBw2 := Lib.hid (thn HBw.out hbq)
    have HRw := Lib.hid (HR.out.below hbq)
    clear hq hbq HBw HR HBd
    obtain ⟨wd, hwd⟩ : ∃ wd : World, wd = wc := ⟨_, rfl⟩
    rw [← hwd] at HBw2 HRw ⊢
    have HBw := HBw2
    clear hwd HBw2
    cases hro : readOk a0 at_ f
    · have HRO := Lib.hid hro
      clear hro
      go_wp2_with fail
      refine (hread_no a0 at_ g cap f _ HRw.out HF.out hcap16 HK.out.1 HK.out.2 HRO.out).mono ?_
      rintro e w5 ⟨rfl, hb⟩
      have HB5 := Lib.hid (thn HBw.out hb)
      have HR5 := Lib.hid (HRw.out.below hb)
      clear hb
      go_upto_region 14 with (fail)
      obtain ⟨w6, hw6⟩ : ∃ w6, w5.alloc (.cells #[.int .i64 0, .int .i64 0, .int .i64 0, .int .i64 0, .int .i64 0] 47) = w6 := ⟨_, rfl⟩
      have hY := HeadAt.new w5 0 0 0 0 0 47
      have HB6 := Lib.hid (alc HB5.out (.cells #[.int .i64 0, .int .i64 0, .int .i64 0, .int .i64 0, .int .i64 0] 47))
      have HR6 := Lib.hid (HR5.out.below (alc0 w5 (.cells #[.int .i64 0, .int .i64 0, .int .i64 0, .int .i64 0, .int .i64 0] 47)))
      rw [hw6] at hY HB6 HR6 ⊢
      have HY := Lib.hid hY
      clear hw6 hY HB5 HR5
      go_wp2_with fail
      refine (h18awake _).mono ?_
      rintro e w9 ⟨rfl, hb⟩
      obtain ⟨_, k0, k1, k2, k3, k4, kf⟩ := HY.out.below hb
      have HB9 := Lib.hid (thn HB6.out hb)
      have HR9 := Lib.hid (HR6.out.below hb)
      clear hb
      go_wp2_with fail
      refine (sealed_is SB a0 at_ g cap f _ HR9.out HF.out hcap16 HK.out.1 HK.out.2 HSB.out).mono ?_
      rintro e w7 ⟨rfl, hb⟩
      go_wp2
      go_ret
      exact ⟨ret_bool (by simp), thn HB9.out hb⟩
    · obtain ⟨F1, hF1⟩ : ∃ F1, f 1 = F1 := ⟨_, rfl⟩
      obtain ⟨F2, hF2⟩ : ∃ F2, f 2 = F2 := ⟨_, rfl⟩
      obtain ⟨F3, hF3⟩ : ∃ F3, f 3 = F3 := ⟨_, rfl⟩
      obtain ⟨N, hN⟩ : ∃ N, get3 f 4 = N := ⟨_, rfl⟩
      obtain ⟨E, hE⟩ : ∃ E, get3 f 7 = E := ⟨_, rfl⟩
      have h2 := hro
      unfold readOk at h2
      rw [hF1, hF2, hF3, hN, hE, HSB.out] at h2
      simp only [Bool.and_eq_true, decide_eq_true_eq] at h2
      obtain ⟨hsb, hok, hse⟩ := h2
      subst hsb
      obtain ⟨S', C', T', N', E', d1, d2, d3, d4, d5, b1, b2, b3, b4, b5⟩ := headOk_nat hok
      have HBD2 : Hid (F1 < 256 ∧ F2 < 256 ∧ F3 < 256 ∧ N < 16777216 ∧ E < 16777216) := Lib.hid (by omega)
      have HOK := Lib.hid hok
      have HSE := Lib.hid hse
      have HE := Lib.hid (And.intro hro (And.intro hF1 (And.intro hF2 (And.intro hF3 (And.intro hN hE)))))
      clear hro hF1 hF2 hF3 hN hE hok hse d1 d2 d3 d4 d5 b1 b2 b3 b4 b5
      go_wp2_with fail
      refine (hread_yes a0 at_ g cap f _ HRw.out HF.out hcap16 HK.out.1 HK.out.2 HE.out.1 F1 F2 F3 N E HE.out.2.1 HE.out.2.2.1 HE.out.2.2.2.1 HE.out.2.2.2.2.1 HE.out.2.2.2.2.2).mono ?_
      rintro e w5 ⟨rfl, hb⟩
      have HB5 := Lib.hid (thn HBw.out hb)
      have HR5 := Lib.hid (HRw.out.below hb)
      clear hb HRw HE
      go_upto_region 15 with (fail)
      obtain ⟨y, hy⟩ : ∃ y, w5.heap.size = y := ⟨_, rfl⟩
      obtain ⟨w6, hw6⟩ : ∃ w6, w5.alloc (.cells #[.int .i64 F1, .int .i64 F2, .int .i64 F3, .int .i64 N, .int .i64 E] 47) = w6 := ⟨_, rfl⟩
      have hY := HeadAt.new w5 F1 F2 F3 N E 47
      have HB6 := Lib.hid (alc HB5.out (.cells #[.int .i64 F1, .int .i64 F2, .int .i64 F3, .int .i64 N, .int .i64 E] 47))
      have HR6 := Lib.hid (HR5.out.below (alc0 w5 (.cells #[.int .i64 F1, .int .i64 F2, .int .i64 F3, .int .i64 N, .int .i64 E] 47)))
      rw [hw6] at hY HB6 HR6 ⊢
      rw [hy] at hY ⊢
      obtain ⟨hyz, j0, j1, j2, j3, j4, _⟩ := hY
      obtain ⟨S0, hS0⟩ : ∃ S0, strU f 16 = S0 := ⟨_, rfl⟩
      refine wp_region_held_drew (S := (fun w' => w'.cell? ⟨y, 0, none⟩ = some (.int .i64 F1) ∧ w'.cell? ⟨y, 1, none⟩ = some (.int .i64 F2) ∧ w'.cell? ⟨y, 2, none⟩ = some (.int .i64 F3) ∧ w'.cell? ⟨y, 3, none⟩ = some (.int .i64 N) ∧ w'.cell? ⟨y, 4, none⟩ = some (.int .i64 E) ∧ Hid (RowU g 16 w' f) ∧ Hid (Below w.heap.size w w') ∧ y < w'.heap.size)) (by kernel_rfl) ?_ (fun hHeld => ?_)
      · exact ⟨j0, j1, j2, j3, j4, Lib.hid (HR6.out.below (Below.refl _ _).drew), Lib.hid HB6.out.drew, hyz⟩
      have HTAKE := Lib.hid (fun (w' : World) (h : (fun w' => w'.cell? ⟨y, 0, none⟩ = some (.int .i64 F1) ∧ w'.cell? ⟨y, 1, none⟩ = some (.int .i64 F2) ∧ w'.cell? ⟨y, 2, none⟩ = some (.int .i64 F3) ∧ w'.cell? ⟨y, 3, none⟩ = some (.int .i64 N) ∧ w'.cell? ⟨y, 4, none⟩ = some (.int .i64 E) ∧ Hid (RowU g 16 w' f) ∧ Hid (Below w.heap.size w w') ∧ y < w'.heap.size) w') => (conv_row h.2.2.2.2.2.1.out cap).trans (by rw [hS0]))
      have HS0 := Lib.hid hS0
      clear j0 j1 j2 j3 j4 hyz HR5 HR6 HB5 HB6 hw6 hy hS0
      refine wpAnyH_ready (rs := [0]) (by kernel_rfl) (by simp) ?_
      refine AllReadyH.cons rfl (fun K2 hK2 => ?_) AllReadyH.nil
      go_simp
      refine (h18awake _).mono ?_
      rintro e w9 ⟨rfl, hb⟩
      refine hK2.out _ _ ?_ (fun hHeld2 => ?_)
      · obtain ⟨j0, j1, j2, j3, j4, jr, jb, jy⟩ := hHeld
        exact ⟨(hb.cell (p := ⟨y, 0, none⟩) jy).trans j0, (hb.cell (p := ⟨y, 1, none⟩) jy).trans j1, (hb.cell (p := ⟨y, 2, none⟩) jy).trans j2, (hb.cell (p := ⟨y, 3, none⟩) jy).trans j3, (hb.cell (p := ⟨y, 4, none⟩) jy).trans j4, Lib.hid (jr.out.below hb), Lib.hid (thn jb.out hb), Nat.lt_of_lt_of_le jy hb.size⟩
      clear hb
      clear hK2 K2 hHeld
      have hHeld := hHeld2
      clear hHeld2
      try simp (maxSteps := 4000000) only [Act.put, List.setIfInBounds_toArray, List.set_cons_zero, List.set_cons_succ]
      refine wpAnyH_take (i := 1) (v := ?_) rfl (by kernel_rfl) (by kernel_rfl) (by kernel_rfl) (fun _ _ _ h => h) (Or.inl ⟨by kernel_rfl, ?_⟩) (by assumption) ?_
      rotate_left
      · (intro w hSw; (try dsimp only at hSw); (try have hTk := Hid.out HTAKE _ hSw); go_simp)
        try (with_reducible rfl)
      rotate_left
      try simp (maxSteps := 4000000) only [Act.put, List.setIfInBounds_toArray, List.set_cons_zero, List.set_cons_succ, List.getElem_toArray, List.getElem_cons_zero, List.getElem_cons_succ]
      refine wpAnyH_take (i := 2) (v := ?_) rfl (by kernel_rfl) (by kernel_rfl) (by kernel_rfl) (fun _ _ _ h => h) (Or.inl ⟨by kernel_rfl, ?_⟩) (by assumption) ?_
      rotate_left
      · (intro w hSw; (try dsimp only at hSw); (try have hTk := Hid.out HTAKE _ hSw); go_simp)
        try (with_reducible rfl)
      rotate_left
      try simp (maxSteps := 4000000) only [Act.put, List.setIfInBounds_toArray, List.set_cons_zero, List.set_cons_succ, List.getElem_toArray, List.getElem_cons_zero, List.getElem_cons_succ]
      refine wpAnyH_take (i := 3) (v := ?_) rfl (by kernel_rfl) (by kernel_rfl) (by kernel_rfl) (fun _ _ _ h => h) (Or.inl ⟨by kernel_rfl, ?_⟩) (by assumption) ?_
      rotate_left
      · (intro w hSw; (try dsimp only at hSw); (try have hTk := Hid.out HTAKE _ hSw); go_simp)
        try (with_reducible rfl)
      rotate_left
      try simp (maxSteps := 4000000) only [Act.put, List.setIfInBounds_toArray, List.set_cons_zero, List.set_cons_succ, List.getElem_toArray, List.getElem_cons_zero, List.getElem_cons_succ]
      refine wpAnyH_take (i := 4) (v := ?_) rfl (by kernel_rfl) (by kernel_rfl) (by kernel_rfl) (fun _ _ _ h => h) (Or.inl ⟨by kernel_rfl, ?_⟩) (by assumption) ?_
      rotate_left
      · (intro w hSw; (try dsimp only at hSw); (try have hTk := Hid.out HTAKE _ hSw); go_simp)
        try (with_reducible rfl)
      rotate_left
      try simp (maxSteps := 4000000) only [Act.put, List.setIfInBounds_toArray, List.set_cons_zero, List.set_cons_succ, List.getElem_toArray, List.getElem_cons_zero, List.getElem_cons_succ]
      refine wpAnyH_take (i := 5) (v := ?_) rfl (by kernel_rfl) (by kernel_rfl) (by kernel_rfl) (fun _ _ _ h => h) (Or.inl ⟨by kernel_rfl, ?_⟩) (by assumption) ?_
      rotate_left
      · (intro w hSw; (try dsimp only at hSw); (try have hTk := Hid.out HTAKE _ hSw); go_simp)
        try (with_reducible rfl)
      rotate_left
      try simp (maxSteps := 4000000) only [Act.put, List.setIfInBounds_toArray, List.set_cons_zero, List.set_cons_succ, List.getElem_toArray, List.getElem_cons_zero, List.getElem_cons_succ]
      refine wpAnyH_take (i := 6) (v := ?_) rfl (by kernel_rfl) (by kernel_rfl) (by kernel_rfl) (fun _ _ _ h => h) (Or.inl ⟨by kernel_rfl, ?_⟩) (by assumption) ?_
      rotate_left
      · (intro w hSw; (try dsimp only at hSw); (try have hTk := Hid.out HTAKE _ hSw); go_simp)
        try (with_reducible rfl)
      rotate_left
      try simp (maxSteps := 4000000) only [Act.put, List.setIfInBounds_toArray, List.set_cons_zero, List.set_cons_succ, List.getElem_toArray, List.getElem_cons_zero, List.getElem_cons_succ]
      refine wpAnyH_take (i := 7) (v := ?_) rfl (by kernel_rfl) (by kernel_rfl) (by kernel_rfl) (fun _ _ _ h => h) (Or.inl ⟨by kernel_rfl, ?_⟩) (by assumption) ?_
      rotate_left
      · (intro w hSw; (try dsimp only at hSw); (try have hTk := Hid.out HTAKE _ hSw); go_simp)
        try (with_reducible rfl)
      rotate_left
      try simp (maxSteps := 4000000) only [Act.put, List.setIfInBounds_toArray, List.set_cons_zero, List.set_cons_succ, List.getElem_toArray, List.getElem_cons_zero, List.getElem_cons_succ]
      refine wpAnyH_ready (rs := [8]) (by kernel_rfl) (by simp) ?_
      refine AllReadyH.cons rfl (fun K2 hK2 => ?_) AllReadyH.nil
      go_simp
      refine (sealed_is true a0 at_ g cap f _ hHeld.2.2.2.2.2.1.out HF.out hcap16 HK.out.1 HK.out.2 HSB.out).mono ?_
      rintro e w9 ⟨rfl, hb⟩
      refine hK2.out _ _ ?_ (fun hHeld2 => ?_)
      · obtain ⟨j0, j1, j2, j3, j4, jr, jb, jy⟩ := hHeld
        exact ⟨(hb.cell (p := ⟨y, 0, none⟩) jy).trans j0, (hb.cell (p := ⟨y, 1, none⟩) jy).trans j1, (hb.cell (p := ⟨y, 2, none⟩) jy).trans j2, (hb.cell (p := ⟨y, 3, none⟩) jy).trans j3, (hb.cell (p := ⟨y, 4, none⟩) jy).trans j4, Lib.hid (jr.out.below hb), Lib.hid (thn jb.out hb), Nat.lt_of_lt_of_le jy hb.size⟩
      clear hb
      clear hK2 K2 hHeld
      have hHeld := hHeld2
      clear hHeld2
      try simp (maxSteps := 4000000) only [Act.put, List.setIfInBounds_toArray, List.set_cons_zero, List.set_cons_succ]
      refine wpAnyH_take (i := 9) (v := ?_) rfl (by kernel_rfl) (by kernel_rfl) (by kernel_rfl) (fun _ _ _ h => h) (Or.inl ⟨by kernel_rfl, ?_⟩) (by assumption) ?_
      rotate_left
      · (intro w hSw; (try dsimp only at hSw); (try have hTk := Hid.out HTAKE _ hSw); go_simp)
        try (with_reducible rfl)
      rotate_left
      try simp (maxSteps := 4000000) only [Act.put, List.setIfInBounds_toArray, List.set_cons_zero, List.set_cons_succ, List.getElem_toArray, List.getElem_cons_zero, List.getElem_cons_succ]
      refine wpAnyH_take (i := 10) (v := ?_) rfl (by kernel_rfl) (by kernel_rfl) (by kernel_rfl) (fun _ _ _ h => h) (Or.inl ⟨by kernel_rfl, ?_⟩) (by assumption) ?_
      rotate_left
      · (intro w hSw; (try dsimp only at hSw); (try have hTk := Hid.out HTAKE _ hSw); go_simp)
        try (with_reducible rfl)
      rotate_left
      try simp (maxSteps := 4000000) only [Act.put, List.setIfInBounds_toArray, List.set_cons_zero, List.set_cons_succ, List.getElem_toArray, List.getElem_cons_zero, List.getElem_cons_succ]
      refine wpAnyH_take (i := 11) (v := ?_) rfl (by kernel_rfl) (by kernel_rfl) (by kernel_rfl) (fun _ _ _ h => h) (Or.inl ⟨by kernel_rfl, ?_⟩) (by assumption) ?_
      rotate_left
      · (intro w hSw; (try dsimp only at hSw); (try have hTk := Hid.out HTAKE _ hSw); go_simp)
        try (with_reducible rfl)
      rotate_left
      try simp (maxSteps := 4000000) only [Act.put, List.setIfInBounds_toArray, List.set_cons_zero, List.set_cons_succ, List.getElem_toArray, List.getElem_cons_zero, List.getElem_cons_succ]
      refine wpAnyH_take (i := 12) (v := ?_) rfl (by kernel_rfl) (by kernel_rfl) (by kernel_rfl) (fun _ _ _ h => h) (Or.inl ⟨by kernel_rfl, ?_⟩) (by assumption) ?_
      rotate_left
      · (intro w hSw; (try dsimp only at hSw); (try have hTk := Hid.out HTAKE _ hSw); go_simp)
        try (with_reducible rfl)
      rotate_left
      try simp (maxSteps := 4000000) only [Act.put, List.setIfInBounds_toArray, List.set_cons_zero, List.set_cons_succ, List.getElem_toArray, List.getElem_cons_zero, List.getElem_cons_succ]
      refine wpAnyH_take (i := 13) (v := ?_) rfl (by kernel_rfl) (by kernel_rfl) (by kernel_rfl) (fun _ _ _ h => h) (Or.inl ⟨by kernel_rfl, ?_⟩) (by assumption) ?_
      rotate_left
      · (intro w hSw; (try dsimp only at hSw); (try have hTk := Hid.out HTAKE _ hSw); go_simp)
        try (with_reducible rfl)
      rotate_left
      try simp (maxSteps := 4000000) only [Act.put, List.setIfInBounds_toArray, List.set_cons_zero, List.set_cons_succ, List.getElem_toArray, List.getElem_cons_zero, List.getElem_cons_succ]
      refine wpAnyH_take (i := 16) (v := ?_) rfl (by kernel_rfl) (by kernel_rfl) (by kernel_rfl) (fun _ _ _ h => h) (Or.inl ⟨by kernel_rfl, ?_⟩) (by assumption) ?_
      rotate_left
      · (intro w hSw; (try dsimp only at hSw); (try have hTk := Hid.out HTAKE _ hSw); go_simp)
        try (with_reducible rfl)
      rotate_left
      try simp (maxSteps := 4000000) only [Act.put, List.setIfInBounds_toArray, List.set_cons_zero, List.set_cons_succ, List.getElem_toArray, List.getElem_cons_zero, List.getElem_cons_succ]
      refine wpAnyH_take (i := 17) (v := ?_) rfl (by kernel_rfl) (by kernel_rfl) (by kernel_rfl) (fun _ _ _ h => h) (Or.inl ⟨by kernel_rfl, ?_⟩) (by assumption) ?_
      rotate_left
      · (intro w hSw; (try dsimp only at hSw); (try have hTk := Hid.out HTAKE _ hSw); go_simp)
        try (with_reducible rfl)
      rotate_left
      try simp (maxSteps := 4000000) only [Act.put, List.setIfInBounds_toArray, List.set_cons_zero, List.set_cons_succ, List.getElem_toArray, List.getElem_cons_zero, List.getElem_cons_succ]
      refine wpAnyH_ready (rs := [14]) (by kernel_rfl) (by simp) ?_
      refine AllReadyH.cons rfl (fun K2 hK2 => ?_) AllReadyH.nil
      go_simp
      refine (hbytes_yes a0 at_ F1 F2 F3 N E _ HOK.out HBD2.out.1 HBD2.out.2.1 HBD2.out.2.2.1 HBD2.out.2.2.2.1 HBD2.out.2.2.2.2 HK.out.1 HK.out.2).mono ?_
      rintro e w9 ⟨g2, rfl, hg2, hr2, hb⟩
      have hcv := (conv_row hr2 16).trans (by rw [HSE.out, HS0.out])
      refine hK2.out _ _ ?_ (fun hHeld2 => ?_)
      · obtain ⟨j0, j1, j2, j3, j4, jr, jb, jy⟩ := hHeld
        exact ⟨(hb.cell (p := ⟨y, 0, none⟩) jy).trans j0, (hb.cell (p := ⟨y, 1, none⟩) jy).trans j1, (hb.cell (p := ⟨y, 2, none⟩) jy).trans j2, (hb.cell (p := ⟨y, 3, none⟩) jy).trans j3, (hb.cell (p := ⟨y, 4, none⟩) jy).trans j4, Lib.hid (jr.out.below hb), Lib.hid (thn jb.out hb), Nat.lt_of_lt_of_le jy hb.size⟩
      clear hb hr2
      clear hK2 K2 hHeld
      have hHeld := hHeld2
      clear hHeld2
      try simp (maxSteps := 4000000) only [Act.put, List.setIfInBounds_toArray, List.set_cons_zero, List.set_cons_succ]
      refine wpAnyH_ready (rs := [15]) (by kernel_rfl) (by simp) ?_
      refine AllReadyH.cons rfl (fun K2 hK2 => ?_) AllReadyH.nil
      go_simp
      refine hK2.out _ _ hHeld (fun hHeld2 => ?_)
      clear hK2 K2 hHeld
      have hHeld := hHeld2
      clear hHeld2
      try simp (maxSteps := 4000000) only [Act.put, List.setIfInBounds_toArray, List.set_cons_zero, List.set_cons_succ]
      refine wpAnyH_take (i := 18) (v := ?_) rfl (by kernel_rfl) (by kernel_rfl) (by kernel_rfl) (fun _ _ _ h => h) (Or.inl ⟨by kernel_rfl, ?_⟩) (by assumption) ?_
      rotate_left
      · (intro w hSw; (try dsimp only at hSw); (try have hTk := Hid.out HTAKE _ hSw); go_simp)
        try (with_reducible rfl)
      rotate_left
      try simp (maxSteps := 4000000) only [Act.put, List.setIfInBounds_toArray, List.set_cons_zero, List.set_cons_succ, List.getElem_toArray, List.getElem_cons_zero, List.getElem_cons_succ]
      refine wpAnyH_take (i := 19) (v := ?_) rfl (by kernel_rfl) (by kernel_rfl) (by kernel_rfl) (fun _ _ _ h => h) (Or.inl ⟨by kernel_rfl, ?_⟩) (by assumption) ?_
      rotate_left
      · (intro w hSw; (try dsimp only at hSw); (try have hTk := Hid.out HTAKE _ hSw); go_simp)
        try (with_reducible rfl)
      rotate_left
      try simp (maxSteps := 4000000) only [Act.put, List.setIfInBounds_toArray, List.set_cons_zero, List.set_cons_succ, List.getElem_toArray, List.getElem_cons_zero, List.getElem_cons_succ]
      refine wpAnyH_take (i := 20) (v := ?_) rfl (by kernel_rfl) (by kernel_rfl) (by kernel_rfl) (fun _ _ _ h => h) (Or.inl ⟨by kernel_rfl, ?_⟩) (by assumption) ?_
      rotate_left
      · (intro w hSw; (try dsimp only at hSw); (try have hTk := Hid.out HTAKE _ hSw); go_simp)
        try (with_reducible rfl)
      rotate_left
      try simp (maxSteps := 4000000) only [Act.put, List.setIfInBounds_toArray, List.set_cons_zero, List.set_cons_succ, List.getElem_toArray, List.getElem_cons_zero, List.getElem_cons_succ]
      refine wpAnyH_done (by kernel_rfl) ?_ _
      go_wp2
      go_ret
      exact ⟨ret_bool (by simp), hHeld.2.2.2.2.2.2.1.out⟩
  · have hK' : ¬ (K : Int) = 16 := by omega
    go_upto_region 11 with (fail)
    go_cut [10] (fun v10 wx => v10 = .bool false ∧ ∃ q, wx = wb.drewN q)
    case first =>
      go_quiet (fail)
      go_wp2
      go_meet
      exact ⟨rfl, _, rfl⟩
    case rest =>
    obtain ⟨rfl, q, hq⟩ := hcut
    have hbq : Below wb.heap.size wb wc := by rw [hq]; exact below_drewN (Below.refl _ _) q
    have HBw2 := Lib.hid (thn HBw.out hbq)
    clear hq hbq HBw HBd HS2
    obtain ⟨wd, hwd⟩ : ∃ wd : World, wd = wc := ⟨_, rfl⟩
    rw [← hwd] at HBw2 ⊢
    have HBw := HBw2
    clear hwd HBw2
    go_wp2_with fail
    refine (hread_len a0 at_ A K cap _ hK (by omega)).mono ?_
    rintro e w5 ⟨rfl, hb⟩
    have HB5 := Lib.hid (thn HBw.out hb)
    clear hb
    go_upto_region 14 with (fail)
    obtain ⟨w6, hw6⟩ : ∃ w6, w5.alloc (.cells #[.int .i64 0, .int .i64 0, .int .i64 0, .int .i64 0, .int .i64 0] 47) = w6 := ⟨_, rfl⟩
    have hY := HeadAt.new w5 0 0 0 0 0 47
    have HB6 := Lib.hid (alc HB5.out (.cells #[.int .i64 0, .int .i64 0, .int .i64 0, .int .i64 0, .int .i64 0] 47))
    rw [hw6] at hY HB6 ⊢
    have HY := Lib.hid hY
    clear hw6 hY HB5
    go_wp2_with fail
    refine (h18awake _).mono ?_
    rintro e w9 ⟨rfl, hb⟩
    obtain ⟨_, k0, k1, k2, k3, k4, kf⟩ := HY.out.below hb
    have HB9 := Lib.hid (thn HB6.out hb)
    clear hb
    go_wp2_with fail
    refine (sealed_len a0 at_ A K cap _ hK (by omega)).mono ?_
    rintro e w7 ⟨rfl, rfl⟩
    go_wp2
    go_ret
    exact ⟨ret_bool (by simp), HB9.out⟩
end Go.Proofs.Ytcknbbffeeldpaa
