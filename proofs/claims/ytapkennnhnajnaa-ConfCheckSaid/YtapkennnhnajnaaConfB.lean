/- The walk of ConfCheck. -/
import Derived.Test.YtapkennnhnajnaaConfC
namespace Go.Proofs.Ytapkennnhnajnaa
open Go.RowKit
set_option linter.unusedVariables false
set_option linter.unusedSimpArgs false

set_option maxRecDepth 8000 in
set_option maxHeartbeats 8000000 in
theorem walkConfCheckX (n0 n1 n2 n3 odd x : Int) (w : World) :
    Calls Try.prog 3 #[.agg #[.int .i64 n0, .int .i64 n1, .int .i64 n2, .int .i64 n3], .int .i64 odd, .int .i64 x] w fun e w' => e = .returned (.bool true) ∧ Below w.heap.size w w' := by
  have e0 := and1 odd
  have e1 := and65535 x
  have e2 := and31 (odd / 2)
  obtain ⟨O, hO⟩ : ∃ O, odd % 2 = O := ⟨_, rfl⟩
  obtain ⟨Y, hY⟩ : ∃ Y, x % 65536 = Y := ⟨_, rfl⟩
  obtain ⟨S, hS⟩ : ∃ S, odd / 2 % 32 = S := ⟨_, rfl⟩
  have y0 : 0 ≤ Y ∧ Y < 65536 := by omega
  have s0 : 0 ≤ S ∧ S < 32 := by omega
  rw [hO] at e0; rw [hY] at e1; rw [hS] at e2
  obtain ⟨am, ham⟩ : ∃ am, (O == 0) = am := ⟨_, rfl⟩
  obtain ⟨R, hR⟩ : ∃ R, S.tmod 12 = R := ⟨_, rfl⟩
  have hR2 : 0 ≤ R ∧ R < 12 := by rw [← hR, Int.tmod_eq_emod_of_nonneg s0.1]; omega
  have hR3 : S % 12 = R := by rw [← hR, Int.tmod_eq_emod_of_nonneg s0.1]
  have HR : Hid (R = 0 ∨ R = 1 ∨ R = 2 ∨ R = 3 ∨ R = 4 ∨ R = 5 ∨ R = 6 ∨ R = 7 ∨ R = 8 ∨ R = 9 ∨ R = 10 ∨ R = 11) := Lib.hid (by omega)
  obtain ⟨y1, y2⟩ := y0
  obtain ⟨s1, s2⟩ := s0
  clear hO hY hS hR2
  go_enter Try.func3, Try.ntmps3
  go_wp2_with fail
  refine (crconf _ _ _ _ _ _).mono ?_
  rintro e w1 ⟨pg, rg, lg, th, ca, ba, sh, re, mo, fi, key, rfl, hcf, hb1⟩
  obtain ⟨hok, hsum⟩ := hcf.ok
  have HOK := Lib.hid hok
  have HCF := Lib.hid hcf
  clear hok hcf
  go_upto_region 2 with (fail)
  obtain ⟨W1, hW1⟩ : ∃ W1, w1.alloc (.cells #[.int .i64 pg, .int .i64 rg, .int .i64 lg, .int .i64 th, .int .i64 ca, .int .i64 ba, .int .i64 sh, .int .i64 re, .int .i64 mo, .int .i64 fi, .int .u64 key] 25) = W1 := ⟨_, rfl⟩
  have HC1 : Hid (ConfAt w1.heap.size W1 pg rg lg th ca ba sh re mo fi key) := Lib.hid (by rw [← hW1]; exact ConfAt.new _ _ _ _ _ _ _ _ _ _ _ _ _)
  have HB1 : Hid (Below w.heap.size w W1) := Lib.hid (by rw [← hW1]; exact alc (thn (alc0 _ _) hb1) _)
  have hwx : w.heap.size ≤ w1.heap.size := Nat.le_trans (by simp) hb1.size
  rw [hW1]
  obtain ⟨p, hp⟩ : ∃ p, w1.heap.size = p := ⟨_, rfl⟩
  rw [hp] at HC1 hwx ⊢
  clear hW1 hb1 hp
  have HI0 : Hid (cfI pg rg lg th ca ba sh re mo fi = 0) := Lib.hid (by unfold cfI; rw [if_pos HOK.out, if_neg (by omega)])
  obtain ⟨_, k0, k1, k2, k3, k4, k5, k6, k7, k8, k9, k10, kf⟩ := HC1.out
  go_wp2_with fail
  refine (cchk_is _ _ _ _ _ _ _ _ _ _ _ _ _ HI0.out).mono ?_
  rintro e w2 ⟨rfl, hb2⟩
  have HC2 := Lib.hid (HC1.out.below hb2)
  have HB2 := Lib.hid (thn HB1.out hb2)
  clear k0 k1 k2 k3 k4 k5 k6 k7 k8 k9 k10 kf hb2 HC1 HB1
  obtain ⟨_, k0, k1, k2, k3, k4, k5, k6, k7, k8, k9, k10, kf⟩ := HC2.out
  go_upto_block 0 with (fail)
  go_cut [9] (fun v9 wx => ∃ pg2 rg2 lg2 th2 ca2 ba2 sh2 re2 mo2 fi2 : Int, v9 = .int .i64 (if CfOk pg2 rg2 lg2 th2 ca2 ba2 sh2 re2 mo2 fi2 then 0 else 1) ∧ (-5 ≤ rg2 ∧ rg2 ≤ 40 ∧ -5 ≤ lg2 ∧ lg2 ≤ 2100) ∧ Hid (ConfAt p wx pg2 rg2 lg2 th2 ca2 ba2 sh2 re2 mo2 fi2 key) ∧ Hid (Below w.heap.size w wx))
  case first =>
    have hB := HCF.out
    unfold CfB at hB
    have HBB := Lib.hid hB
    have hO := HOK.out
    unfold CfOk at hO
    have HOO := Lib.hid hO
    clear hB hO
    rcases HR.out with rfl | rfl | rfl | rfl | rfl | rfl | rfl | rfl | rfl | rfl | rfl | rfl
    · as_aux_lemma =>
        go_wp2_with fail
        all_goals
          go_meet
          have h1 := HBB.out
          have h2 := HOO.out
          exact ⟨(Y - 5), rg, lg, th, ca, ba, sh, re, mo, fi, congrArg (Value.int .i64) (by first | (rw [if_pos (by unfold CfOk; omega)]; done) | (rw [if_neg (by unfold CfOk; omega)]; done)), by omega, Lib.hid (HC2.out.s0 _), Lib.hid (HB2.out.setCell hwx _)⟩
    · as_aux_lemma =>
        have z0 := and31 Y
        obtain ⟨Z, hZ⟩ : ∃ Z, Y % 32 = Z := ⟨_, rfl⟩
        have z1 : 0 ≤ Z ∧ Z < 32 := by omega
        rw [hZ] at z0
        obtain ⟨z1, z2⟩ := z1
        clear hZ
        go_wp2_with fail
        all_goals
          go_meet
          have h1 := HBB.out
          have h2 := HOO.out
          exact ⟨pg, (Z - 2), lg, th, ca, ba, sh, re, mo, fi, congrArg (Value.int .i64) (by first | (rw [if_pos (by unfold CfOk; omega)]; done) | (rw [if_neg (by unfold CfOk; omega)]; done)), by omega, Lib.hid (HC2.out.s1 _), Lib.hid (HB2.out.setCell hwx _)⟩
    · as_aux_lemma =>
        have z0 := and2047 Y
        obtain ⟨Z, hZ⟩ : ∃ Z, Y % 2048 = Z := ⟨_, rfl⟩
        have z1 : 0 ≤ Z ∧ Z < 2048 := by omega
        rw [hZ] at z0
        obtain ⟨z1, z2⟩ := z1
        clear hZ
        go_wp2_with fail
        all_goals
          go_meet
          have h1 := HBB.out
          have h2 := HOO.out
          exact ⟨pg, rg, (Z - 5), th, ca, ba, sh, re, mo, fi, congrArg (Value.int .i64) (by first | (rw [if_pos (by unfold CfOk; omega)]; done) | (rw [if_neg (by unfold CfOk; omega)]; done)), by omega, Lib.hid (HC2.out.s2 _), Lib.hid (HB2.out.setCell hwx _)⟩
    · as_aux_lemma =>
        have z0 := and15 Y
        obtain ⟨Z, hZ⟩ : ∃ Z, Y % 16 = Z := ⟨_, rfl⟩
        have z1 : 0 ≤ Z ∧ Z < 16 := by omega
        rw [hZ] at z0
        obtain ⟨z1, z2⟩ := z1
        clear hZ
        go_wp2_with fail
        all_goals
          go_meet
          have h1 := HBB.out
          have h2 := HOO.out
          exact ⟨pg, rg, lg, (Z - 2), ca, ba, sh, re, mo, fi, congrArg (Value.int .i64) (by first | (rw [if_pos (by unfold CfOk; omega)]; done) | (rw [if_neg (by unfold CfOk; omega)]; done)), by omega, Lib.hid (HC2.out.s3 _), Lib.hid (HB2.out.setCell hwx _)⟩
    · as_aux_lemma =>
        have z0 := and31 Y
        obtain ⟨Z, hZ⟩ : ∃ Z, Y % 32 = Z := ⟨_, rfl⟩
        have z1 : 0 ≤ Z ∧ Z < 32 := by omega
        rw [hZ] at z0
        obtain ⟨z1, z2⟩ := z1
        clear hZ
        go_wp2_with fail
        all_goals
          go_meet
          have h1 := HBB.out
          have h2 := HOO.out
          exact ⟨pg, rg, lg, th, ca, (Z - 2), sh, re, mo, fi, congrArg (Value.int .i64) (by first | (rw [if_pos (by unfold CfOk; omega)]; done) | (rw [if_neg (by unfold CfOk; omega)]; done)), by omega, Lib.hid (HC2.out.s5 _), Lib.hid (HB2.out.setCell hwx _)⟩
    · as_aux_lemma =>
        have z0 := and63 Y
        obtain ⟨Z, hZ⟩ : ∃ Z, Y % 64 = Z := ⟨_, rfl⟩
        have z1 : 0 ≤ Z ∧ Z < 64 := by omega
        rw [hZ] at z0
        obtain ⟨z1, z2⟩ := z1
        clear hZ
        go_wp2_with fail
        all_goals
          go_meet
          have h1 := HBB.out
          have h2 := HOO.out
          exact ⟨pg, rg, lg, th, (Z - 2), ba, sh, re, mo, fi, congrArg (Value.int .i64) (by first | (rw [if_pos (by unfold CfOk; omega)]; done) | (rw [if_neg (by unfold CfOk; omega)]; done)), by omega, Lib.hid (HC2.out.s4 _), Lib.hid (HB2.out.setCell hwx _)⟩
    · as_aux_lemma =>
        have z0 := and31 Y
        obtain ⟨Z, hZ⟩ : ∃ Z, Y % 32 = Z := ⟨_, rfl⟩
        have z1 : 0 ≤ Z ∧ Z < 32 := by omega
        rw [hZ] at z0
        obtain ⟨z1, z2⟩ := z1
        clear hZ
        go_wp2_with fail
        all_goals
          go_meet
          have h1 := HBB.out
          have h2 := HOO.out
          exact ⟨pg, rg, lg, th, ca, ba, (Z - 2), re, mo, fi, congrArg (Value.int .i64) (by first | (rw [if_pos (by unfold CfOk; omega)]; done) | (rw [if_neg (by unfold CfOk; omega)]; done)), by omega, Lib.hid (HC2.out.s6 _), Lib.hid (HB2.out.setCell hwx _)⟩
    · as_aux_lemma =>
        have z0 := and127 Y
        obtain ⟨Z, hZ⟩ : ∃ Z, Y % 128 = Z := ⟨_, rfl⟩
        have z1 : 0 ≤ Z ∧ Z < 128 := by omega
        rw [hZ] at z0
        obtain ⟨z1, z2⟩ := z1
        clear hZ
        go_wp2_with fail
        all_goals
          go_meet
          have h1 := HBB.out
          have h2 := HOO.out
          exact ⟨pg, rg, lg, th, ca, ba, sh, (Z - 2), mo, fi, congrArg (Value.int .i64) (by first | (rw [if_pos (by unfold CfOk; omega)]; done) | (rw [if_neg (by unfold CfOk; omega)]; done)), by omega, Lib.hid (HC2.out.s7 _), Lib.hid (HB2.out.setCell hwx _)⟩
    · as_aux_lemma =>
        go_wp2_with fail
        all_goals
          go_meet
          have h1 := HBB.out
          have h2 := HOO.out
          exact ⟨pg, rg, lg, th, ca, ba, sh, re, (Y - 5), fi, congrArg (Value.int .i64) (by first | (rw [if_pos (by unfold CfOk; omega)]; done) | (rw [if_neg (by unfold CfOk; omega)]; done)), by omega, Lib.hid (HC2.out.s8 _), Lib.hid (HB2.out.setCell hwx _)⟩
    · as_aux_lemma =>
        have z0 := and1023 Y
        obtain ⟨Z, hZ⟩ : ∃ Z, Y % 1024 = Z := ⟨_, rfl⟩
        have z1 : 0 ≤ Z ∧ Z < 1024 := by omega
        rw [hZ] at z0
        obtain ⟨z1, z2⟩ := z1
        clear hZ
        go_wp2_with fail
        all_goals
          go_meet
          have h1 := HBB.out
          have h2 := HOO.out
          exact ⟨pg, rg, lg, th, ca, ba, sh, re, mo, (Z - 5), congrArg (Value.int .i64) (by first | (rw [if_pos (by unfold CfOk; omega)]; done) | (rw [if_neg (by unfold CfOk; omega)]; done)), by omega, Lib.hid (HC2.out.s9 _), Lib.hid (HB2.out.setCell hwx _)⟩
    all_goals
     as_aux_lemma =>
      go_wp2_with fail
      go_meet
      have h1 := HBB.out
      have h2 := HOO.out
      exact ⟨pg, rg, lg, th, ca, ba, sh, re, mo, fi, congrArg (Value.int .i64) (by rw [if_pos HOK.out]), by omega, HC2, HB2⟩
  case rest =>
    obtain ⟨pg2, rg2, lg2, th2, ca2, ba2, sh2, re2, mo2, fi2, rfl, ⟨r1, r2, r3, r4⟩, HC3, HB3⟩ := hcut
    clear k0 k1 k2 k3 k4 k5 k6 k7 k8 k9 k10 kf HC2 HB2 HI0 HOK HCF HR e0 e1 e2 hR hR3
    obtain ⟨_, k0, k1, k2, k3, k4, k5, k6, k7, k8, k9, k10, kf⟩ := HC3.out
    by_cases hk : CfOk pg2 rg2 lg2 th2 ca2 ba2 sh2 re2 mo2 fi2
    · have HK := Lib.hid hk
      rw [if_pos hk]
      have hr : (5 ≤ rg2 ∧ rg2 ≤ 16) ∧ (0 ≤ lg2 ∧ lg2 ≤ 1024) := by unfold CfOk at hk; omega
      have HRR := Lib.hid hr
      clear hk hr
      by_cases hbig : 1024 < 20 * rg2 + lg2
      · as_aux_lemma =>
          have HI : Hid (cfI pg2 rg2 lg2 th2 ca2 ba2 sh2 re2 mo2 fi2 = 4) := Lib.hid (by unfold cfI; rw [if_pos HK.out, if_pos (by omega)])
          go_wp2_with fail
          refine (c38awake_any _).mono ?_
          rintro e w5 ⟨rfl, hb⟩
          have HC5 := Lib.hid (HC3.out.below hb)
          have HB5 := Lib.hid (thn HB3.out hb)
          clear k0 k1 k2 k3 k4 k5 k6 k7 k8 k9 k10 kf hb
          obtain ⟨_, k0, k1, k2, k3, k4, k5, k6, k7, k8, k9, k10, kf⟩ := HC5.out
          go_wp2_with fail
          refine (cchk_is _ _ _ _ _ _ _ _ _ _ _ _ _ HI.out).mono ?_
          rintro e w6 ⟨rfl, hb⟩
          have HC6 := Lib.hid (HC5.out.below hb)
          have HB6 := Lib.hid (thn HB5.out hb)
          clear k0 k1 k2 k3 k4 k5 k6 k7 k8 k9 k10 kf hb
          obtain ⟨_, k0, k1, k2, k3, k4, k5, k6, k7, k8, k9, k10, kf⟩ := HC6.out
          go_wp2_with fail
          refine (campl_no 4 _ _ _ _ _ _ _ _ _ _ _ _ HI rfl).mono ?_
          rintro e w7 ⟨rfl, hb⟩
          have HC7 := Lib.hid (HC6.out.below hb)
          have HB7 := Lib.hid (thn HB6.out hb)
          clear k0 k1 k2 k3 k4 k5 k6 k7 k8 k9 k10 kf hb
          obtain ⟨_, k0, k1, k2, k3, k4, k5, k6, k7, k8, k9, k10, kf⟩ := HC7.out
          go_wp2
          go_ret
          exact ⟨ret_bool (by simp), HB7.out⟩
      · as_aux_lemma =>
          have HI : Hid (cfI pg2 rg2 lg2 th2 ca2 ba2 sh2 re2 mo2 fi2 = 0) := Lib.hid (by unfold cfI; rw [if_pos HK.out, if_neg (by omega)])
          obtain ⟨G, hG⟩ : ∃ G, decide (rg2 * 20 + lg2 ≤ pg2) = G := ⟨_, rfl⟩
          have HG := Lib.hid hG
          have hG2 : decide (20 * rg2 + lg2 ≤ pg2) = G := by rw [← hG, decide_eq_decide]; omega
          clear hG
          go_wp2_with fail
          refine (c38awake_any _).mono ?_
          rintro e w5 ⟨rfl, hb⟩
          have HC5 := Lib.hid (HC3.out.below hb)
          have HB5 := Lib.hid (thn HB3.out hb)
          clear k0 k1 k2 k3 k4 k5 k6 k7 k8 k9 k10 kf hb
          obtain ⟨_, k0, k1, k2, k3, k4, k5, k6, k7, k8, k9, k10, kf⟩ := HC5.out
          go_wp2_with fail
          refine (cchk_is _ _ _ _ _ _ _ _ _ _ _ _ _ HI.out).mono ?_
          rintro e w6 ⟨rfl, hb⟩
          have HC6 := Lib.hid (HC5.out.below hb)
          have HB6 := Lib.hid (thn HB5.out hb)
          clear k0 k1 k2 k3 k4 k5 k6 k7 k8 k9 k10 kf hb
          obtain ⟨_, k0, k1, k2, k3, k4, k5, k6, k7, k8, k9, k10, kf⟩ := HC6.out
          go_wp2_with fail
          refine (campl_yes _ _ _ _ _ _ _ _ _ _ _ _ HI HRR).mono ?_
          rintro e w7 ⟨rfl, hb⟩
          rw [HG.out]
          have HC7 := Lib.hid (HC6.out.below hb)
          have HB7 := Lib.hid (thn HB6.out hb)
          clear k0 k1 k2 k3 k4 k5 k6 k7 k8 k9 k10 kf hb
          obtain ⟨_, k0, k1, k2, k3, k4, k5, k6, k7, k8, k9, k10, kf⟩ := HC7.out
          cases G
          all_goals
            go_wp2
            all_goals
              go_ret
              exact ⟨ret_bool (by simp), HB7.out⟩
    · as_aux_lemma =>
        rw [if_neg hk]
        have HI : Hid (cfI pg2 rg2 lg2 th2 ca2 ba2 sh2 re2 mo2 fi2 = 1) := Lib.hid (by unfold cfI; rw [if_neg hk])
        clear hk
        go_wp2_with fail
        refine (c38awake_any _).mono ?_
        rintro e w5 ⟨rfl, hb⟩
        have HC5 := Lib.hid (HC3.out.below hb)
        have HB5 := Lib.hid (thn HB3.out hb)
        clear k0 k1 k2 k3 k4 k5 k6 k7 k8 k9 k10 kf hb
        obtain ⟨_, k0, k1, k2, k3, k4, k5, k6, k7, k8, k9, k10, kf⟩ := HC5.out
        go_wp2_with fail
        refine (cchk_is _ _ _ _ _ _ _ _ _ _ _ _ _ HI.out).mono ?_
        rintro e w6 ⟨rfl, hb⟩
        have HC6 := Lib.hid (HC5.out.below hb)
        have HB6 := Lib.hid (thn HB5.out hb)
        clear k0 k1 k2 k3 k4 k5 k6 k7 k8 k9 k10 kf hb
        obtain ⟨_, k0, k1, k2, k3, k4, k5, k6, k7, k8, k9, k10, kf⟩ := HC6.out
        go_wp2_with fail
        refine (campl_no 1 _ _ _ _ _ _ _ _ _ _ _ _ HI rfl).mono ?_
        rintro e w7 ⟨rfl, hb⟩
        have HC7 := Lib.hid (HC6.out.below hb)
        have HB7 := Lib.hid (thn HB6.out hb)
        clear k0 k1 k2 k3 k4 k5 k6 k7 k8 k9 k10 kf hb
        obtain ⟨_, k0, k1, k2, k3, k4, k5, k6, k7, k8, k9, k10, kf⟩ := HC7.out
        go_wp2
        go_ret
        exact ⟨ret_bool (by simp), HB7.out⟩
theorem walkConfCheck (a0_0 : Int) (a0_1 : Int) (a0_2 : Int) (a0_3 : Int) (a1 : Int) (a2 : Int) (w : World) (w0_0 : (Lit.int .i64 a0_0).wf = true) (w0_1 : (Lit.int .i64 a0_1).wf = true) (w0_2 : (Lit.int .i64 a0_2).wf = true) (w0_3 : (Lit.int .i64 a0_3).wf = true) (w1 : (Lit.int .i64 a1).wf = true) (w2 : (Lit.int .i64 a2).wf = true) :
    Calls Try.prog 3 #[.agg #[.int .i64 a0_0, .int .i64 a0_1, .int .i64 a0_2, .int .i64 a0_3], .int .i64 a1, .int .i64 a2] w fun e w' => e = .returned (.bool true) ∧ Below w.heap.size w w' :=
  walkConfCheckX _ _ _ _ _ _ w
end Go.Proofs.Ytapkennnhnajnaa
