/- The walk of DeriveOne. -/
import Derived.Test.YtcknbbffeeldpaaDeriveA
import Derived.Deep.CutBlock
namespace Go.Proofs.Ytcknbbffeeldpaa
open Go.RowKit
set_option linter.unusedVariables false
set_option linter.unusedSimpArgs false

theorem pless_val (P n : Int) (hp : 0 ≤ P ∧ P ≤ 31) (hn : 0 ≤ n ∧ n ≤ 31) : ∃ A, bits .and .i64 P n = A ∧ 0 ≤ A ∧ A ≤ 31 ∧ P - A = plessI P n := by
  have all : ∀ a b : Fin 32, (0 ≤ bits .and .i64 (a.val : Int) (b.val : Int) ∧ bits .and .i64 (a.val : Int) (b.val : Int) ≤ 31) ∧ (a.val : Int) - bits .and .i64 (a.val : Int) (b.val : Int) = bits .andNot .i64 (a.val : Int) (b.val : Int) := by decide +kernel
  obtain ⟨h1, h2⟩ := hp
  obtain ⟨h3, h4⟩ := hn
  have h := all ⟨P.toNat, by omega⟩ ⟨n.toNat, by omega⟩
  rw [show ((⟨P.toNat, by omega⟩ : Fin 32).val : Int) = P by simp; omega, show ((⟨n.toNat, by omega⟩ : Fin 32).val : Int) = n by simp; omega] at h
  refine ⟨_, rfl, h.1.1, h.1.2, ?_⟩
  rw [h.2, plessI, pmay_yes ⟨h1, h2⟩, pmay_yes ⟨h3, h4⟩]; rfl

set_option maxRecDepth 8000 in
set_option maxHeartbeats 4000000 in
theorem walkDeriveOneX (b l c p t odd n : Int) (v : Bool) (w : World) :
    Calls Try.prog 3 #[.agg #[.int .i64 b, .int .i64 l, .int .i64 c, .int .i64 p, .int .i64 t, .bool v], .int .i64 odd, .int .i64 n] w fun e w' => e = .returned (.bool true) ∧ Below w.heap.size w w' := by
  go_enter Try.func3, Try.ntmps3
  go_wp2_with fail
  refine (rcap_any _ _ _ _ _ _ _ _).mono ?_
  rintro e w1 ⟨B, L, C, P, T, V, rfl, ⟨q1, q2, q3, q4⟩, hb1⟩
  obtain ⟨M, hM⟩ : ∃ M, (V && capOkB B L C P T) = M := ⟨_, rfl⟩
  have HM := Lib.hid hM; clear hM
  go_upto_region 2 with (fail)
  obtain ⟨W1, hW1⟩ : ∃ W1, w1.alloc (.cells #[.int .i64 B, .int .i64 L, .int .i64 C, .int .i64 P, .int .i64 T, .bool V] 23) = W1 := ⟨_, rfl⟩
  have HX1 : Hid (CapAt w1.heap.size W1 B L C P T V) := Lib.hid (by rw [← hW1]; exact CapAt.new _ _ _ _ _ _ _ _)
  have HB1 : Hid (Below w.heap.size w W1) := Lib.hid (by rw [← hW1]; exact alc (thn (alc0 _ _) hb1) _)
  have hwx : w.heap.size ≤ w1.heap.size := Nat.le_trans (by simp) hb1.size
  rw [hW1]
  obtain ⟨x, hx⟩ : ∃ x, w1.heap.size = x := ⟨_, rfl⟩
  rw [hx] at HX1 hwx ⊢
  clear hW1 hb1 hx
  go_cut [8] (fun v8 wx => v8 = .bool M ∧ Hid (CapAt x wx B L C P T V) ∧ Hid (Below w.heap.size w wx))
  case first =>
    obtain ⟨_, k0, k1, k2, k3, k4, k5, kf⟩ := HX1.out
    cases V
    · have hw : M = false := by rw [← HM.out]; rfl
      subst hw
      go_wp2_with fail
      go_meet
      exact ⟨rfl, HX1, HB1⟩
    · have HM2 : Hid (capOkB B L C P T = M) := Lib.hid (by rw [← HM.out]; rfl)
      go_wp2_with fail
      refine (rmayv_is _ _ _ _ _ _ _ HM2.out).mono ?_
      rintro e w5 ⟨rfl, hb5⟩
      go_wp2_with fail
      go_meet
      exact ⟨rfl, Lib.hid (HX1.out.below hb5), Lib.hid (thn HB1.out hb5)⟩
  case rest =>
    obtain ⟨rfl, HX2, HB2⟩ := hcut
    clear HX1 HB1
    obtain ⟨b1, l1, c1, p1, t1, v1, e1, h1⟩ := br_ex B L C P T V n
    obtain ⟨b2, l2, c2, p2, t2, v2, e2, h2⟩ := dr_ex B L C P T V n
    obtain ⟨b3, l3, c3, p3, t3, v3, e3, h3⟩ := mr_ex B L C P T V n
    have HR1 := Lib.hid h1; have HR2 := Lib.hid h2; have HR3 := Lib.hid h3
    clear h1 h2 h3
    obtain ⟨_, k0, k1, k2, k3, k4, k5, kf⟩ := HX2.out
    go_wp2_with fail
    refine (dbounds_is _ _ _ _ _ _ _ _ _ _ _ _ _ _ _ HR1.out).mono ?_
    rintro e u1 ⟨rfl, hb⟩
    clear k0 k1 k2 k3 k4 k5 kf
    go_upto_region 4 with (fail)
    obtain ⟨U1, hU⟩ : ∃ U, u1.alloc (.cells #[.int .i64 b1, .int .i64 l1, .int .i64 c1, .int .i64 p1, .int .i64 t1, .bool v1] 23) = U := ⟨_, rfl⟩
    have HY1 : Hid (CapAt u1.heap.size U1 b1 l1 c1 p1 t1 v1) := Lib.hid (by rw [← hU]; exact CapAt.new _ _ _ _ _ _ _ _)
    have hbu := alc hb (.cells #[.int .i64 b1, .int .i64 l1, .int .i64 c1, .int .i64 p1, .int .i64 t1, .bool v1] 23)
    rw [hU] at hbu
    have HX3 := Lib.hid (HX2.out.below hbu)
    have HB3 := Lib.hid (thn HB2.out hbu)
    rw [hU]
    obtain ⟨y1, hy⟩ : ∃ y, u1.heap.size = y := ⟨_, rfl⟩
    rw [hy] at HY1 ⊢
    clear hU hb hbu hy HX2 HB2
    obtain ⟨_, k0, k1, k2, k3, k4, k5, kf⟩ := HX3.out
    go_wp2_with fail
    refine (ddrop_is _ _ _ _ _ _ _ _ _ _ _ _ _ _ _ HR2.out).mono ?_
    rintro e u2 ⟨rfl, hb⟩
    clear k0 k1 k2 k3 k4 k5 kf
    go_upto_region 5 with (fail)
    obtain ⟨U2, hU⟩ : ∃ U, u2.alloc (.cells #[.int .i64 b2, .int .i64 l2, .int .i64 c2, .int .i64 p2, .int .i64 t2, .bool v2] 23) = U := ⟨_, rfl⟩
    have HY2 : Hid (CapAt u2.heap.size U2 b2 l2 c2 p2 t2 v2) := Lib.hid (by rw [← hU]; exact CapAt.new _ _ _ _ _ _ _ _)
    have hbu := alc hb (.cells #[.int .i64 b2, .int .i64 l2, .int .i64 c2, .int .i64 p2, .int .i64 t2, .bool v2] 23)
    rw [hU] at hbu
    have HX4 := Lib.hid (HX3.out.below hbu)
    have HB4 := Lib.hid (thn HB3.out hbu)
    have HY1' := Lib.hid (HY1.out.below hbu)
    clear HY1
    have HY1 := HY1'
    clear HY1'
    rw [hU]
    obtain ⟨y2, hy⟩ : ∃ y, u2.heap.size = y := ⟨_, rfl⟩
    rw [hy] at HY2 ⊢
    clear hU hb hbu hy HX3 HB3
    obtain ⟨_, k0, k1, k2, k3, k4, k5, kf⟩ := HX4.out
    go_wp2_with fail
    refine (dmove_is _ _ _ _ _ _ _ _ _ _ _ _ _ _ _ HR3.out).mono ?_
    rintro e u3 ⟨rfl, hb⟩
    clear k0 k1 k2 k3 k4 k5 kf
    go_upto_region 6 with (fail)
    obtain ⟨U3, hU⟩ : ∃ U, u3.alloc (.cells #[.int .i64 b3, .int .i64 l3, .int .i64 c3, .int .i64 p3, .int .i64 t3, .bool v3] 23) = U := ⟨_, rfl⟩
    have HY3 : Hid (CapAt u3.heap.size U3 b3 l3 c3 p3 t3 v3) := Lib.hid (by rw [← hU]; exact CapAt.new _ _ _ _ _ _ _ _)
    have hbu := alc hb (.cells #[.int .i64 b3, .int .i64 l3, .int .i64 c3, .int .i64 p3, .int .i64 t3, .bool v3] 23)
    rw [hU] at hbu
    have HX5 := Lib.hid (HX4.out.below hbu)
    have HB5 := Lib.hid (thn HB4.out hbu)
    have HY1' := Lib.hid (HY1.out.below hbu)
    clear HY1
    have HY1 := HY1'
    clear HY1'
    have HY2' := Lib.hid (HY2.out.below hbu)
    clear HY2
    have HY2 := HY2'
    clear HY2'
    rw [hU]
    obtain ⟨y3, hy⟩ : ∃ y, u3.heap.size = y := ⟨_, rfl⟩
    rw [hy] at HY3 ⊢
    clear hU hb hbu hy HX4 HB4
    cases M
    · as_aux_lemma =>
        obtain ⟨⟨rfl, rfl, rfl, rfl, rfl, rfl⟩, rfl⟩ : CZ b1 l1 c1 p1 t1 v1 ∧ e1 = 7 := by
          rcases HR1.out with ⟨_, h⟩ | ⟨h, _⟩ | ⟨h, _⟩ | ⟨h, _⟩
          · exact h
          all_goals (rw [HM.out] at h; cases h)
        obtain ⟨⟨rfl, rfl, rfl, rfl, rfl, rfl⟩, rfl⟩ : CZ b2 l2 c2 p2 t2 v2 ∧ e2 = 7 := by
          rcases HR2.out with ⟨_, h⟩ | ⟨h, _⟩ | ⟨h, _⟩
          · exact h
          all_goals (rw [HM.out] at h; cases h)
        obtain ⟨⟨rfl, rfl, rfl, rfl, rfl, rfl⟩, rfl⟩ : CZ b3 l3 c3 p3 t3 v3 ∧ e3 = 7 := by
          rcases HR3.out with ⟨_, h⟩ | ⟨h, _⟩ | ⟨h, _⟩
          · exact h
          all_goals (rw [HM.out] at h; cases h)
        go_wp2_with fail
        refine (c12awake_any _).mono ?_
        rintro e w9 ⟨rfl, hb⟩
        obtain ⟨_, a0, a1, a2, a3, a4, a5, _⟩ := HY1.out.below hb
        obtain ⟨_, d0, d1, d2, d3, d4, d5, _⟩ := HY2.out.below hb
        obtain ⟨_, f0, f1, f2, f3, f4, f5, _⟩ := HY3.out.below hb
        go_wp2
        go_ret
        exact ⟨ret_bool (by simp), thn HB5.out hb⟩
    · as_aux_lemma =>
        obtain ⟨rfl, hbk, hck, hpk, htk⟩ := ok_base HM.out
        obtain ⟨N0, hN0⟩ : ∃ N0, U3.heap.size = N0 := ⟨_, rfl⟩
        have hxN : x < N0 ∧ y1 < N0 ∧ y2 < N0 ∧ y3 < N0 ∧ w.heap.size ≤ N0 := by
          rw [← hN0]; exact ⟨HX5.out.1, HY1.out.1, HY2.out.1, HY3.out.1, HB5.out.size⟩
        obtain ⟨D, hD⟩ : ∃ D : World → Prop, D = fun W => CapAt x W B L C P T true ∧ CapAt y1 W b1 l1 c1 p1 t1 v1 ∧ CapAt y2 W b2 l2 c2 p2 t2 v2 ∧ CapAt y3 W b3 l3 c3 p3 t3 v3 ∧ Below w.heap.size w W := ⟨_, rfl⟩
        have HD : Hid (D U3) := Lib.hid (by rw [hD]; exact ⟨HX5.out, HY1.out, HY2.out, HY3.out, HB5.out⟩)
        have HDe : Hid (∀ W, D W → CapAt x W B L C P T true ∧ CapAt y1 W b1 l1 c1 p1 t1 v1 ∧ CapAt y2 W b2 l2 c2 p2 t2 v2 ∧ CapAt y3 W b3 l3 c3 p3 t3 v3 ∧ Below w.heap.size w W) := Lib.hid (fun W h => by rw [hD] at h; exact h)
        have HDb : Hid (∀ W W', D W → Below W.heap.size W W' → D W') := Lib.hid (fun W W' h hb => by
          rw [hD] at h ⊢
          exact ⟨h.1.below hb, h.2.1.below hb, h.2.2.1.below hb, h.2.2.2.1.below hb, thn h.2.2.2.2 hb⟩)
        have HDs : Hid (∀ W z o a, D W → N0 ≤ z → D (W.setCell ⟨z, o, none⟩ a)) := Lib.hid (fun W z o a h hz => by
          rw [hD] at h ⊢
          exact ⟨h.1.far (by omega), h.2.1.far (by omega), h.2.2.1.far (by omega), h.2.2.2.1.far (by omega), h.2.2.2.2.setCell (show w.heap.size ≤ z by omega) _⟩)
        obtain ⟨_, k0, k1, k2, k3, k4, k5, kf⟩ := HX5.out
        clear HX5 HY1 HY2 HY3 HB5 hD
        have hx0 : x < N0 := hxN.1
        have hx1 : x < N0 + 1 := by omega
        have hx2 : x < N0 + 1 + 1 := by omega
        have hx3 : x < N0 + 2 := by omega
        have g0 : ∀ o, o < 3 → ¬ N0 + o = x := by omega
        have g1 : ∀ o, o < 3 → ¬ x = N0 + o := by omega
        go_upto_region 8 with (fail)
        go_cut [15, 16, 17, 18, 19, 20] (fun v15 v16 v17 v18 v19 v20 wx => ∃ z1 z2 z3, v15 = .pointer (some ⟨z1, 0, none⟩) ∧ v16 = .int .i64 0 ∧ v17 = .pointer (some ⟨z2, 0, none⟩) ∧ v18 = .int .i64 0 ∧ v19 = .pointer (some ⟨z3, 0, none⟩) ∧ v20 = .int .i64 0 ∧ Hid (N0 ≤ z1 ∧ N0 ≤ z2 ∧ N0 ≤ z3 ∧ z1 ≠ z2 ∧ z1 ≠ z3 ∧ z2 ≠ z3) ∧ Hid (D wx) ∧ Hid (CapAt z1 wx B L C P T true) ∧ Hid (CapAt z2 wx B L C P T true) ∧ Hid (CapAt z3 wx B L C P T true))
        case first =>
          go_region
          all_goals go_wp2
          all_goals go_meet
          all_goals
            have hs1 : (U3.alloc (.cells #[.int .i64 B, .int .i64 L, .int .i64 C, .int .i64 P, .int .i64 T, .bool true] 23)).heap.size = N0 + 1 := by rw [← hN0]; simp
            have hs2 : ((U3.alloc (.cells #[.int .i64 B, .int .i64 L, .int .i64 C, .int .i64 P, .int .i64 T, .bool true] 23)).alloc (.cells #[.int .i64 B, .int .i64 L, .int .i64 C, .int .i64 P, .int .i64 T, .bool true] 23)).heap.size = N0 + 1 + 1 := by rw [← hN0]; simp
            have hA := CapAt.new U3 B L C P T true 23
            rw [hN0] at hA
            have hB := CapAt.new (U3.alloc (.cells #[.int .i64 B, .int .i64 L, .int .i64 C, .int .i64 P, .int .i64 T, .bool true] 23)) B L C P T true 23
            rw [hs1] at hB
            have hC := CapAt.new ((U3.alloc (.cells #[.int .i64 B, .int .i64 L, .int .i64 C, .int .i64 P, .int .i64 T, .bool true] 23)).alloc (.cells #[.int .i64 B, .int .i64 L, .int .i64 C, .int .i64 P, .int .i64 T, .bool true] 23)) B L C P T true 23
            rw [hs2] at hC
            have hA' := (hA.below (alc (alc0 _ (.cells #[.int .i64 B, .int .i64 L, .int .i64 C, .int .i64 P, .int .i64 T, .bool true] 23)) (.cells #[.int .i64 B, .int .i64 L, .int .i64 C, .int .i64 P, .int .i64 T, .bool true] 23))).below (Below.refl _ _).drew
            have hB' := (hB.below (alc0 _ (.cells #[.int .i64 B, .int .i64 L, .int .i64 C, .int .i64 P, .int .i64 T, .bool true] 23))).below (Below.refl _ _).drew
            have hC' := hC.below (Below.refl _ _).drew
            have hDD := HDb.out _ _ HD.out (alc (alc (alc0 U3 (.cells #[.int .i64 B, .int .i64 L, .int .i64 C, .int .i64 P, .int .i64 T, .bool true] 23)) (.cells #[.int .i64 B, .int .i64 L, .int .i64 C, .int .i64 P, .int .i64 T, .bool true] 23)) (.cells #[.int .i64 B, .int .i64 L, .int .i64 C, .int .i64 P, .int .i64 T, .bool true] 23)).drew
            exact ⟨_, _, _, rfl, rfl, rfl, rfl, rfl, rfl, Lib.hid (by omega), Lib.hid hDD, Lib.hid (by assumption), Lib.hid (by assumption), Lib.hid (by assumption)⟩
        case rest =>
          obtain ⟨z1, z2, z3, rfl, rfl, rfl, rfl, rfl, rfl, HZ, HD8, HA1, HA2, HA3⟩ := hcut
          clear k0 k1 k2 k3 k4 k5 kf HD
          have hz := HZ.out
          have HN1 : Hid (N0 ≤ z1) := Lib.hid hz.1
          have HN2 : Hid (N0 ≤ z2) := Lib.hid hz.2.1
          have HN3 : Hid (N0 ≤ z3) := Lib.hid hz.2.2.1
          have n12 := hz.2.2.2.1; have n13 := hz.2.2.2.2.1; have n23 := hz.2.2.2.2.2
          have H12 := Lib.hid n12; have H13 := Lib.hid n13; have H23 := Lib.hid n23
          clear hz n12 n13 n23
          go_upto_block 0 with (fail)
          go_cut [16] (fun v16 wx => v16 = .int .i64 e1 ∧ Hid (D wx) ∧ Hid (CapAt z1 wx b1 l1 c1 p1 t1 v1) ∧ Hid (CapAt z2 wx B L C P T true) ∧ Hid (CapAt z3 wx B L C P T true))
          case first =>
            obtain ⟨_, k0, k1, k2, k3, k4, k5, kf⟩ := (HDe.out _ HD8.out).1
            obtain ⟨_, a0, a1, a2, a3, a4, a5, af⟩ := HA1.out
            rcases HR1.out with ⟨h, _⟩ | ⟨_, hn, ⟨rfl, rfl, rfl, rfl, rfl, rfl⟩, rfl⟩ | ⟨_, hn, hi, ⟨rfl, rfl, rfl, rfl, rfl, rfl⟩, rfl⟩ | ⟨_, hn, hi, ⟨rfl, rfl, rfl, rfl, rfl, rfl⟩, rfl⟩
            · rw [HM.out] at h; cases h
            · go_wp2_with fail
              go_meet
              exact ⟨rfl, Lib.hid (HDs.out _ _ _ _ (HDs.out _ _ _ _ (HDs.out _ _ _ _ (HDs.out _ _ _ _ (HDs.out _ _ _ _ (HDs.out _ _ _ _ (HD8.out) HN1.out) HN1.out) HN1.out) HN1.out) HN1.out) HN1.out), Lib.hid HA1.out.zero, Lib.hid (((((((HA2.out.far (H12.out.symm)).far (H12.out.symm)).far (H12.out.symm)).far (H12.out.symm)).far (H12.out.symm)).far (H12.out.symm))), Lib.hid (((((((HA3.out.far (H13.out.symm)).far (H13.out.symm)).far (H13.out.symm)).far (H13.out.symm)).far (H13.out.symm)).far (H13.out.symm)))⟩
            all_goals
              have HI := Lib.hid hi
              have hok : capOkB B L C P T = true := by have := HM.out; simpa using this
              have HOK := Lib.hid hok
              clear hi hok
              go_wp2_with fail
              refine (rin_any _ _ _ _ _ _ _ _ HOK.out).mono ?_
              rintro e w9 ⟨rfl, hb⟩
              rw [HI.out]
              have HD9 := Lib.hid (HDb.out _ _ HD8.out hb)
              have HA1' := Lib.hid (HA1.out.below hb)
              have HA2' := Lib.hid (HA2.out.below hb)
              have HA3' := Lib.hid (HA3.out.below hb)
              clear k0 k1 k2 k3 k4 k5 kf a0 a1 a2 a3 a4 a5 af hb
              obtain ⟨_, k0, k1, k2, k3, k4, k5, kf⟩ := (HDe.out _ HD9.out).1
              obtain ⟨_, a0, a1, a2, a3, a4, a5, af⟩ := HA1'.out
              go_wp2_with fail
              go_meet
            · exact ⟨rfl, Lib.hid (HDs.out _ _ _ _ (HDs.out _ _ _ _ (HDs.out _ _ _ _ (HDs.out _ _ _ _ (HDs.out _ _ _ _ (HDs.out _ _ _ _ (HD9.out) HN1.out) HN1.out) HN1.out) HN1.out) HN1.out) HN1.out), Lib.hid HA1'.out.zero, Lib.hid (((((((HA2'.out.far (H12.out.symm)).far (H12.out.symm)).far (H12.out.symm)).far (H12.out.symm)).far (H12.out.symm)).far (H12.out.symm))), Lib.hid (((((((HA3'.out.far (H13.out.symm)).far (H13.out.symm)).far (H13.out.symm)).far (H13.out.symm)).far (H13.out.symm)).far (H13.out.symm)))⟩
            · exact ⟨rfl, Lib.hid (HDs.out _ _ _ _ (HDs.out _ _ _ _ (HD9.out) HN1.out) HN1.out), Lib.hid ((HA1'.out.s0 C).s1 n), Lib.hid (((HA2'.out.far (H12.out.symm)).far (H12.out.symm))), Lib.hid (((HA3'.out.far (H13.out.symm)).far (H13.out.symm)))⟩
          case rest =>
            obtain ⟨rfl, HDa, HA1a, HA2a, HA3a⟩ := hcut
            clear HD8 HA1 HA2 HA3
            obtain ⟨wa, rfl⟩ : ∃ wa : World, wa = wc := ⟨_, rfl⟩
            go_upto_region 14 with (fail)
            go_cut [101] (fun v101 wx => v101 = .bool (!decide (0 ≤ n ∧ n ≤ 31)) ∧ wa = wx)
            case first =>
              by_cases h1 : n < 0
              · go_wp2_with fail
                go_meet
                exact ⟨by rw [decide_eq_false (by omega)]; rfl, rfl⟩
              · by_cases h2 : 31 < n
                · go_wp2_with fail
                  go_meet
                  exact ⟨by rw [decide_eq_false (by omega)]; rfl, rfl⟩
                · go_wp2_with fail
                  go_meet
                  exact ⟨by rw [decide_eq_true (by omega)]; rfl, rfl⟩
            case rest =>
              obtain ⟨rfl, rfl⟩ := hcut
              go_upto_if 101 with (fail)
              go_cut [18] (fun v18 wx => v18 = .int .i64 e2 ∧ Hid (D wx) ∧ Hid (CapAt z1 wx b1 l1 c1 p1 t1 v1) ∧ Hid (CapAt z2 wx b2 l2 c2 p2 t2 v2) ∧ Hid (CapAt z3 wx B L C P T true))
              case first =>
                obtain ⟨_, k0, k1, k2, k3, k4, k5, kf⟩ := (HDe.out _ HDa.out).1
                obtain ⟨_, a0, a1, a2, a3, a4, a5, af⟩ := HA2a.out
                rcases HR2.out with ⟨h, _⟩ | ⟨_, hn, ⟨rfl, rfl, rfl, rfl, rfl, rfl⟩, rfl⟩ | ⟨_, hn, ⟨rfl, rfl, rfl, hp, rfl, rfl⟩, rfl⟩
                · rw [HM.out] at h; cases h
                · rw [decide_eq_false hn]
                  go_wp2_with fail
                  go_meet
                  exact ⟨rfl, Lib.hid (HDs.out _ _ _ _ (HDs.out _ _ _ _ (HDs.out _ _ _ _ (HDs.out _ _ _ _ (HDs.out _ _ _ _ (HDs.out _ _ _ _ (HDa.out) HN2.out) HN2.out) HN2.out) HN2.out) HN2.out) HN2.out), Lib.hid (((((((HA1a.out.far (H12.out)).far (H12.out)).far (H12.out)).far (H12.out)).far (H12.out)).far (H12.out))), Lib.hid HA2a.out.zero, Lib.hid (((((((HA3a.out.far (H23.out.symm)).far (H23.out.symm)).far (H23.out.symm)).far (H23.out.symm)).far (H23.out.symm)).far (H23.out.symm)))⟩
                · rw [decide_eq_true hn]
                  obtain ⟨A, hA, hA1, hA2, hA3⟩ := pless_val P n hpk hn
                  rw [← hA3] at hp
                  subst hp
                  obtain ⟨hp1, hp2⟩ := hpk
                  clear hn hA3
                  go_wp2_with fail
                  go_meet
                  exact ⟨rfl, Lib.hid (HDs.out _ _ _ _ (HDa.out) HN2.out), Lib.hid ((HA1a.out.far (H12.out))), Lib.hid (HA2a.out.s3 (P - A)), Lib.hid ((HA3a.out.far (H23.out.symm)))⟩
              case rest =>
                obtain ⟨rfl, HDd, HA1d, HA2d, HA3d⟩ := hcut
                clear HDa HA1a HA2a HA3a
                obtain ⟨wb, rfl⟩ : ∃ wb : World, wb = wc := ⟨_, rfl⟩
                go_upto_region 17 with (fail)
                go_cut [116] (fun v116 wx => v116 = .bool (!decide (-1048576 ≤ n ∧ n ≤ 1048576)) ∧ wb = wx)
                case first =>
                  by_cases h1 : n < -1048576
                  · go_wp2_with fail
                    go_meet
                    exact ⟨by rw [decide_eq_false (by omega)]; rfl, rfl⟩
                  · by_cases h2 : 1048576 < n
                    · go_wp2_with fail
                      go_meet
                      exact ⟨by rw [decide_eq_false (by omega)]; rfl, rfl⟩
                    · go_wp2_with fail
                      go_meet
                      exact ⟨by rw [decide_eq_true (by omega)]; rfl, rfl⟩
                case rest =>
                  obtain ⟨rfl, rfl⟩ := hcut
                  go_upto_if 116 with (fail)
                  go_cut [20] (fun v20 wx => v20 = .int .i64 e3 ∧ Hid (D wx) ∧ Hid (CapAt z1 wx b1 l1 c1 p1 t1 v1) ∧ Hid (CapAt z2 wx b2 l2 c2 p2 t2 v2) ∧ Hid (CapAt z3 wx b3 l3 c3 p3 t3 v3))
                  case first =>
                    obtain ⟨_, k0, k1, k2, k3, k4, k5, kf⟩ := (HDe.out _ HDd.out).1
                    obtain ⟨_, a0, a1, a2, a3, a4, a5, af⟩ := HA3d.out
                    rcases HR3.out with ⟨h, _⟩ | ⟨_, hn, ⟨rfl, rfl, rfl, rfl, rfl, rfl⟩, rfl⟩ | ⟨_, hn, ⟨rfl, rfl, rfl, rfl, rfl, rfl⟩, rfl⟩
                    · rw [HM.out] at h; cases h
                    · rw [decide_eq_false (by omega)]
                      go_wp2_with fail
                      go_meet
                      exact ⟨rfl, Lib.hid (HDs.out _ _ _ _ (HDs.out _ _ _ _ (HDs.out _ _ _ _ (HDs.out _ _ _ _ (HDs.out _ _ _ _ (HDs.out _ _ _ _ (HDd.out) HN3.out) HN3.out) HN3.out) HN3.out) HN3.out) HN3.out), Lib.hid (((((((HA1d.out.far (H13.out)).far (H13.out)).far (H13.out)).far (H13.out)).far (H13.out)).far (H13.out))), Lib.hid (((((((HA2d.out.far (H23.out)).far (H23.out)).far (H23.out)).far (H23.out)).far (H23.out)).far (H23.out))), Lib.hid HA3d.out.zero⟩
                    · rw [decide_eq_true hn]
                      obtain ⟨hn1, hn2⟩ := hn
                      go_wp2_with fail
                      go_meet
                      exact ⟨rfl, Lib.hid (HDs.out _ _ _ _ (HDd.out) HN3.out), Lib.hid ((HA1d.out.far (H13.out))), Lib.hid ((HA2d.out.far (H23.out))), Lib.hid (HA3d.out.s2 _)⟩
                  case rest =>
                    obtain ⟨rfl, HDg, HA1g, HA2g, HA3g⟩ := hcut
                    clear HDd HA1d HA2d HA3d
                    go_wp2_with fail
                    refine (c12awake_any _).mono ?_
                    rintro e w9 ⟨rfl, hb⟩
                    obtain ⟨_, hY1, hY2, hY3, hBw⟩ := HDe.out _ (HDb.out _ _ HDg.out hb)
                    have HBw := Lib.hid hBw
                    obtain ⟨_, a0, a1, a2, a3, a4, a5, _⟩ := hY1
                    obtain ⟨_, d0, d1, d2, d3, d4, d5, _⟩ := hY2
                    obtain ⟨_, f0, f1, f2, f3, f4, f5, _⟩ := hY3
                    obtain ⟨_, g0, g1, g2, g3, g4, g5, _⟩ := HA1g.out.below hb
                    obtain ⟨_, i0, i1, i2, i3, i4, i5, _⟩ := HA2g.out.below hb
                    obtain ⟨_, j0, j1, j2, j3, j4, j5, _⟩ := HA3g.out.below hb
                    clear hBw hb
                    go_wp2
                    go_ret
                    exact ⟨ret_bool (by simp), HBw.out⟩
theorem walkDeriveOne (a0_0 : Int) (a0_1 : Int) (a0_2 : Int) (a0_3 : Int) (a0_4 : Int) (a0_5 : Bool) (a1 : Int) (a2 : Int) (w : World) (w0_0 : (Lit.int .i64 a0_0).wf = true) (w0_1 : (Lit.int .i64 a0_1).wf = true) (w0_2 : (Lit.int .i64 a0_2).wf = true) (w0_3 : (Lit.int .i64 a0_3).wf = true) (w0_4 : (Lit.int .i64 a0_4).wf = true) (w1 : (Lit.int .i64 a1).wf = true) (w2 : (Lit.int .i64 a2).wf = true) :
    Calls Try.prog 3 #[.agg #[.int .i64 a0_0, .int .i64 a0_1, .int .i64 a0_2, .int .i64 a0_3, .int .i64 a0_4, .bool a0_5], .int .i64 a1, .int .i64 a2] w fun e w' => e = .returned (.bool true) ∧ Below w.heap.size w w' :=
  walkDeriveOneX _ _ _ _ _ _ _ _ w
end Go.Proofs.Ytcknbbffeeldpaa
