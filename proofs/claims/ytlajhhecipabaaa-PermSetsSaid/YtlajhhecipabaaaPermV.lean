/- The walk of PermSets. -/
import Derived.Test.YtlajhhecipabaaaPermA
import Derived.Deep.DeepCutAuto
namespace Go.Proofs.Ytlajhhecipabaaa
open Go.RowKit
set_option linter.unusedVariables false

theorem pow_le_16 {k : Nat} (h : k < 5) : (2 : Int) ^ k ≤ 16 := by
  have : k = 0 ∨ k = 1 ∨ k = 2 ∨ k = 3 ∨ k = 4 := by omega
  rcases this with rfl | rfl | rfl | rfl | rfl <;> decide

set_option maxRecDepth 100000 in
set_option maxHeartbeats 4000000 in
theorem walkPermSets (a0 : Int) (a1 : Int) (w : World) (w0 : (Lit.int .i64 a0).wf = true) (w1 : (Lit.int .i64 a1).wf = true) :
    Calls Try.prog 3 #[.int .i64 a0, .int .i64 a1] w fun e w' => e = .returned (.bool true) ∧ Below w.heap.size w w' := by
  have ea0 := and63 a0
  have eb0 := and63 a1
  have ec := and255 a1
  have c0 : 0 ≤ a1 % 256 := Int.emod_nonneg _ (by decide)
  have c1 : a1 % 256 < 256 := Int.emod_lt_of_pos _ (by decide)
  have eo := Lib.hid (or64 a0)
  obtain ⟨a, ha⟩ : ∃ a, a0 % 64 - 8 = a := ⟨_, rfl⟩
  obtain ⟨b, hb⟩ : ∃ b, a1 % 64 - 8 = b := ⟨_, rfl⟩
  have a0b : -8 ≤ a ∧ a ≤ 55 := by omega
  have b0b : -8 ≤ b ∧ b ≤ 55 := by omega
  obtain ⟨A, rfl⟩ : ∃ A, A - 8 = a := ⟨a + 8, by omega⟩
  obtain ⟨B, rfl⟩ : ∃ B, B - 8 = b := ⟨b + 8, by omega⟩
  have ea : bits .and .i64 a0 63 = A := by rw [ea0]; omega
  have eb : bits .and .i64 a1 63 = B := by rw [eb0]; omega
  clear ha hb ea0 eb0
  have HE := Lib.hid (psR_end (A - 8) (B - 8) a0b b0b)
  obtain ⟨hA1, hA2⟩ := a0b
  obtain ⟨hB1, hB2⟩ := b0b
  have HM := fun r => pmay_is r (A - 8)
  have h0 : psR (pmayB (A - 8) && pmayB (B - 8)) (pmayB (A - 8)) (max (A - 8) 0) (max (B - 8) 0) 0 = (pmayB (A - 8) && pmayB (B - 8), 0, 0, 0, max (A - 8) 0, max (B - 8) 0, 1) := rfl
  have hs := fun k h a l n x y b (e : psR (pmayB (A - 8) && pmayB (B - 8)) (pmayB (A - 8)) (max (A - 8) 0) (max (B - 8) 0) k = (h, a, l, n, x, y, b)) => psR_next e
  have h5 := HE.out
  generalize psR (pmayB (A - 8) && pmayB (B - 8)) (pmayB (A - 8)) (max (A - 8) 0) (max (B - 8) 0) = F at h0 hs h5
  have H0 := Lib.hid h0
  have HS := Lib.hid hs
  have H5 := Lib.hid h5
  clear h0 hs h5 HE
  obtain ⟨M, hM⟩ : ∃ M, pmayB (A - 8) = M := ⟨_, rfl⟩
  obtain ⟨N, hN⟩ : ∃ N, pmayB (B - 8) = N := ⟨_, rfl⟩
  rw [hM, hN] at H0 HS
  obtain ⟨T, hT⟩ : ∃ T, (M && N) = T := ⟨_, rfl⟩
  rw [hT] at H0 HS
  have HT := Lib.hid hT
  clear hT
  have HMM := Lib.hid hM
  have HNN := Lib.hid hN
  clear hM hN
  obtain ⟨X, hX⟩ : ∃ X, max (A - 8) 0 = X := ⟨_, rfl⟩
  obtain ⟨Y, hY⟩ : ∃ Y, max (B - 8) 0 = Y := ⟨_, rfl⟩
  rw [hX, hY] at H0
  have X0 : 0 ≤ X ∧ X ≤ 63 := by omega
  have Y0 : 0 ≤ Y ∧ Y ≤ 63 := by omega
  have HX := Lib.hid hX
  have HY := Lib.hid hY
  clear hX hY
  go_enter Try.func3, Try.ntmps3
  go_upto_region 2 with (fail)
  go_cut [7, 8] (fun v7 v8 wx => v7 = .bool M ∧ v8 = .bool T ∧ w = wx)
  case first =>
    by_cases p1 : 0 ≤ A - 8
    all_goals
      by_cases p2 : A - 8 ≤ 31
      all_goals
        by_cases q1 : 0 ≤ B - 8
        all_goals
          by_cases q2 : B - 8 ≤ 31
          all_goals first | (exfalso; omega) | skip
          all_goals
            first
              | (have hM : M = true := by rw [← HMM.out]; exact pmay_yes ⟨by omega, by omega⟩)
              | (have hM : M = false := by rw [← HMM.out]; exact pmay_no (by omega))
            first
              | (have hN : N = true := by rw [← HNN.out]; exact pmay_yes ⟨by omega, by omega⟩)
              | (have hN : N = false := by rw [← HNN.out]; exact pmay_no (by omega))
            have HM2 := Lib.hid hM
            have HN2 := Lib.hid hN
            clear hM hN
            go_wp2_with fail
            go_meet
            exact ⟨by rw [HM2.out], by rw [← HT.out, HM2.out, HN2.out]; rfl, rfl⟩
  case rest =>
    obtain ⟨rfl, rfl, rfl⟩ := hcut
    go_upto_region 3 with (fail)
    go_cut [9, 10, 11, 12, 13, 14, 15] (fun v9 v10 v11 v12 v13 v14 v15 wx => v9 = .bool T ∧ v10 = .int .i64 0 ∧ v11 = .int .i64 0 ∧ v12 = .int .i64 0 ∧ v13 = .int .i64 X ∧ v14 = .int .i64 Y ∧ v15 = .int .i64 1 ∧ w = wx)
    case first =>
      go_wp2_with fail
      all_goals
        go_meet
        have := HX.out
        have := HY.out
        exact ⟨rfl, rfl, rfl, rfl, congrArg (Value.int .i64) (by omega), congrArg (Value.int .i64) (by omega), rfl, rfl⟩
    case rest =>
      obtain ⟨rfl, rfl, rfl, rfl, rfl, rfl, rfl, rfl⟩ := hcut
      go_wp2_with fail
      go_loop [9, 10, 11, 12, 13, 14, 15, 16] (fun v9 v10 v11 v12 v13 v14 v15 v16 => ∃ (k : Nat) (h : Bool) (a l n x y b : Int), k ≤ 5 ∧ v16 = .int .i64 k ∧ v9 = .bool h ∧ v10 = .int .i64 a ∧ v11 = .int .i64 l ∧ v12 = .int .i64 n ∧ v13 = .int .i64 x ∧ v14 = .int .i64 y ∧ v15 = .int .i64 b ∧ Hid (F k = (h, a, l, n, x, y, b)) ∧ Hid (b = 2 ^ k) ∧ 0 ≤ x ∧ x ≤ 63 ∧ 0 ≤ y ∧ y ≤ 63 ∧ 0 ≤ a ∧ a < b ∧ 0 ≤ l ∧ l < b ∧ 0 ≤ n ∧ n ≤ k) (fun _ _ _ _ _ _ _ i => 5 - (intOf i).toNat)
      case atStart => exact ⟨0, _, _, _, _, _, _, _, by omega, rfl, rfl, rfl, rfl, rfl, rfl, rfl, rfl, H0, Lib.hid (by decide), by omega, by omega, by omega, by omega, by omega, by omega, by omega, by omega, by omega, by omega⟩
      case round =>
        obtain ⟨k, h, a, l, n, x, y, b, hk, rfl, rfl, rfl, rfl, rfl, rfl, rfl, rfl, HP, HB, x0, x1, y0, y1, a0', a1', l0, l1, n0, n1⟩ := hrel
        by_cases hlt : k < 5
        · have hn := HS.out k h a l n x y b HP.out
          have b1 : b ≤ 16 := by have := pow_le_16 hlt; have := HB.out; omega
          have HB2 : Hid (b * 2 = 2 ^ (k + 1)) := Lib.hid (by rw [HB.out]; exact (Int.pow_succ 2 k).symm)
          have HKeep := HP
          clear HP HB
          obtain ⟨s, hs1⟩ : ∃ s, (x % 2 == 1) = s := ⟨_, rfl⟩
          obtain ⟨t, ht1⟩ : ∃ t, (y % 2 == 1) = t := ⟨_, rfl⟩
          rw [hs1, ht1] at hn
          have HN := Lib.hid hn; clear hn
          go_upto_region 8 with (fail)
          go_cut [9] from 50 to 100 (fun v9 wx => ∃ z, v9 = .bool z ∧ Hid (z = (h && (s || !t))) ∧ w = wx)
          case first =>
            cases h <;> cases s <;> cases t
            all_goals (go_wp2_with fail; go_meet; exact ⟨_, rfl, Lib.hid rfl, rfl⟩)
          case rest =>
            obtain ⟨h2, rfl, Hd_h2, rfl⟩ := hcut
            go_upto_region 9 with (fail)
            go_cut [74] from 50 to 100 (fun v74 wx => ∃ z, v74 = .bool z ∧ Hid (z = (T && s && t)) ∧ w = wx)
            case first =>
              cases T <;> cases s <;> cases t
              all_goals (go_wp2_with fail; go_meet; exact ⟨_, rfl, Lib.hid rfl, rfl⟩)
            case rest =>
              obtain ⟨c1, rfl, Hd_c1, rfl⟩ := hcut
              go_upto_if 74 with (fail)
              go_cut [10] from 50 to 100 (fun v10 wx => ∃ z, v10 = .int .i64 z ∧ Hid (z = (if c1 then a + b else a)) ∧ w = wx)
              case first =>
                cases c1
                all_goals (go_wp2_with fail; go_meet; exact ⟨_, rfl, Lib.hid rfl, rfl⟩)
              case rest =>
                obtain ⟨a2, rfl, Hd_a2, rfl⟩ := hcut
                go_upto_region 11 with (fail)
                go_cut [85] from 50 to 100 (fun v85 wx => ∃ z, v85 = .bool z ∧ Hid (z = (T && s && !t)) ∧ w = wx)
                case first =>
                  cases T <;> cases s <;> cases t
                  all_goals (go_wp2_with fail; go_meet; exact ⟨_, rfl, Lib.hid rfl, rfl⟩)
                case rest =>
                  obtain ⟨c2, rfl, Hd_c2, rfl⟩ := hcut
                  go_upto_if 85 with (fail)
                  go_cut [11] from 50 to 100 (fun v11 wx => ∃ z, v11 = .int .i64 z ∧ Hid (z = (if c2 then l + b else l)) ∧ w = wx)
                  case first =>
                    cases c2
                    all_goals (go_wp2_with fail; go_meet; exact ⟨_, rfl, Lib.hid rfl, rfl⟩)
                  case rest =>
                    obtain ⟨l2, rfl, Hd_l2, rfl⟩ := hcut
                    go_upto_region 13 with (fail)
                    go_cut [92] from 50 to 100 (fun v92 wx => ∃ z, v92 = .bool z ∧ Hid (z = (M && s)) ∧ w = wx)
                    case first =>
                      cases M <;> cases s
                      all_goals (go_wp2_with fail; go_meet; exact ⟨_, rfl, Lib.hid rfl, rfl⟩)
                    case rest =>
                      obtain ⟨c3, rfl, Hd_c3, rfl⟩ := hcut
                      go_upto_if 92 with (fail)
                      go_cut [12] from 50 to 100 (fun v12 wx => ∃ z, v12 = .int .i64 z ∧ Hid (z = (if c3 then n + 1 else n)) ∧ w = wx)
                      case first =>
                        cases c3
                        all_goals (go_wp2_with fail; go_meet; exact ⟨_, rfl, Lib.hid rfl, rfl⟩)
                      case rest =>
                        obtain ⟨n2, rfl, Hd_n2, rfl⟩ := hcut
                        have A1 : 0 ≤ a2 ∧ a2 < b * 2 := by rw [Hd_a2.out]; split <;> omega
                        have A2 : 0 ≤ l2 ∧ l2 < b * 2 := by rw [Hd_l2.out]; split <;> omega
                        have A3 : 0 ≤ n2 ∧ n2 ≤ (k : Int) + 1 := by rw [Hd_n2.out]; split <;> omega
                        have HN2 : Hid (F (k + 1) = (h2, a2, l2, n2, x / 2, y / 2, b * 2)) := Lib.hid (by rw [HN.out, Hd_h2.out, Hd_a2.out, Hd_l2.out, Hd_n2.out, Hd_c1.out, Hd_c2.out, Hd_c3.out])
                        obtain ⟨A11, A12⟩ := A1
                        obtain ⟨A21, A22⟩ := A2
                        obtain ⟨A31, A32⟩ := A3
                        go_wp2_with fail
                        go_round
                        case rel => exact ⟨k + 1, _, _, _, _, _, _, _, by omega, by go_num, rfl, rfl, rfl, rfl, rfl, rfl, rfl, HN2, HB2, by omega, by omega, by omega, by omega, by omega, by omega, by omega, by omega, by omega, by omega⟩
                        case measure => simp [intOf]; omega
        · obtain rfl : k = 5 := by omega
          have e5 := H5.out
          rw [HP.out] at e5
          obtain ⟨rfl, rfl, rfl, rfl⟩ := e5
          go_wp2_with (first | (go_at_call 15; refine (p9awake_any _).mono ?_; rintro e w9 ⟨rfl, hb⟩) | (go_at_call 17; refine (phas_any _ _ _).mono ?_; rintro e w' ⟨rfl, rfl⟩) | (go_at_call 18; refine (pand_any _ _ _).mono ?_; rintro e w' ⟨rfl, rfl⟩) | (go_at_call 19; refine (pless_any _ _ _).mono ?_; rintro e w' ⟨rfl, rfl⟩) | (go_at_call 20; refine (pcount_any _ _).mono ?_; rintro e w' ⟨rfl, rfl⟩) | (go_at_call 16; first | (refine (pmay_is _ _ _ HMM.out).mono ?_; rintro e w' ⟨rfl, rfl⟩) | (refine (pmay_is _ _ _ eo.out).mono ?_; rintro e w' ⟨rfl, rfl⟩) | (refine (pmay_is false _ _ (pmay_no (by omega))).mono ?_; rintro e w' ⟨rfl, rfl⟩)))
          go_ret
          exact ⟨ret_bool (by simp), hb⟩
end Go.Proofs.Ytlajhhecipabaaa
