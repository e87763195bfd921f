/- The walk of GuardNeed. -/
import Derived.Test.YtldnaddcmnghkaaGuardL
import Derived.Deep.DeepCutAuto
namespace Go.Proofs.Ytldnaddcmnghkaa
open Go.RowKit
set_option linter.unusedVariables false

theorem powB_half {b : Int} (h : 1 < b) : powB b = ((b % 2 == 0) && powB (b / 2)) := by
  obtain ⟨n, rfl⟩ := Int.eq_ofNat_of_zero_le (show 0 ≤ b by omega)
  have hn : 1 < n := by omega
  have e1 : ((n : Int) / 2).toNat = n / 2 := by omega
  have hiff : (n &&& (n - 1) = 0) ↔ (n % 2 = 0 ∧ (n / 2) &&& (n / 2 - 1) = 0) := by
    rw [Nat.and_sub_one_eq_zero_iff_isPowerOfTwo (by omega), Nat.and_sub_one_eq_zero_iff_isPowerOfTwo (by omega)]
    constructor
    · rintro ⟨k, hk⟩
      cases k with
      | zero => simp at hk; omega
      | succ k =>
        rw [Nat.pow_succ] at hk
        exact ⟨by omega, k, by omega⟩
    · rintro ⟨h0, k, hk⟩
      exact ⟨k + 1, by rw [Nat.pow_succ]; omega⟩
  unfold powB
  rw [Int.toNat_natCast, e1, Bool.eq_iff_iff]
  simp only [Bool.and_eq_true, decide_eq_true_eq, beq_iff_eq]
  constructor
  · rintro ⟨_, h2⟩
    obtain ⟨a, b⟩ := hiff.1 h2
    exact ⟨by omega, by omega, b⟩
  · rintro ⟨h1, _, h2⟩
    exact ⟨by omega, hiff.2 ⟨by omega, h2⟩⟩

theorem z_bd (x : Int) : -20 ≤ (if x / 16 % 4 = 0 then x / 64 % 1024 - 20 else wrap64 (2 ^ (x % 16).toNat)) ∧ (if x / 16 % 4 = 0 then x / 64 % 1024 - 20 else wrap64 (2 ^ (x % 16).toNat)) ≤ 32768 := by
  split
  · omega
  · have key : ∀ n : Fin 16, -20 ≤ wrap64 (2 ^ n.val) ∧ wrap64 (2 ^ n.val) ≤ 32768 := by decide +kernel
    exact key ⟨(x % 16).toNat, by omega⟩

set_option maxRecDepth 100000 in
set_option maxHeartbeats 2000000 in
theorem walkGuardNeed (a0 : Int) (a1 : Int) (w : World) (w0 : (Lit.int .i64 a0).wf = true) (w1 : (Lit.int .i64 a1).wf = true) :
    Calls Try.prog 11 #[.int .i64 a0, .int .i64 a1] w fun e w' => e = .returned (.bool true) ∧ Below w.heap.size w w' := by
  have e1 := and32767 a0
  have e2 := and15
  have e3 := and3
  have e4 := and1023
  have x0 : 0 ≤ a0 % 32768 := Int.emod_nonneg _ (by decide)
  have x1 : a0 % 32768 < 32768 := Int.emod_lt_of_pos _ (by decide)
  generalize a0 % 32768 = x at *
  obtain ⟨z0, z1⟩ := z_bd a1
  obtain ⟨z, hz⟩ : ∃ z, (if a1 / 16 % 4 = 0 then a1 / 64 % 1024 - 20 else wrap64 (2 ^ (a1 % 16).toNat)) = z := ⟨_, rfl⟩
  rw [hz] at z0 z1
  have HZ := Lib.hid hz
  clear hz
  go_enter Try.func11, Try.ntmps11
  go_upto_if 23 with (fail)
  go_cut [6] (fun v6 wx => v6 = .int .i64 z ∧ w = wx)
  case first =>
    by_cases h : a1 / 16 % 4 = 0
    · have hz : a1 / 64 % 1024 - 20 = z := by rw [← HZ.out, if_pos h]
      have HZ2 := Lib.hid hz
      clear hz
      go_wp2_with fail
      go_meet
      exact ⟨by rw [← HZ2.out], rfl⟩
    · have hz : wrap64 (2 ^ (a1 % 16).toNat) = z := by rw [← HZ.out, if_neg h]
      have HZ2 := Lib.hid hz
      clear hz
      have h2 : (a1 / 16 % 4 == 0) = false := by simpa using h
      clear h
      go_wp2_with fail
      go_meet
      exact ⟨by rw [← HZ2.out], rfl⟩
  case rest =>
    obtain ⟨rfl, rfl⟩ := hcut
    clear HZ
    obtain ⟨p0, hp0⟩ : ∃ p, decide (1 ≤ z) = p := ⟨_, rfl⟩
    have hpi : p0 = true → 1 ≤ z := by rw [← hp0]; simp
    have hpw : powB z = (p0 && powB z) := by
      rw [← hp0]
      by_cases h : 1 ≤ z
      · simp [h]
      · have : powB z = false := by simp [powB]; omega
        simp [this]
    have HPI := Lib.hid hpi
    have HPW := Lib.hid hpw
    clear hpi hpw
    obtain ⟨P, hP⟩ : ∃ P, powB z = P := ⟨_, rfl⟩
    rw [hP] at HPW
    have HP := Lib.hid hP
    clear hP
    go_wp2_with fail
    go_loop [7, 8] (fun v7 v8 => ∃ (p : Bool) (b : Int), v7 = .bool p ∧ v8 = .int .i64 b ∧ -20 ≤ b ∧ b ≤ 32768 ∧ Hid (p = true → 1 ≤ b) ∧ Hid (P = (p && powB b))) (fun _ b => (intOf b).toNat)
    case atStart => exact ⟨p0, z, rfl, rfl, by omega, by omega, HPI, Lib.hid (by rw [HP.out]; exact HPW.out)⟩
    case round =>
      obtain ⟨p, b, rfl, rfl, b0, b1, HB, HQ⟩ := hrel
      by_cases hb : 1 < b
      · cases p
        · have hPf : P = false := HQ.out
          have hm2 : malB z = false := by rw [malB, HP.out, hPf]; rfl
          have HM := Lib.hid hm2
          clear hPf hm2 HQ HB
          by_cases hx : x < 1
          all_goals
            go_wp2_with (first | (go_at_call 41; refine (need_in _ _ _ (by omega) (.inr HM.out)).mono ?_; rintro e w' ⟨rfl, rfl⟩) | (go_at_call 42; refine (g29awake_any _).mono ?_; rintro e w9 ⟨rfl, hb9⟩))
            all_goals
              go_ret
              exact ⟨ret_bool (by simp), hb9⟩
        · have hq : P = ((b % 2 == 0) && powB (b / 2)) := by rw [HQ.out, powB_half hb]; rfl
          have HQ2 := Lib.hid hq
          clear hq
          go_wp2_with fail
          go_round
          case rel => exact ⟨_, _, rfl, rfl, by omega, by omega, Lib.hid (fun _ => by omega), HQ2⟩
          case measure => simp [intOf]; omega
      · have hPp : P = p := by
          have h1 := HQ.out
          have h2 := HB.out
          cases p
          · exact h1
          · have : b = 1 := by have := h2 rfl; omega
            rw [h1, this]; decide
        subst hPp
        by_cases hx : x < 1
        · go_wp2_with (first | (go_at_call 41; refine (need_in _ _ _ (by omega) (.inl hx)).mono ?_; rintro e w' ⟨rfl, rfl⟩) | (go_at_call 42; refine (g29awake_any _).mono ?_; rintro e w9 ⟨rfl, hb9⟩))
          all_goals
            go_ret
            exact ⟨ret_bool (by simp), hb9⟩
        · by_cases hm : malB z = true
          · have HM := Lib.hid hm
            have hP1 : P = true := by
              rw [← HP.out]
              simp only [malB, Bool.and_eq_true] at hm
              exact hm.1
            have hl := pow_list hm
            have z2 : 1 ≤ z ∧ z ≤ 256 := by omega
            clear hl hm
            obtain ⟨z3, z4⟩ := z2
            clear HQ HB
            subst hP1
            by_cases hx2 : x ≤ 16384
            · have hk := needI_bd (n := x) HM.out (by omega) hx2
              have HN := Lib.hid (fun w => need_yes x z w HM.out (by omega) hx2)
              generalize needI x z = k at *
              obtain ⟨k1, k2, k3, k4⟩ := hk
              go_wp2_with fail
              refine (HN.out _).mono ?_
              rintro e w' ⟨rfl, rfl⟩
              go_wp2_with (first | (go_at_call 41; refine (need_in _ _ _ (by omega) (.inl (by omega))).mono ?_; rintro e w' ⟨rfl, rfl⟩) | (go_at_call 42; refine (g29awake_any _).mono ?_; rintro e w9 ⟨rfl, hb9⟩))
              all_goals
                go_ret
                exact ⟨ret_bool (by simp <;> omega), hb9⟩
            · go_wp2_with (first | (go_at_call 41; refine (need_big _ _ _ (by omega) HM.out (by omega)).mono ?_; rintro e w' ⟨rfl, rfl⟩) | (go_at_call 42; refine (g29awake_any _).mono ?_; rintro e w9 ⟨rfl, hb9⟩))
              all_goals
                go_ret
                exact ⟨ret_bool (by simp), hb9⟩
          · have hm2 : malB z = false := by simpa using hm
            have HM := Lib.hid hm2
            clear hm hm2
            have hz : P = false ∨ (P = true ∧ 256 < z) := by
              have := HM.out
              rw [malB, HP.out] at this
              cases P
              · exact .inl rfl
              · simp at this; exact .inr ⟨rfl, this⟩
            clear HQ HB
            rcases hz with rfl | ⟨rfl, hz⟩
            all_goals
              go_wp2_with (first | (go_at_call 41; refine (need_in _ _ _ (by omega) (.inr HM.out)).mono ?_; rintro e w' ⟨rfl, rfl⟩) | (go_at_call 42; refine (g29awake_any _).mono ?_; rintro e w9 ⟨rfl, hb9⟩))
              all_goals
                go_ret
                exact ⟨ret_bool (by simp), hb9⟩
end Go.Proofs.Ytldnaddcmnghkaa
