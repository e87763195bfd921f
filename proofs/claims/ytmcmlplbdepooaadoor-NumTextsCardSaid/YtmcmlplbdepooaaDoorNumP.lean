/- The walk of NumPowers. -/
import Derived.Test.YtmcmlplbdepooaaDoorNumD
namespace Go.Proofs.YtmcmlplbdepooaaDoor
open Go.RowKit
set_option linter.unusedVariables false

theorem i64_bd {n : Int} (h : (Lit.int .i64 n).wf = true) : -9223372036854775808 ≤ n ∧ n ≤ 9223372036854775807 := by
  have h' : (decide (IntKind.i64.min ≤ n) && decide (n ≤ IntKind.i64.max)) = true := h
  rw [Bool.and_eq_true] at h'
  exact ⟨of_decide_eq_true h'.1, of_decide_eq_true h'.2⟩

theorem pow_log (n : Nat) (k : Nat) (hk : k ≤ 62) (h1 : 2 ^ k ≤ n) (h2 : n < 2 ^ k * 2) : Lib.bitLen n = k + 1 := by
  have h3 : 2 ^ k ≤ 2 ^ 62 := Nat.pow_le_pow_right (by decide) hk
  rw [Lib.bitLen_shift k n h1 (by omega)]
  have : n / 2 ^ k = 1 := by
    apply Nat.div_eq_of_lt_le
    · omega
    · omega
  rw [this]
  rfl

theorem pow_and (n : Nat) (k : Nat) (h1 : 2 ^ k ≤ n) (h2 : n < 2 ^ k * 2) : (n &&& (n - 1) = 0) ↔ 2 ^ k = n := by
  have hp : 0 < 2 ^ k := Nat.two_pow_pos k
  rw [Nat.and_sub_one_eq_zero_iff_isPowerOfTwo (by omega)]
  constructor
  · rintro ⟨j, rfl⟩
    have a1 : k ≤ j := (Nat.pow_le_pow_iff_right (by decide)).1 h1
    have a2 : 2 ^ j < 2 ^ (k + 1) := by rw [Nat.pow_succ]; exact h2
    have a3 : j < k + 1 := (Nat.pow_lt_pow_iff_right (by decide)).1 a2
    have : j = k := by omega
    rw [this]
  · intro h; exact ⟨k, h.symm⟩

theorem pow_ends (n : Int) (k : Nat) (hk : k ≤ 62) (h1 : (2 : Int) ^ k ≤ n) (h2 : n < 2 ^ k * 2) : logI n = k ∧ powB n = ((2 : Int) ^ k == n) := by
  have hp : (0 : Int) < 2 ^ k := Int.pow_pos (by decide)
  obtain ⟨m, rfl⟩ := Int.eq_ofNat_of_zero_le (show 0 ≤ n by omega)
  have c : ((2 ^ k : Nat) : Int) = (2 : Int) ^ k := by simp
  rw [← c] at h1 h2
  have g1 : 2 ^ k ≤ m := by exact_mod_cast h1
  have g2 : m < 2 ^ k * 2 := by exact_mod_cast h2
  have g0 : 0 < 2 ^ k := Nat.two_pow_pos k
  refine ⟨?_, ?_⟩
  · rw [logI, if_neg (by omega), Int.toNat_natCast, pow_log m k hk g1 g2]; omega
  · rw [powB, Int.toNat_natCast, ← c]
    have := pow_and m k g1 g2
    by_cases h : 2 ^ k = m
    · have e := this.2 h
      have e1 : (((2 ^ k : Nat) : Int) == (m : Int)) = true := by simp [h]
      rw [e1, e]
      simp; omega
    · have e : ¬ (m &&& (m - 1) = 0) := fun h' => h (this.1 h')
      have e1 : (((2 ^ k : Nat) : Int) == (m : Int)) = false := by
        rw [beq_eq_false_iff_ne]; intro h'; exact h (by exact_mod_cast h')
      have e2 : (m &&& (m - 1) == 0) = false := by simpa using e
      rw [e1, e2]; simp

set_option maxHeartbeats 800000 in
theorem walkNumPowers (a0 : Int) (w : World) (w0 : (Lit.int .i64 a0).wf = true) (ht : PowTab w) :
    Calls Tryd.prog 4 #[.int .i64 a0] w fun e w' => e = .returned (.bool true) ∧ Below w.heap.size w w' := by
  have T := Lib.hid ht; clear ht
  have b0 : -9223372036854775808 ≤ a0 ∧ a0 ≤ 9223372036854775807 := i64_bd w0
  by_cases h1 : a0 < 1
  · have hl : logI a0 = 0 := by rw [logI, if_pos h1]
    have hp : powB a0 = false := by rw [powB]; simp; omega
    go_enter Tryd.func4, Tryd.ntmps4
    go_wp2_with fail
    go_loop [3, 4] (fun i p => i = .int .i64 0 ∧ p = .int .i64 1) (fun _ _ => 0)
    case atStart => exact ⟨rfl, rfl⟩
    case round =>
      obtain ⟨rfl, rfl⟩ := hrel
      go_wp2_with first
        | (go_at_call 14; refine (log_any _ _ (by omega)).mono ?_; rintro e w' ⟨rfl, rfl⟩)
        | (go_at_call 15; refine (power_any _ _ (by omega)).mono ?_; rintro e w' ⟨rfl, rfl⟩)
        | (go_at_call 13; refine (awake_any _ T.out).mono ?_; rintro e w1 ⟨rfl, B1⟩)
      go_ret
      exact ⟨rfl, B1⟩
  · go_enter Tryd.func4, Tryd.ntmps4
    go_wp2_with fail
    go_loop [3, 4] (fun i p => ∃ k : Nat, k ≤ 62 ∧ i = .int .i64 k ∧ p = .int .i64 (2 ^ k) ∧ (2 : Int) ^ k ≤ a0) (fun i _ => 62 - (intOf i).toNat)
    case atStart => exact ⟨0, by omega, rfl, rfl, by simp; omega⟩
    case round =>
      obtain ⟨k, hk, rfl, rfl, hle⟩ := hrel
      have pe : (2 : Int) ^ (k + 1) = 2 ^ k * 2 := Int.pow_succ 2 k
      have pos : (0 : Int) < 2 ^ k := Int.pow_pos (by decide)
      have ends : a0 < 2 ^ k * 2 → logI a0 = k ∧ powB a0 = ((2 : Int) ^ k == a0) := pow_ends a0 k hk hle
      have top : k = 62 → a0 < 2 ^ k * 2 := by rintro rfl; simp; omega
      have PE := Lib.hid pe; clear pe
      have EN := Lib.hid ends; clear ends
      generalize (2 : Int) ^ k = P at *
      by_cases hlt : k < 62 ∧ P ≤ a0 / 2
      · obtain ⟨c1, c2⟩ := hlt
        have c3 : P * 2 ≤ a0 := by omega
        go_wp2
        exact ⟨⟨k + 1, by omega, by go_num, by rw [PE.out], by rw [PE.out]; exact c3⟩, by simp [intOf]; omega⟩
      · have c3 : a0 < P * 2 := by
          by_cases hk2 : k < 62
          · have : ¬ P ≤ a0 / 2 := fun h => hlt ⟨hk2, h⟩
            omega
          · exact top (by omega)
        obtain ⟨el, ep⟩ := EN.out c3
        clear EN top
        by_cases hk2 : k < 62
        all_goals
          go_wp2_with first
            | (go_at_call 14; refine (log_any _ _ (by omega)).mono ?_; rintro e w' ⟨rfl, rfl⟩)
            | (go_at_call 15; refine (power_any _ _ (by omega)).mono ?_; rintro e w' ⟨rfl, rfl⟩)
            | (go_at_call 13; refine (awake_any _ T.out).mono ?_; rintro e w1 ⟨rfl, B1⟩)
          go_ret
          exact ⟨rfl, B1⟩
end Go.Proofs.YtmcmlplbdepooaaDoor
