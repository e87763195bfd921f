/- NumG. -/
import Derived.Test.YtanmmhbnjmglhaaRows
import Derived.Test.YtanmmhbnjmglhaaZ01
import Derived.WalkKit
import Derived.ProofKit
import Derived.OpenShut
import Derived.WalkLawsBesides
import Derived.WalkSpells
import Derived.Lib.Hide
import Init.Data.Nat.Power2.Lemmas
namespace Go.Proofs.Ytanmmhbnjmglhaa
open Go.RowKit
set_option linter.unusedVariables false
def partsI (n s : Int) : Int := if n < 1 ∨ s < 1 then 0 else (n - 1) / s + 1
def upI (n s : Int) : Int := if n < 0 ∨ s < 1 then 0 else if n % s = 0 then n else if 9223372036854775807 - (s - n % s) < n then 0 else n + (s - n % s)
theorem parts_any (n s : Int) (w : World) (hn : n ≤ 9223372036854775807) (hs : s ≤ 9223372036854775807) :
    Calls Try.prog 73 #[.int .i64 n, .int .i64 s] w fun e w' => e = .returned (.int .i64 (partsI n s)) ∧ w = w' := by
  by_cases h1 : n < 1
  · go_enter Try.func73, Try.ntmps73
    go_wp2
    go_ret
    exact ⟨ret_int (by rw [partsI, if_pos (Or.inl h1)]), rfl⟩
  · by_cases h2 : s < 1
    · go_enter Try.func73, Try.ntmps73
      go_wp2
      go_ret
      exact ⟨ret_int (by rw [partsI, if_pos (Or.inr h2)]), rfl⟩
    · have h3 : 0 ≤ (n - 1) / s := Int.ediv_nonneg (by omega) (by omega)
      have h4 : (n - 1) / s ≤ n - 1 := Int.ediv_le_self _ (by omega)
      go_enter Try.func73, Try.ntmps73
      go_wp2
      go_ret
      exact ⟨ret_int (by rw [partsI, if_neg (by omega)]), rfl⟩
theorem up_any (n s : Int) (w : World) (hn : n ≤ 9223372036854775807) (hs : s ≤ 9223372036854775807) :
    Calls Try.prog 75 #[.int .i64 n, .int .i64 s] w fun e w' => e = .returned (.int .i64 (upI n s)) ∧ w = w' := by
  by_cases h1 : n < 0
  · go_enter Try.func75, Try.ntmps75
    go_wp2
    go_ret
    exact ⟨ret_int (by rw [upI, if_pos (Or.inl h1)]), rfl⟩
  · by_cases h2 : s < 1
    · go_enter Try.func75, Try.ntmps75
      go_wp2
      go_ret
      exact ⟨ret_int (by rw [upI, if_pos (Or.inr h2)]), rfl⟩
    · have h3 : 0 ≤ n % s := Int.emod_nonneg _ (by omega)
      have h4 : n % s < s := Int.emod_lt_of_pos _ (by omega)
      have hd : upI n s = if n % s = 0 then n else if 9223372036854775807 - (s - n % s) < n then 0 else n + (s - n % s) := by rw [upI, if_neg (by omega)]
      have HD := Lib.hid hd; clear hd
      by_cases h5 : n % s = 0
      · have h6 : (n % s == 0) = true := by simpa using h5
        have H5 := Lib.hid h5; clear h5
        go_enter Try.func75, Try.ntmps75
        go_wp2
        go_ret
        exact ⟨ret_int (by rw [HD.out, if_pos H5.out]), rfl⟩
      · have h6 : (n % s == 0) = false := by simpa using h5
        by_cases h7 : 9223372036854775807 - (s - n % s) < n
        · go_enter Try.func75, Try.ntmps75
          go_wp2
          go_ret
          exact ⟨ret_int (by rw [HD.out, if_neg h5, if_pos h7]), rfl⟩
        · go_enter Try.func75, Try.ntmps75
          go_wp2
          go_ret
          exact ⟨ret_int (by rw [HD.out, if_neg h5, if_neg (by omega)]), rfl⟩
def powB (n : Int) : Bool := decide (0 < n) && (n.toNat &&& (n.toNat - 1) == 0)
theorem power_any (n : Int) (w : World) (hn : n ≤ 9223372036854775807) :
    Calls Try.prog 41 #[.int .i64 n] w fun e w' => e = .returned (.bool (powB n)) ∧ w = w' := by
  by_cases h1 : 0 < n
  · obtain ⟨m, rfl⟩ := Int.eq_ofNat_of_zero_le (show 0 ≤ n by omega)
    have hb : bits .and .i64 (m : Int) ((m : Int) - 1) = ((m &&& (m - 1) : Nat) : Int) := by
      have e : ((m : Int) - 1) = ((m - 1 : Nat) : Int) := by omega
      rw [e]
      exact (bits_nat .i64 63 (by decide) (fun n h0 h1 => by rw [IntKind.wrap_i64]; omega) m (m - 1) (by omega) (by omega)).1
    go_enter Try.func41, Try.ntmps41
    go_wp2
    go_ret
    exact ⟨ret_bool (by
      have h0 : 0 < m := by omega
      rw [powB, Int.toNat_natCast]
      generalize m &&& (m - 1) = q
      by_cases hz : q = 0
      · subst hz; simp [h0]
      · have e1 : ((q : Int) == 0) = false := by simpa using hz
        have e2 : (q == 0) = false := by simpa using hz
        simp [h0, e1, e2]), rfl⟩
  · go_enter Try.func41, Try.ntmps41
    go_wp2
    go_ret
    exact ⟨ret_bool (by simp [powB]; omega), rfl⟩
end Go.Proofs.Ytanmmhbnjmglhaa
