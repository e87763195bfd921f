/- Contracts of package num. -/
import Derived.Test.YtmcmlplbdepooaaDoorRows
import Derived.Test.YtmcmlplbdepooaaDoorInt
import Derived.Test.YtmcmlplbdepooaaDoorShelf
import Derived.WalkKit
import Derived.ProofKit
import Derived.OpenShut
import Derived.WalkLawsBesides
import Derived.WalkSpells
import Derived.Lib.Hide
import Init.Data.Nat.Power2.Lemmas
namespace Go.Proofs.YtmcmlplbdepooaaDoor
open Go.RowKit
set_option linter.unusedVariables false

def downI (n s : Int) : Int := if n < 0 ∨ s < 1 then 0 else n - n % s
def partsI (n s : Int) : Int := if n < 1 ∨ s < 1 then 0 else (n - 1) / s + 1
def upI (n s : Int) : Int := if n < 0 ∨ s < 1 then 0 else if n % s = 0 then n else if 9223372036854775807 - (s - n % s) < n then 0 else n + (s - n % s)

theorem down_any (n s : Int) (w : World) (hn : n ≤ 9223372036854775807) (hs : s ≤ 9223372036854775807) :
    Calls Tryd.prog 10 #[.int .i64 n, .int .i64 s] w fun e w' => e = .returned (.int .i64 (downI n s)) ∧ w = w' := by
  by_cases h1 : n < 0
  · go_enter Tryd.func10, Tryd.ntmps10
    go_wp2
    go_ret
    exact ⟨ret_int (by rw [downI, if_pos (Or.inl h1)]), rfl⟩
  · by_cases h2 : s < 1
    · go_enter Tryd.func10, Tryd.ntmps10
      go_wp2
      go_ret
      exact ⟨ret_int (by rw [downI, if_pos (Or.inr h2)]), rfl⟩
    · have h3 : 0 ≤ n % s := Int.emod_nonneg _ (by omega)
      have h4 : n % s < s := Int.emod_lt_of_pos _ (by omega)
      go_enter Tryd.func10, Tryd.ntmps10
      go_wp2
      go_ret
      exact ⟨ret_int (by rw [downI, if_neg (by omega)]), rfl⟩

theorem parts_any (n s : Int) (w : World) (hn : n ≤ 9223372036854775807) (hs : s ≤ 9223372036854775807) :
    Calls Tryd.prog 12 #[.int .i64 n, .int .i64 s] w fun e w' => e = .returned (.int .i64 (partsI n s)) ∧ w = w' := by
  by_cases h1 : n < 1
  · go_enter Tryd.func12, Tryd.ntmps12
    go_wp2
    go_ret
    exact ⟨ret_int (by rw [partsI, if_pos (Or.inl h1)]), rfl⟩
  · by_cases h2 : s < 1
    · go_enter Tryd.func12, Tryd.ntmps12
      go_wp2
      go_ret
      exact ⟨ret_int (by rw [partsI, if_pos (Or.inr h2)]), rfl⟩
    · have h3 : 0 ≤ (n - 1) / s := Int.ediv_nonneg (by omega) (by omega)
      have h4 : (n - 1) / s ≤ n - 1 := Int.ediv_le_self _ (by omega)
      go_enter Tryd.func12, Tryd.ntmps12
      go_wp2
      go_ret
      exact ⟨ret_int (by rw [partsI, if_neg (by omega)]), rfl⟩

theorem up_any (n s : Int) (w : World) (hn : n ≤ 9223372036854775807) (hs : s ≤ 9223372036854775807) :
    Calls Tryd.prog 11 #[.int .i64 n, .int .i64 s] w fun e w' => e = .returned (.int .i64 (upI n s)) ∧ w = w' := by
  by_cases h1 : n < 0
  · go_enter Tryd.func11, Tryd.ntmps11
    go_wp2
    go_ret
    exact ⟨ret_int (by rw [upI, if_pos (Or.inl h1)]), rfl⟩
  · by_cases h2 : s < 1
    · go_enter Tryd.func11, Tryd.ntmps11
      go_wp2
      go_ret
      exact ⟨ret_int (by rw [upI, if_pos (Or.inr h2)]), rfl⟩
    · have h3 : 0 ≤ n % s := Int.emod_nonneg _ (by omega)
      have h4 : n % s < s := Int.emod_lt_of_pos _ (by omega)
      have hd : upI n s = if n % s = 0 then n else if 9223372036854775807 - (s - n % s) < n then 0 else n + (s - n % s) := by rw [upI, if_neg (by omega)]
      have HD := Lib.hid hd; clear hd
      by_cases h5 : n % s = 0
      · have h6 : (n % s == 0) = true := by simpa using h5
        have H5 := Lib.hid h5; clear h5
        go_enter Tryd.func11, Tryd.ntmps11
        go_wp2
        go_ret
        exact ⟨ret_int (by rw [HD.out, if_pos H5.out]), rfl⟩
      · have h6 : (n % s == 0) = false := by simpa using h5
        by_cases h7 : 9223372036854775807 - (s - n % s) < n
        · go_enter Tryd.func11, Tryd.ntmps11
          go_wp2
          go_ret
          exact ⟨ret_int (by rw [HD.out, if_neg h5, if_pos h7]), rfl⟩
        · go_enter Tryd.func11, Tryd.ntmps11
          go_wp2
          go_ret
          exact ⟨ret_int (by rw [HD.out, if_neg h5, if_neg (by omega)]), rfl⟩

def clipI (n a b : Int) : Int := if (if n > b then b else n) < a then a else (if n > b then b else n)
theorem clip_any (n a b : Int) (w : World) :
    Calls Tryd.prog 16 #[.int .i64 n, .int .i64 a, .int .i64 b] w fun e w' => e = .returned (.int .i64 (clipI n a b)) ∧ w = w' := by
  by_cases h1 : b < n
  · by_cases h2 : b < a
    all_goals
      go_enter Tryd.func16, Tryd.ntmps16
      go_wp2
      go_ret
      exact ⟨ret_int (by unfold clipI; (try split) <;> (try split) <;> first | rfl | omega), rfl⟩
  · by_cases h2 : n < a
    all_goals
      go_enter Tryd.func16, Tryd.ntmps16
      go_wp2
      go_ret
      exact ⟨ret_int (by unfold clipI; (try split) <;> (try split) <;> first | rfl | omega), rfl⟩

theorem bitLenAux_le : ∀ f x : Nat, Lib.bitLenAux f x ≤ f
  | 0, _ => Nat.le_refl _
  | f + 1, x => by
    rw [Lib.bitLenAux]
    split
    · omega
    · have := bitLenAux_le f (x / 2); omega
theorem bitLen_le64 (x : Nat) : Lib.bitLen x ≤ 64 := bitLenAux_le 64 x
def logI (n : Int) : Int := if n < 1 then 0 else (Lib.bitLen n.toNat : Int) - 1
theorem len64 (x : Int) (w : World) (h0 : 0 ≤ x) (h1 : x ≤ 18446744073709551615) :
    Calls Tryd.prog 35 #[.int .u64 x] w fun e w' => e = .returned (.int .i64 (Lib.bitLen x.toNat)) ∧ w = w' :=
  (Tryd.bits_Len64 x w h0 h1).mono fun _ _ ⟨a, b⟩ => ⟨a, b.symm⟩
theorem log_any (n : Int) (w : World) (hn : n ≤ 9223372036854775807) :
    Calls Tryd.prog 14 #[.int .i64 n] w fun e w' => e = .returned (.int .i64 (logI n)) ∧ w = w' := by
  by_cases h1 : n < 1
  · go_enter Tryd.func14, Tryd.ntmps14
    go_wp2
    go_ret
    exact ⟨ret_int (by rw [logI, if_pos h1]), rfl⟩
  · have hb : Lib.bitLen n.toNat ≤ 64 := bitLen_le64 _
    go_enter Tryd.func14, Tryd.ntmps14
    go_wp2_with (go_at_call 35; refine (len64 _ _ (by omega) (by omega)).mono ?_; rintro e w' ⟨rfl, rfl⟩)
    go_ret
    exact ⟨ret_int (by rw [logI, if_neg (show ¬ n < 1 by omega)]), rfl⟩

def powB (n : Int) : Bool := decide (0 < n) && (n.toNat &&& (n.toNat - 1) == 0)
theorem power_any (n : Int) (w : World) (hn : n ≤ 9223372036854775807) :
    Calls Tryd.prog 15 #[.int .i64 n] w fun e w' => e = .returned (.bool (powB n)) ∧ w = w' := by
  by_cases h1 : 0 < n
  · obtain ⟨m, rfl⟩ := Int.eq_ofNat_of_zero_le (show 0 ≤ n by omega)
    have hb : bits .and .i64 (m : Int) ((m : Int) - 1) = ((m &&& (m - 1) : Nat) : Int) := by
      have e : ((m : Int) - 1) = ((m - 1 : Nat) : Int) := by omega
      rw [e]
      exact (bits_nat .i64 63 (by decide) (fun n h0 h1 => by rw [IntKind.wrap_i64]; omega) m (m - 1) (by omega) (by omega)).1
    go_enter Tryd.func15, Tryd.ntmps15
    go_wp2
    go_ret
    exact ⟨ret_bool (by
      have h0 : 0 < m := by omega
      rw [powB, Int.toNat_natCast]
      generalize m &&& (m - 1) = q
      by_cases hz : q = 0
      · subst hz; simp [h0]
      · have e1 : ((q : Int) == 0) = false := by simpa using hz
        have e2 : (q == 0) = false := by simpa using hz
        simp [h0, e1, e2]), rfl⟩
  · go_enter Tryd.func15, Tryd.ntmps15
    go_wp2
    go_ret
    exact ⟨ret_bool (by simp [powB]; omega), rfl⟩
end Go.Proofs.YtmcmlplbdepooaaDoor
