/- Contracts of package span. -/
import Derived.Test.YtohgdmldleoblaaRows
import Derived.Test.YtohgdmldleoblaaInt
import Derived.WalkKit
import Derived.ProofKit
import Derived.OpenShut
import Derived.WalkLawsBesides
import Derived.WalkSpells
import Derived.Deep.QuietTactic
import Derived.BigQuiet
import Derived.Lib.Hide
namespace Go.Proofs.Ytohgdmldleoblaa
open Go.RowKit

def downI (n s : Int) : Int := if n < 0 ∨ s < 1 then 0 else n - n % s
def partsI (n s : Int) : Int := if n < 1 ∨ s < 1 then 0 else (n - 1) / s + 1

theorem down_any (n s : Int) (w : World) (hn : n ≤ 9223372036854775807) (hs : s ≤ 9223372036854775807) :
    Calls Try.prog 19 #[.int .i64 n, .int .i64 s] w fun e w' => e = .returned (.int .i64 (downI n s)) ∧ w = w' := by
  by_cases h1 : n < 0
  · go_enter Try.func19, Try.ntmps19
    go_wp2
    go_ret
    exact ⟨ret_int (by rw [downI, if_pos (Or.inl h1)]), rfl⟩
  · by_cases h2 : s < 1
    · go_enter Try.func19, Try.ntmps19
      go_wp2
      go_ret
      exact ⟨ret_int (by rw [downI, if_pos (Or.inr h2)]), rfl⟩
    · have h3 : 0 ≤ n % s := Int.emod_nonneg _ (by omega)
      have h4 : n % s < s := Int.emod_lt_of_pos _ (by omega)
      go_enter Try.func19, Try.ntmps19
      go_wp2
      go_ret
      exact ⟨ret_int (by rw [downI, if_neg (by omega)]), rfl⟩

theorem parts_any (n s : Int) (w : World) (hn : n ≤ 9223372036854775807) (hs : s ≤ 9223372036854775807) :
    Calls Try.prog 20 #[.int .i64 n, .int .i64 s] w fun e w' => e = .returned (.int .i64 (partsI n s)) ∧ w = w' := by
  by_cases h1 : n < 1
  · go_enter Try.func20, Try.ntmps20
    go_wp2
    go_ret
    exact ⟨ret_int (by rw [partsI, if_pos (Or.inl h1)]), rfl⟩
  · by_cases h2 : s < 1
    · go_enter Try.func20, Try.ntmps20
      go_wp2
      go_ret
      exact ⟨ret_int (by rw [partsI, if_pos (Or.inr h2)]), rfl⟩
    · have h3 : 0 ≤ (n - 1) / s := Int.ediv_nonneg (by omega) (by omega)
      have h4 : (n - 1) / s ≤ n - 1 := Int.ediv_le_self _ (by omega)
      go_enter Try.func20, Try.ntmps20
      go_wp2
      go_ret
      exact ⟨ret_int (by rw [partsI, if_neg (by omega)]), rfl⟩

def mayB (b l : Int) : Bool := decide (0 ≤ b ∧ b < 262144 ∧ 1 ≤ l ∧ l ≤ 262144 - b)
def endI (b l : Int) : Int := if mayB b l = true then b + l else 0
theorem mayB_iff {b l : Int} : mayB b l = true ↔ 0 ≤ b ∧ b < 262144 ∧ 1 ≤ l ∧ l ≤ 262144 - b := by simp [mayB]
theorem mayB_false {b l : Int} : mayB b l = false ↔ ¬ (0 ≤ b ∧ b < 262144 ∧ 1 ≤ l ∧ l ≤ 262144 - b) := by simp [mayB]

theorem may_yes (b l : Int) (w : World) (h : mayB b l = true) :
    Calls Try.prog 8 #[.agg #[.int .i64 b, .int .i64 l]] w fun e w' => e = .returned (.bool true) ∧ Below w.heap.size w w' := by
  obtain ⟨h1, h2, h3, h4⟩ := mayB_iff.1 h
  clear h
  go_enter Try.func8, Try.ntmps8
  go_wp2
  go_ret
  exact ⟨ret_bool (by simp <;> omega), (Below.refl _ _).alloc (Nat.le_refl _) _⟩

theorem may_any (b l : Int) (w : World) :
    Calls Try.prog 8 #[.agg #[.int .i64 b, .int .i64 l]] w fun e w' => e = .returned (.bool (mayB b l)) ∧ Below w.heap.size w w' := by
  go_enter Try.func8, Try.ntmps8
  go_wp2
  all_goals
    go_ret
    exact ⟨ret_bool (by rw [Bool.eq_iff_iff]; simp [mayB] <;> omega), (Below.refl _ _).alloc (Nat.le_refl _) _⟩

theorem end_any (b l : Int) (w : World) :
    Calls Try.prog 9 #[.agg #[.int .i64 b, .int .i64 l]] w fun e w' => e = .returned (.int .i64 (endI b l)) ∧ Below w.heap.size w w' := by
  cases h : mayB b l
  · have H := Lib.hid h; clear h
    go_enter Try.func9, Try.ntmps9
    go_wp2_with fail
    refine (may_any _ _ _).mono ?_
    rintro e w1 ⟨rfl, hb⟩
    rw [H.out]
    go_wp2
    go_ret
    exact ⟨ret_int (by simp [endI, H.out]), ((Below.refl _ _).alloc (Nat.le_refl _) _).trans (hb.mono (by simp))⟩
  · have H := Lib.hid h
    obtain ⟨h1, h2, h3, h4⟩ := mayB_iff.1 h
    clear h
    go_enter Try.func9, Try.ntmps9
    go_wp2_with fail
    refine (may_any _ _ _).mono ?_
    rintro e w1 ⟨rfl, hb⟩
    rw [H.out]
    obtain ⟨hc, hf⟩ := bcell hb
    go_wp2
    go_ret
    exact ⟨ret_int (by simp [endI, H.out]), ((Below.refl _ _).alloc (Nat.le_refl _) _).trans (hb.mono (by simp))⟩

theorem endI_yes {b l : Int} (h : mayB b l = true) : endI b l = b + l := by simp [endI, h]
theorem endI_no {b l : Int} (h : mayB b l = false) : endI b l = 0 := by simp [endI, h]

def hasB (b l at_ : Int) : Bool := mayB b l && decide (b ≤ at_ ∧ at_ < b + l)

theorem has_any (b l at_ : Int) (w : World) :
    Calls Try.prog 10 #[.agg #[.int .i64 b, .int .i64 l], .int .i64 at_] w fun e w' => e = .returned (.bool (hasB b l at_)) ∧ Below w.heap.size w w' := by
  cases h : mayB b l
  · have H := Lib.hid h; clear h
    go_enter Try.func10, Try.ntmps10
    go_wp2_with fail
    refine (may_any _ _ _).mono ?_
    rintro e w1 ⟨rfl, hb⟩
    rw [H.out]
    go_wp2
    go_ret
    exact ⟨ret_bool (by simp [hasB, H.out]), ((Below.refl _ _).alloc (Nat.le_refl _) _).trans (hb.mono (by simp))⟩
  · have H := Lib.hid h
    obtain ⟨h1, h2, h3, h4⟩ := mayB_iff.1 h
    clear h
    go_enter Try.func10, Try.ntmps10
    go_wp2_with fail
    refine (may_any _ _ _).mono ?_
    rintro e w1 ⟨rfl, hb⟩
    rw [H.out]
    obtain ⟨hc, hf⟩ := bcell hb
    go_wp2_with (go_at_call 9; refine (end_any _ _ _).mono ?_; rintro e w2 ⟨rfl, hb2⟩; rw [endI_yes H.out])
    all_goals go_ret
    · exact ⟨ret_bool (by rw [Bool.eq_iff_iff]; simp [hasB, H.out] <;> omega), (((Below.refl _ _).alloc (Nat.le_refl _) _).trans (hb.mono (by simp))).trans (hb2.mono (by have := hb.size; simp at this; omega))⟩
    · exact ⟨ret_bool (by rw [Bool.eq_iff_iff]; simp [hasB, H.out] <;> omega), (((Below.refl _ _).alloc (Nat.le_refl _) _).trans (hb.mono (by simp)))⟩

def insideB (b l at_ n : Int) : Bool := mayB b l && decide (0 ≤ n ∧ n ≤ l ∧ b ≤ at_ ∧ at_ ≤ b + l - n)

theorem inside_any (b l at_ n : Int) (w : World) :
    Calls Try.prog 11 #[.agg #[.int .i64 b, .int .i64 l], .int .i64 at_, .int .i64 n] w fun e w' => e = .returned (.bool (insideB b l at_ n)) ∧ Below w.heap.size w w' := by
  cases h : mayB b l
  · have H := Lib.hid h; clear h
    go_enter Try.func11, Try.ntmps11
    go_wp2_with fail
    refine (may_any _ _ _).mono ?_
    rintro e w1 ⟨rfl, hb⟩
    rw [H.out]
    go_wp2
    go_ret
    exact ⟨ret_bool (by simp [insideB, H.out]), ((Below.refl _ _).alloc (Nat.le_refl _) _).trans (hb.mono (by simp))⟩
  · have H := Lib.hid h
    obtain ⟨h1, h2, h3, h4⟩ := mayB_iff.1 h
    clear h
    go_enter Try.func11, Try.ntmps11
    go_wp2_with fail
    refine (may_any _ _ _).mono ?_
    rintro e w1 ⟨rfl, hb⟩
    rw [H.out]
    obtain ⟨hc, hf⟩ := bcell hb
    go_wp2_with (go_at_call 9; refine (end_any _ _ _).mono ?_; rintro e w2 ⟨rfl, hb2⟩; rw [endI_yes H.out])
    all_goals go_ret
    · exact ⟨ret_bool (by rw [Bool.eq_iff_iff]; simp [insideB, H.out] <;> omega), (((Below.refl _ _).alloc (Nat.le_refl _) _).trans (hb.mono (by simp))).trans (hb2.mono (by have := hb.size; simp at this; omega))⟩
    all_goals exact ⟨ret_bool (by rw [Bool.eq_iff_iff]; simp [insideB, H.out] <;> omega), (((Below.refl _ _).alloc (Nat.le_refl _) _).trans (hb.mono (by simp)))⟩

end Go.Proofs.Ytohgdmldleoblaa
