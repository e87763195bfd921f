/- Contracts of package span: May, End, Inside. -/
import Derived.Test.YtpciigahikciiaaRows
import Derived.Test.YtpciigahikciiaaInt
import Derived.WalkKit
import Derived.ProofKit
import Derived.OpenShut
import Derived.WalkLawsBesides
import Derived.WalkSpells
import Derived.Deep.QuietTactic
import Derived.BigQuiet
import Derived.Lib.Hide
namespace Go.Proofs.Ytpciigahikciiaa
open Go.RowKit

def mayB (b l : Int) : Bool := decide (0 ≤ b ∧ b < 262144 ∧ 1 ≤ l ∧ l ≤ 262144 - b)
def endI (b l : Int) : Int := if mayB b l = true then b + l else 0
theorem mayB_iff {b l : Int} : mayB b l = true ↔ 0 ≤ b ∧ b < 262144 ∧ 1 ≤ l ∧ l ≤ 262144 - b := by simp [mayB]
theorem mayB_false {b l : Int} : mayB b l = false ↔ ¬ (0 ≤ b ∧ b < 262144 ∧ 1 ≤ l ∧ l ≤ 262144 - b) := by simp [mayB]

theorem may_yes (b l : Int) (w : World) (h : mayB b l = true) :
    Calls Try.prog 22 #[.agg #[.int .i64 b, .int .i64 l]] w fun e w' => e = .returned (.bool true) ∧ Below w.heap.size w w' := by
  obtain ⟨h1, h2, h3, h4⟩ := mayB_iff.1 h
  clear h
  go_enter Try.func22, Try.ntmps22
  go_wp2
  go_ret
  exact ⟨ret_bool (by simp <;> omega), (Below.refl _ _).alloc (Nat.le_refl _) _⟩

theorem may_any (b l : Int) (w : World) :
    Calls Try.prog 22 #[.agg #[.int .i64 b, .int .i64 l]] w fun e w' => e = .returned (.bool (mayB b l)) ∧ Below w.heap.size w w' := by
  go_enter Try.func22, Try.ntmps22
  go_wp2
  all_goals
    go_ret
    exact ⟨ret_bool (by rw [Bool.eq_iff_iff]; simp [mayB] <;> omega), (Below.refl _ _).alloc (Nat.le_refl _) _⟩

theorem end_any (b l : Int) (w : World) :
    Calls Try.prog 24 #[.agg #[.int .i64 b, .int .i64 l]] w fun e w' => e = .returned (.int .i64 (endI b l)) ∧ Below w.heap.size w w' := by
  cases h : mayB b l
  · have H := Lib.hid h; clear h
    go_enter Try.func24, Try.ntmps24
    go_wp2_with fail
    refine (may_any _ _ _).mono ?_
    rintro e w1 ⟨rfl, hb⟩
    rw [H.out]
    go_wp2
    go_ret
    exact ⟨ret_int (by simp [endI, H.out]), ((Below.refl _ _).alloc (Nat.le_refl _) _).trans (hb.mono (by simp))⟩
  · have H := Lib.hid h
    obtain ⟨h1, h2, h3, h4⟩ := mayB_iff.1 h
    clear h
    go_enter Try.func24, Try.ntmps24
    go_wp2_with fail
    refine (may_any _ _ _).mono ?_
    rintro e w1 ⟨rfl, hb⟩
    rw [H.out]
    obtain ⟨hc, hf⟩ := bcell hb
    go_wp2
    go_ret
    exact ⟨ret_int (by simp [endI, H.out]), ((Below.refl _ _).alloc (Nat.le_refl _) _).trans (hb.mono (by simp))⟩

theorem endI_yes {b l : Int} (h : mayB b l = true) : endI b l = b + l := by simp [endI, h]
theorem endI_no {b l : Int} (h : mayB b l = false) : endI b l = 0 := by simp [endI, h]

def insideB (b l at_ n : Int) : Bool := mayB b l && decide (0 ≤ n ∧ n ≤ l ∧ b ≤ at_ ∧ at_ ≤ b + l - n)

end Go.Proofs.Ytpciigahikciiaa
