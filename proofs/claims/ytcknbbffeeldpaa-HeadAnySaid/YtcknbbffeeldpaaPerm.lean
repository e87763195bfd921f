/- Contracts of package perm. -/
import Derived.Test.YtcknbbffeeldpaaRows
import Derived.Test.YtcknbbffeeldpaaInt
import Derived.WalkKit
import Derived.ProofKit
import Derived.OpenShut
import Derived.WalkLawsBesides
import Derived.WalkSpells
import Derived.Lib.Hide
import Derived.Lib.SlBytesConst
import Derived.Handy
namespace Go.Proofs.Ytcknbbffeeldpaa
open Go.RowKit
set_option linter.unusedVariables false

def pmayB (p : Int) : Bool := decide (0 ≤ p ∧ p ≤ 31)
theorem pmay_any (p : Int) (w : World) :
    Calls Try.prog 31 #[.int .i64 p] w fun e w' => e = .returned (.bool (pmayB p)) ∧ w = w' := by
  go_enter Try.func31, Try.ntmps31
  go_wp2
  all_goals
    go_ret
    exact ⟨ret_bool (by rw [Bool.eq_iff_iff]; simp [pmayB] <;> omega), rfl⟩
theorem pmay_is (r : Bool) (p : Int) (w : World) (h : pmayB p = r) :
    Calls Try.prog 31 #[.int .i64 p] w fun e w' => e = .returned (.bool r) ∧ w = w' := by
  subst h; exact pmay_any p w
theorem pmay_yes {p : Int} (h : 0 ≤ p ∧ p ≤ 31) : pmayB p = true := by simp [pmayB, h]
theorem pmay_no {p : Int} (h : ¬ (0 ≤ p ∧ p ≤ 31)) : pmayB p = false := by simp only [pmayB, decide_eq_false_iff_not]; exact h

def phasB (p q : Int) : Bool := pmayB p && (pmayB q && (bits .and .i64 p q == q))
theorem phas_any (p q : Int) (w : World) :
    Calls Try.prog 36 #[.int .i64 p, .int .i64 q] w fun e w' => e = .returned (.bool (phasB p q)) ∧ w = w' := by
  have hd : phasB p q = (pmayB p && (pmayB q && (bits .and .i64 p q == q))) := rfl
  have HD := Lib.hid hd; clear hd
  cases h1 : pmayB p
  · have H1 := Lib.hid h1; clear h1
    go_enter Try.func36, Try.ntmps36
    go_wp2_with (go_at_call 31; refine (pmay_is _ _ _ H1.out).mono ?_; rintro e w' ⟨rfl, rfl⟩)
    go_ret
    exact ⟨ret_bool (by rw [HD.out, H1.out]; rfl), rfl⟩
  · have H1 := Lib.hid h1; clear h1
    cases h2 : pmayB q
    · have H2 := Lib.hid h2; clear h2
      go_enter Try.func36, Try.ntmps36
      go_wp2_with fail
      refine (pmay_is _ _ _ H1.out).mono ?_
      rintro e w' ⟨rfl, rfl⟩
      go_wp2_with fail
      refine (pmay_is _ _ _ H2.out).mono ?_
      rintro e w' ⟨rfl, rfl⟩
      go_wp2
      go_ret
      exact ⟨ret_bool (by rw [HD.out, H1.out, H2.out]; rfl), rfl⟩
    · have H2 := Lib.hid h2; clear h2
      go_enter Try.func36, Try.ntmps36
      go_wp2_with fail
      refine (pmay_is _ _ _ H1.out).mono ?_
      rintro e w' ⟨rfl, rfl⟩
      go_wp2_with fail
      refine (pmay_is _ _ _ H2.out).mono ?_
      rintro e w' ⟨rfl, rfl⟩
      go_wp2
      go_ret
      exact ⟨ret_bool (by rw [HD.out, H1.out, H2.out]; rfl), rfl⟩
theorem phas_is (r : Bool) (p q : Int) (w : World) (h : phasB p q = r) :
    Calls Try.prog 36 #[.int .i64 p, .int .i64 q] w fun e w' => e = .returned (.bool r) ∧ w = w' := by
  subst h; exact phas_any p q w

def pandI (p q : Int) : Int := if pmayB p && pmayB q then bits .and .i64 p q else 0
def plessI (p q : Int) : Int := if pmayB p && pmayB q then bits .andNot .i64 p q else 0
theorem pless_any (p q : Int) (w : World) :
    Calls Try.prog 32 #[.int .i64 p, .int .i64 q] w fun e w' => e = .returned (.int .i64 (plessI p q)) ∧ w = w' := by
  have hd : plessI p q = if pmayB p && pmayB q then bits .andNot .i64 p q else 0 := rfl
  have HD := Lib.hid hd; clear hd
  cases h1 : pmayB p
  · have H1 := Lib.hid h1; clear h1
    go_enter Try.func32, Try.ntmps32
    go_wp2_with (go_at_call 31; refine (pmay_is _ _ _ H1.out).mono ?_; rintro e w' ⟨rfl, rfl⟩)
    go_ret
    exact ⟨ret_int (by rw [HD.out, H1.out]; rfl), rfl⟩
  · have H1 := Lib.hid h1; clear h1
    cases h2 : pmayB q
    all_goals
      have H2 := Lib.hid h2; clear h2
      go_enter Try.func32, Try.ntmps32
      go_wp2_with fail
      refine (pmay_is _ _ _ H1.out).mono ?_
      rintro e w' ⟨rfl, rfl⟩
      go_wp2_with fail
      refine (pmay_is _ _ _ H2.out).mono ?_
      rintro e w' ⟨rfl, rfl⟩
      go_wp2
      go_ret
      exact ⟨ret_int (by rw [HD.out, H1.out, H2.out]; rfl), rfl⟩

end Go.Proofs.Ytcknbbffeeldpaa
