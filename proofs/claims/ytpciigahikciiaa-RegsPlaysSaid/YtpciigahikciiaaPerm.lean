/- Contracts of package perm. -/
import Derived.Test.YtpciigahikciiaaRows
import Derived.Test.YtpciigahikciiaaInt
import Derived.WalkKit
import Derived.ProofKit
import Derived.OpenShut
import Derived.WalkLawsBesides
import Derived.WalkSpells
import Derived.Lib.Hide
import Derived.Lib.SlBytesConst
import Derived.Handy
namespace Go.Proofs.Ytpciigahikciiaa
open Go.RowKit
set_option linter.unusedVariables false

def pmayB (p : Int) : Bool := decide (0 ≤ p ∧ p ≤ 31)
theorem pmay_any (p : Int) (w : World) :
    Calls Try.prog 23 #[.int .i64 p] w fun e w' => e = .returned (.bool (pmayB p)) ∧ w = w' := by
  go_enter Try.func23, Try.ntmps23
  go_wp2
  all_goals
    go_ret
    exact ⟨ret_bool (by rw [Bool.eq_iff_iff]; simp [pmayB] <;> omega), rfl⟩
theorem pmay_is (r : Bool) (p : Int) (w : World) (h : pmayB p = r) :
    Calls Try.prog 23 #[.int .i64 p] w fun e w' => e = .returned (.bool r) ∧ w = w' := by
  subst h; exact pmay_any p w
theorem pmay_yes {p : Int} (h : 0 ≤ p ∧ p ≤ 31) : pmayB p = true := by simp [pmayB, h]
theorem pmay_no {p : Int} (h : ¬ (0 ≤ p ∧ p ≤ 31)) : pmayB p = false := by simp only [pmayB, decide_eq_false_iff_not]; exact h

def phasB (p q : Int) : Bool := pmayB p && (pmayB q && (bits .and .i64 p q == q))
def pandI (p q : Int) : Int := if pmayB p && pmayB q then bits .and .i64 p q else 0
def plessI (p q : Int) : Int := if pmayB p && pmayB q then bits .andNot .i64 p q else 0
end Go.Proofs.Ytpciigahikciiaa
