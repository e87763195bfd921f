/- Contracts of package perm. -/
import Derived.Test.YtlajhhecipabaaaRows
import Derived.Test.YtlajhhecipabaaaInt
import Derived.WalkKit
import Derived.ProofKit
import Derived.OpenShut
import Derived.WalkLawsBesides
import Derived.WalkSpells
import Derived.Lib.Hide
import Derived.Lib.SlBytesConst
import Derived.Handy
namespace Go.Proofs.Ytlajhhecipabaaa
open Go.RowKit
set_option linter.unusedVariables false

def pmayB (p : Int) : Bool := decide (0 ≤ p ∧ p ≤ 31)
theorem pmay_any (p : Int) (w : World) :
    Calls Try.prog 16 #[.int .i64 p] w fun e w' => e = .returned (.bool (pmayB p)) ∧ w = w' := by
  go_enter Try.func16, Try.ntmps16
  go_wp2
  all_goals
    go_ret
    exact ⟨ret_bool (by rw [Bool.eq_iff_iff]; simp [pmayB] <;> omega), rfl⟩
theorem pmay_is (r : Bool) (p : Int) (w : World) (h : pmayB p = r) :
    Calls Try.prog 16 #[.int .i64 p] w fun e w' => e = .returned (.bool r) ∧ w = w' := by
  subst h; exact pmay_any p w
theorem pmay_yes {p : Int} (h : 0 ≤ p ∧ p ≤ 31) : pmayB p = true := by simp [pmayB, h]
theorem pmay_no {p : Int} (h : ¬ (0 ≤ p ∧ p ≤ 31)) : pmayB p = false := by simp only [pmayB, decide_eq_false_iff_not]; exact h

def phasB (p q : Int) : Bool := pmayB p && (pmayB q && (bits .and .i64 p q == q))
theorem phas_any (p q : Int) (w : World) :
    Calls Try.prog 17 #[.int .i64 p, .int .i64 q] w fun e w' => e = .returned (.bool (phasB p q)) ∧ w = w' := by
  have hd : phasB p q = (pmayB p && (pmayB q && (bits .and .i64 p q == q))) := rfl
  have HD := Lib.hid hd; clear hd
  cases h1 : pmayB p
  · have H1 := Lib.hid h1; clear h1
    go_enter Try.func17, Try.ntmps17
    go_wp2_with (go_at_call 16; refine (pmay_is _ _ _ H1.out).mono ?_; rintro e w' ⟨rfl, rfl⟩)
    go_ret
    exact ⟨ret_bool (by rw [HD.out, H1.out]; rfl), rfl⟩
  · have H1 := Lib.hid h1; clear h1
    cases h2 : pmayB q
    · have H2 := Lib.hid h2; clear h2
      go_enter Try.func17, Try.ntmps17
      go_wp2_with fail
      refine (pmay_is _ _ _ H1.out).mono ?_
      rintro e w' ⟨rfl, rfl⟩
      go_wp2_with fail
      refine (pmay_is _ _ _ H2.out).mono ?_
      rintro e w' ⟨rfl, rfl⟩
      go_wp2
      go_ret
      exact ⟨ret_bool (by rw [HD.out, H1.out, H2.out]; rfl), rfl⟩
    · have H2 := Lib.hid h2; clear h2
      go_enter Try.func17, Try.ntmps17
      go_wp2_with fail
      refine (pmay_is _ _ _ H1.out).mono ?_
      rintro e w' ⟨rfl, rfl⟩
      go_wp2_with fail
      refine (pmay_is _ _ _ H2.out).mono ?_
      rintro e w' ⟨rfl, rfl⟩
      go_wp2
      go_ret
      exact ⟨ret_bool (by rw [HD.out, H1.out, H2.out]; rfl), rfl⟩
theorem phas_is (r : Bool) (p q : Int) (w : World) (h : phasB p q = r) :
    Calls Try.prog 17 #[.int .i64 p, .int .i64 q] w fun e w' => e = .returned (.bool r) ∧ w = w' := by
  subst h; exact phas_any p q w

def pandI (p q : Int) : Int := if pmayB p && pmayB q then bits .and .i64 p q else 0
def plessI (p q : Int) : Int := if pmayB p && pmayB q then bits .andNot .i64 p q else 0
theorem pand_any (p q : Int) (w : World) :
    Calls Try.prog 18 #[.int .i64 p, .int .i64 q] w fun e w' => e = .returned (.int .i64 (pandI p q)) ∧ w = w' := by
  have hd : pandI p q = if pmayB p && pmayB q then bits .and .i64 p q else 0 := rfl
  have HD := Lib.hid hd; clear hd
  cases h1 : pmayB p
  · have H1 := Lib.hid h1; clear h1
    go_enter Try.func18, Try.ntmps18
    go_wp2_with (go_at_call 16; refine (pmay_is _ _ _ H1.out).mono ?_; rintro e w' ⟨rfl, rfl⟩)
    go_ret
    exact ⟨ret_int (by rw [HD.out, H1.out]; rfl), rfl⟩
  · have H1 := Lib.hid h1; clear h1
    cases h2 : pmayB q
    all_goals
      have H2 := Lib.hid h2; clear h2
      go_enter Try.func18, Try.ntmps18
      go_wp2_with fail
      refine (pmay_is _ _ _ H1.out).mono ?_
      rintro e w' ⟨rfl, rfl⟩
      go_wp2_with fail
      refine (pmay_is _ _ _ H2.out).mono ?_
      rintro e w' ⟨rfl, rfl⟩
      go_wp2
      go_ret
      exact ⟨ret_int (by rw [HD.out, H1.out, H2.out]; rfl), rfl⟩
theorem pless_any (p q : Int) (w : World) :
    Calls Try.prog 19 #[.int .i64 p, .int .i64 q] w fun e w' => e = .returned (.int .i64 (plessI p q)) ∧ w = w' := by
  have hd : plessI p q = if pmayB p && pmayB q then bits .andNot .i64 p q else 0 := rfl
  have HD := Lib.hid hd; clear hd
  cases h1 : pmayB p
  · have H1 := Lib.hid h1; clear h1
    go_enter Try.func19, Try.ntmps19
    go_wp2_with (go_at_call 16; refine (pmay_is _ _ _ H1.out).mono ?_; rintro e w' ⟨rfl, rfl⟩)
    go_ret
    exact ⟨ret_int (by rw [HD.out, H1.out]; rfl), rfl⟩
  · have H1 := Lib.hid h1; clear h1
    cases h2 : pmayB q
    all_goals
      have H2 := Lib.hid h2; clear h2
      go_enter Try.func19, Try.ntmps19
      go_wp2_with fail
      refine (pmay_is _ _ _ H1.out).mono ?_
      rintro e w' ⟨rfl, rfl⟩
      go_wp2_with fail
      refine (pmay_is _ _ _ H2.out).mono ?_
      rintro e w' ⟨rfl, rfl⟩
      go_wp2
      go_ret
      exact ⟨ret_int (by rw [HD.out, H1.out, H2.out]; rfl), rfl⟩

/-- How many of the five lowest bits are set. -/
def onesI (x : Int) : Int := x % 2 + x / 2 % 2 + x / 4 % 2 + x / 8 % 2 + x / 16 % 2
theorem ones_walk (x : Int) (w : World) (h : 0 ≤ x ∧ x ≤ 31) :
    Calls Try.prog 54 #[.int .u64 x] w fun e w' => e = .returned (.int .i64 (onesI x)) ∧ w = w' := by
  obtain ⟨h1, h2⟩ := h
  go_enter Try.func54, Try.ntmps54
  go_wp2
  go_ret
  refine ⟨ret_int ?_, rfl⟩
  obtain ⟨n, rfl⟩ : ∃ n : Fin 32, x = (n.val : Int) := ⟨⟨x.toNat, by omega⟩, by simp; omega⟩
  clear h1 h2
  revert n
  decide +kernel

def pcountI (p : Int) : Int := if pmayB p then onesI p else 0
theorem pcount_any (p : Int) (w : World) :
    Calls Try.prog 20 #[.int .i64 p] w fun e w' => e = .returned (.int .i64 (pcountI p)) ∧ w = w' := by
  have hd : pcountI p = if pmayB p then onesI p else 0 := rfl
  have HD := Lib.hid hd; clear hd
  by_cases h : 0 ≤ p ∧ p ≤ 31
  · have H1 := Lib.hid (pmay_yes h)
    have HO := Lib.hid (ones_walk p)
    obtain ⟨h1, h2⟩ := h
    go_enter Try.func20, Try.ntmps20
    go_wp2_with (first | (go_at_call 16; refine (pmay_is _ _ _ H1.out).mono ?_; rintro e w' ⟨rfl, rfl⟩) | (go_at_call 54; refine (HO.out _ ⟨h1, h2⟩).mono ?_; rintro e w' ⟨rfl, rfl⟩))
    go_ret
    exact ⟨ret_int (by rw [HD.out, H1.out]; rfl), rfl⟩
  · have H1 := Lib.hid (pmay_no h); clear h
    go_enter Try.func20, Try.ntmps20
    go_wp2_with (go_at_call 16; refine (pmay_is _ _ _ H1.out).mono ?_; rintro e w' ⟨rfl, rfl⟩)
    go_ret
    exact ⟨ret_int (by rw [HD.out, H1.out]; rfl), rfl⟩
end Go.Proofs.Ytlajhhecipabaaa
