/- Contracts of package capa. -/
import Derived.Test.YtpciigahikciiaaSpanM
import Derived.Test.YtpciigahikciiaaPerm
import Derived.Laws.StructEq
namespace Go.Proofs.Ytpciigahikciiaa
open Go.RowKit
set_option linter.unusedVariables false

def capOkB (b l c p t : Int) : Bool := mayB b l && (decide (b - 1048576 ≤ c ∧ c ≤ b + 1048576) && (pmayB p && decide (0 ≤ t ∧ t ≤ 15)))
def capMayB (b l c p t : Int) (v : Bool) : Bool := if v then capOkB b l c p t else decide (b = 0 ∧ l = 0 ∧ c = 0 ∧ p = 0 ∧ t = 0)

theorem capspan_any (b l c p t : Int) (v : Bool) (w : World) :
    Calls Try.prog 21 #[.agg #[.int .i64 b, .int .i64 l, .int .i64 c, .int .i64 p, .int .i64 t, .bool v]] w fun e w' => e = .returned (.agg #[.int .i64 b, .int .i64 l]) ∧ Below w.heap.size w w' := by
  go_enter Try.func21, Try.ntmps21
  go_wp2
  refine bodyPost_ret (v := .agg #[.int .i64 b, .int .i64 l]) (by simp [results, Try.results21, go_sem]) rfl ⟨rfl, ?_⟩
  exact alc (alc0 _ _) _

theorem capmay_none (b l c p t : Int) (w : World) :
    Calls Try.prog 18 #[.agg #[.int .i64 b, .int .i64 l, .int .i64 c, .int .i64 p, .int .i64 t, .bool false]] w fun e w' => e = .returned (.bool (capMayB b l c p t false)) ∧ Below w.heap.size w w' := by
  go_enter Try.func18, Try.ntmps18
  go_wp2
  all_goals
    go_ret
    exact ⟨ret_bool (by simp [capMayB, *]), alc0 _ _⟩
theorem capmay_some (b l c p t : Int) (w : World) :
    Calls Try.prog 18 #[.agg #[.int .i64 b, .int .i64 l, .int .i64 c, .int .i64 p, .int .i64 t, .bool true]] w fun e w' => e = .returned (.bool (capMayB b l c p t true)) ∧ Below w.heap.size w w' := by
  have hd : capMayB b l c p t true = (mayB b l && (decide (b - 1048576 ≤ c ∧ c ≤ b + 1048576) && (pmayB p && decide (0 ≤ t ∧ t ≤ 15)))) := rfl
  have HD := Lib.hid hd; clear hd
  cases hm : mayB b l
  · have HM := Lib.hid hm; clear hm
    go_enter Try.func18, Try.ntmps18
    go_wp2_with (first | (go_at_call 21; refine (capspan_any _ _ _ _ _ _ _).mono ?_; rintro e w1 ⟨rfl, hb1⟩) | (go_at_call 22; refine (may_any _ _ _).mono ?_; rintro e w2 ⟨rfl, hb2⟩; rw [HM.out]))
    go_ret
    exact ⟨ret_bool (by rw [HD.out, HM.out]; rfl), thn (thn (alc0 _ _) hb1) hb2⟩
  · obtain ⟨m1, m2, m3, m4⟩ := mayB_iff.1 hm
    have HM := Lib.hid hm; clear hm
    go_enter Try.func18, Try.ntmps18
    go_wp2_with (first | (go_at_call 21; refine (capspan_any _ _ _ _ _ _ _).mono ?_; rintro e w1 ⟨rfl, hb1⟩) | (go_at_call 22; refine (may_any _ _ _).mono ?_; rintro e w2 ⟨rfl, hb2⟩; rw [HM.out]; obtain ⟨hc, hf⟩ := bcell (thn hb1 hb2)) | (go_at_call 23; refine (pmay_any _ _).mono ?_; rintro e w' ⟨rfl, rfl⟩))
    all_goals
      go_ret
      exact ⟨ret_bool (by rw [HD.out, HM.out, Bool.eq_iff_iff]; simp [*] <;> omega), thn (thn (alc0 _ _) hb1) hb2⟩
theorem capmay_any (b l c p t : Int) (v : Bool) (w : World) :
    Calls Try.prog 18 #[.agg #[.int .i64 b, .int .i64 l, .int .i64 c, .int .i64 p, .int .i64 t, .bool v]] w fun e w' => e = .returned (.bool (capMayB b l c p t v)) ∧ Below w.heap.size w w' := by
  cases v
  · exact capmay_none b l c p t w
  · exact capmay_some b l c p t w
theorem capmay_is (r : Bool) (b l c p t : Int) (v : Bool) (w : World) (h : capMayB b l c p t v = r) :
    Calls Try.prog 18 #[.agg #[.int .i64 b, .int .i64 l, .int .i64 c, .int .i64 p, .int .i64 t, .bool v]] w fun e w' => e = .returned (.bool r) ∧ Below w.heap.size w w' := by
  subst h; exact capmay_any b l c p t v w

end Go.Proofs.Ytpciigahikciiaa
