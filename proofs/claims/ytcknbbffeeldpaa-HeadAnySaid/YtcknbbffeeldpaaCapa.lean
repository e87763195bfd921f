/- Contracts of package capa. -/
import Derived.Test.YtcknbbffeeldpaaSpanM
import Derived.Test.YtcknbbffeeldpaaPerm
import Derived.Laws.StructEq
namespace Go.Proofs.Ytcknbbffeeldpaa
open Go.RowKit
set_option linter.unusedVariables false

def capOkB (b l c p t : Int) : Bool := mayB b l && (decide (b - 1048576 ≤ c ∧ c ≤ b + 1048576) && (pmayB p && decide (0 ≤ t ∧ t ≤ 15)))
def capMayB (b l c p t : Int) (v : Bool) : Bool := if v then capOkB b l c p t else decide (b = 0 ∧ l = 0 ∧ c = 0 ∧ p = 0 ∧ t = 0)

theorem capspan_any (b l c p t : Int) (v : Bool) (w : World) :
    Calls Try.prog 35 #[.agg #[.int .i64 b, .int .i64 l, .int .i64 c, .int .i64 p, .int .i64 t, .bool v]] w fun e w' => e = .returned (.agg #[.int .i64 b, .int .i64 l]) ∧ Below w.heap.size w w' := by
  go_enter Try.func35, Try.ntmps35
  go_wp2
  refine bodyPost_ret (v := .agg #[.int .i64 b, .int .i64 l]) (by simp [results, Try.results35, go_sem]) rfl ⟨rfl, ?_⟩
  exact alc (alc0 _ _) _

theorem capmay_none (b l c p t : Int) (w : World) :
    Calls Try.prog 37 #[.agg #[.int .i64 b, .int .i64 l, .int .i64 c, .int .i64 p, .int .i64 t, .bool false]] w fun e w' => e = .returned (.bool (capMayB b l c p t false)) ∧ Below w.heap.size w w' := by
  go_enter Try.func37, Try.ntmps37
  go_wp2
  all_goals
    go_ret
    exact ⟨ret_bool (by simp [capMayB, *]), alc0 _ _⟩
theorem capmay_some (b l c p t : Int) (w : World) :
    Calls Try.prog 37 #[.agg #[.int .i64 b, .int .i64 l, .int .i64 c, .int .i64 p, .int .i64 t, .bool true]] w fun e w' => e = .returned (.bool (capMayB b l c p t true)) ∧ Below w.heap.size w w' := by
  have hd : capMayB b l c p t true = (mayB b l && (decide (b - 1048576 ≤ c ∧ c ≤ b + 1048576) && (pmayB p && decide (0 ≤ t ∧ t ≤ 15)))) := rfl
  have HD := Lib.hid hd; clear hd
  cases hm : mayB b l
  · have HM := Lib.hid hm; clear hm
    go_enter Try.func37, Try.ntmps37
    go_wp2_with (first | (go_at_call 35; refine (capspan_any _ _ _ _ _ _ _).mono ?_; rintro e w1 ⟨rfl, hb1⟩) | (go_at_call 47; refine (may_any _ _ _).mono ?_; rintro e w2 ⟨rfl, hb2⟩; rw [HM.out]))
    go_ret
    exact ⟨ret_bool (by rw [HD.out, HM.out]; rfl), thn (thn (alc0 _ _) hb1) hb2⟩
  · obtain ⟨m1, m2, m3, m4⟩ := mayB_iff.1 hm
    have HM := Lib.hid hm; clear hm
    go_enter Try.func37, Try.ntmps37
    go_wp2_with (first | (go_at_call 35; refine (capspan_any _ _ _ _ _ _ _).mono ?_; rintro e w1 ⟨rfl, hb1⟩) | (go_at_call 47; refine (may_any _ _ _).mono ?_; rintro e w2 ⟨rfl, hb2⟩; rw [HM.out]; obtain ⟨hc, hf⟩ := bcell (thn hb1 hb2)) | (go_at_call 31; refine (pmay_any _ _).mono ?_; rintro e w' ⟨rfl, rfl⟩))
    all_goals
      go_ret
      exact ⟨ret_bool (by rw [HD.out, HM.out, Bool.eq_iff_iff]; simp [*] <;> omega), thn (thn (alc0 _ _) hb1) hb2⟩
theorem capmay_any (b l c p t : Int) (v : Bool) (w : World) :
    Calls Try.prog 37 #[.agg #[.int .i64 b, .int .i64 l, .int .i64 c, .int .i64 p, .int .i64 t, .bool v]] w fun e w' => e = .returned (.bool (capMayB b l c p t v)) ∧ Below w.heap.size w w' := by
  cases v
  · exact capmay_none b l c p t w
  · exact capmay_some b l c p t w
theorem capmay_is (r : Bool) (b l c p t : Int) (v : Bool) (w : World) (h : capMayB b l c p t v = r) :
    Calls Try.prog 37 #[.agg #[.int .i64 b, .int .i64 l, .int .i64 c, .int .i64 p, .int .i64 t, .bool v]] w fun e w' => e = .returned (.bool r) ∧ Below w.heap.size w w' := by
  subst h; exact capmay_any b l c p t v w

theorem capone_any (b l c p t : Int) (v : Bool) (w : World) :
    Calls Try.prog 33 #[.agg #[.int .i64 b, .int .i64 l, .int .i64 c, .int .i64 p, .int .i64 t, .bool v]] w fun e w' => e = .returned (.bool (v && capOkB b l c p t)) ∧ Below w.heap.size w w' := by
  have hd : capMayB b l c p t true = capOkB b l c p t := rfl
  have HD := Lib.hid hd; clear hd
  cases v
  · go_enter Try.func33, Try.ntmps33
    go_wp2_with fail
    go_ret
    exact ⟨rfl, alc0 _ _⟩
  · go_enter Try.func33, Try.ntmps33
    go_wp2_with fail
    refine (capmay_is _ _ _ _ _ _ _ _ HD.out).mono ?_
    rintro e w1 ⟨rfl, hb1⟩
    go_wp2
    go_ret
    exact ⟨ret_bool (by simp), thn (alc0 _ _) hb1⟩
theorem capone_is (r : Bool) (b l c p t : Int) (v : Bool) (w : World) (h : (v && capOkB b l c p t) = r) :
    Calls Try.prog 33 #[.agg #[.int .i64 b, .int .i64 l, .int .i64 c, .int .i64 p, .int .i64 t, .bool v]] w fun e w' => e = .returned (.bool r) ∧ Below w.heap.size w w' := by
  subst h; exact capone_any b l c p t v w

theorem capoff_any (b l c p t : Int) (v : Bool) (w : World) :
    Calls Try.prog 39 #[.agg #[.int .i64 b, .int .i64 l, .int .i64 c, .int .i64 p, .int .i64 t, .bool v]] w fun e w' => e = .returned (.int .i64 (wrap64 (c - b))) ∧ Below w.heap.size w w' := by
  go_enter Try.func39, Try.ntmps39
  go_wp2
  go_ret
  exact ⟨rfl, alc0 _ _⟩

end Go.Proofs.Ytcknbbffeeldpaa
