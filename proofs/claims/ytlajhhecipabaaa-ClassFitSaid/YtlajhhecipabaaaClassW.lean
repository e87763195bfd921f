/- The walks of ClassTight and ClassFor. -/
import Derived.Test.YtlajhhecipabaaaClass
namespace Go.Proofs.Ytlajhhecipabaaa
open Go.RowKit
set_option linter.unusedVariables false

theorem walkClassTight (a0 : Int) (w : World) (w0 : (Lit.int .i64 a0).wf = true) :
    Calls Try.prog 9 #[.int .i64 a0] w fun e w' => e = .returned (.bool true) ∧ Below w.heap.size w w' := by
  have e0 := and1023 a0
  have hx1 : 0 ≤ a0 % 1024 := Int.emod_nonneg _ (by decide)
  have hx2 : a0 % 1024 < 1024 := Int.emod_lt_of_pos _ (by decide)
  obtain ⟨t1, t2, t3, t4, t5, t6⟩ := tight (x := a0 % 1024 + 1) (by omega) (by omega)
  have b1 := ofI_bd (forI (a0 % 1024 + 1))
  have b2 := ofI_bd (forI (a0 % 1024 + 1) - 1)
  by_cases hk : forI (a0 % 1024 + 1) = 0
  · have hk' : (forI (a0 % 1024 + 1) == 0) = true := by simpa using hk
    have HK := Lib.hid hk; clear hk t4
    by_cases hx : a0 % 1024 + 1 ≤ 128
    all_goals
      go_enter Try.func9, Try.ntmps9
      go_wp2_with (first | (go_at_call 33; refine (cawake_any _).mono ?_; rintro e w' ⟨rfl, rfl⟩) | (go_at_call 36; refine (of_any _ _).mono ?_; rintro e w' ⟨rfl, rfl⟩) | (go_at_call 34; refine (for_any _ _ (by omega)).mono ?_; rintro e w' ⟨rfl, rfl⟩))
      go_ret
      exact ⟨rfl, Below.refl _ _⟩
  · have t4' := t4 hk
    have hk' : (forI (a0 % 1024 + 1) == 0) = false := by simpa using hk
    by_cases hx : a0 % 1024 + 1 ≤ 128
    all_goals
      go_enter Try.func9, Try.ntmps9
      go_wp2_with (first | (go_at_call 33; refine (cawake_any _).mono ?_; rintro e w' ⟨rfl, rfl⟩) | (go_at_call 36; refine (of_any _ _).mono ?_; rintro e w' ⟨rfl, rfl⟩) | (go_at_call 34; refine (for_any _ _ (by omega)).mono ?_; rintro e w' ⟨rfl, rfl⟩))
      go_ret
      exact ⟨rfl, Below.refl _ _⟩
end Go.Proofs.Ytlajhhecipabaaa
