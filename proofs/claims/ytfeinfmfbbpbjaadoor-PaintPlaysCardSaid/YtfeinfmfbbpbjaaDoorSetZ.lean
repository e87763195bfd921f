/- The methods of a nil set, at any numbers. -/
import Derived.Test.YtfeinfmfbbpbjaaDoorSetB
namespace Go.Proofs.YtfeinfmfbbpbjaaDoor
open Go.RowKit
set_option linter.unusedVariables false
set_option linter.unusedSimpArgs false

theorem zthere (x : Int) (W : World) : Calls Tryd.prog 46 #[.pointer none, .int .i64 x] W fun e w' => e = .returned (.bool false) ∧ W = w' := by
  by_cases h : 0 ≤ x
  · have h2 : decide (x < 0) = false := decide_eq_false (by omega)
    go_enter Tryd.func46, Tryd.ntmps46
    go_wp2_with fail
    refine (nroom_any _).mono ?_
    rintro e w' ⟨rfl, rfl⟩
    go_wp2
    go_ret
    exact ⟨ret_bool (by simp <;> omega), rfl⟩
  · go_enter Tryd.func46, Tryd.ntmps46
    go_wp2
    go_ret
    exact ⟨ret_bool (by simp <;> omega), rfl⟩
theorem zend (f m : Int) (W : World) : Calls Tryd.prog 39 #[.pointer none, .int .i64 f, .int .i64 m] W fun e w' => e = .returned (.int .i64 f) ∧ W = w' := by
  go_enter Tryd.func39, Tryd.ntmps39
  go_wp2_with fail
  refine (zthere _ _).mono ?_
  rintro e w' ⟨rfl, rfl⟩
  go_wp2
  go_ret
  exact ⟨rfl, rfl⟩
theorem zputall (f m : Int) (W : World) : Calls Tryd.prog 29 #[.pointer none, .int .i64 f, .int .i64 m] W fun e w' => e = .returned (.int .i64 0) ∧ W = w' := by
  have hl : ¬ f < f := by omega
  go_enter Tryd.func29, Tryd.ntmps29
  go_wp2_with fail
  go_loop [7, 8] (fun v7 v8 => v7 = .int .i64 0 ∧ v8 = .int .i64 f) (fun _ _ => 0)
  case atStart => exact ⟨rfl, rfl⟩
  case round =>
    obtain ⟨rfl, rfl⟩ := hrel
    go_wp2_with fail
    refine (zend _ _ _).mono ?_
    rintro e w' ⟨rfl, rfl⟩
    go_wp2_with fail
    go_ret
    exact ⟨rfl, rfl⟩
theorem zdropall (f m : Int) (W : World) : Calls Tryd.prog 31 #[.pointer none, .int .i64 f, .int .i64 m] W fun e w' => e = .returned (.int .i64 0) ∧ W = w' := by
  have hl : ¬ f < f := by omega
  go_enter Tryd.func31, Tryd.ntmps31
  go_wp2_with fail
  go_loop [7, 8] (fun v7 v8 => v7 = .int .i64 0 ∧ v8 = .int .i64 f) (fun _ _ => 0)
  case atStart => exact ⟨rfl, rfl⟩
  case round =>
    obtain ⟨rfl, rfl⟩ := hrel
    go_wp2_with fail
    refine (zend _ _ _).mono ?_
    rintro e w' ⟨rfl, rfl⟩
    go_wp2_with fail
    go_ret
    exact ⟨rfl, rfl⟩
theorem zfirst (f : Int) (W : World) : Calls Tryd.prog 44 #[.pointer none, .int .i64 f] W fun e w' => e = .returned (.int .i64 (-1)) ∧ W = w' := by
  rcases Int.lt_or_le f 0 with h | h
  all_goals
    go_enter Tryd.func44, Tryd.ntmps44
    go_wp2_with fail
    refine (zthere _ _).mono ?_
    rintro e w' ⟨rfl, rfl⟩
    go_wp2
    go_ret
    exact ⟨rfl, rfl⟩
theorem zsome (f m : Int) (W : World) : Calls Tryd.prog 33 #[.pointer none, .int .i64 f, .int .i64 m] W fun e w' => e = .returned (.bool false) ∧ W = w' := by
  rcases Int.lt_or_le f 0 with h | h
  · go_enter Tryd.func33, Tryd.ntmps33
    go_wp2
    go_ret
    exact ⟨rfl, rfl⟩
  · go_enter Tryd.func33, Tryd.ntmps33
    go_wp2_with fail
    refine (zfirst _ _).mono ?_
    rintro e w' ⟨rfl, rfl⟩
    go_wp2
    go_ret
    exact ⟨rfl, rfl⟩
theorem zwhole (f m : Int) (W : World) : Calls Tryd.prog 35 #[.pointer none, .int .i64 f, .int .i64 m] W fun e w' => e = .returned (.bool false) ∧ W = w' := by
  go_enter Tryd.func35, Tryd.ntmps35
  go_wp2
  go_ret
  exact ⟨rfl, rfl⟩
theorem zcount (W : World) : Calls Tryd.prog 36 #[.pointer none] W fun e w' => e = .returned (.int .i64 0) ∧ W = w' := by
  go_enter Tryd.func36, Tryd.ntmps36
  go_wp2
  go_ret
  exact ⟨rfl, rfl⟩
end Go.Proofs.YtfeinfmfbbpbjaaDoor
