/- The walk of NumMultiples. -/
import Derived.Test.YtmcmlplbdepooaaDoorNumMF
namespace Go.Proofs.YtmcmlplbdepooaaDoor
open Go.RowKit
set_option linter.unusedVariables false

set_option maxHeartbeats 400000 in
theorem walkNumMultiples (a0 : Int) (a1 : Int) (w : World) (w0 : (Lit.int .i64 a0).wf = true) (w1 : (Lit.int .i64 a1).wf = true) (ht : PowTab w) :
    Calls Tryd.prog 3 #[.int .i64 a0, .int .i64 a1] w fun e w' => e = .returned (.bool true) ∧ Below w.heap.size w w' := by
  have T := Lib.hid ht; clear ht
  obtain ⟨x, ex⟩ : ∃ x, x = a0 % 16777216 := ⟨_, rfl⟩
  obtain ⟨s, es⟩ : ∃ s, s = a1 % 65536 := ⟨_, rfl⟩
  obtain ⟨c, ec⟩ : ∃ c, c = a0 % 256 := ⟨_, rfl⟩
  have e0 := and24 a0; rw [← ex] at e0
  have e1 := and65535 a1; rw [← es] at e1
  have e2 := and255 a0; rw [← ec] at e2
  have x0 : 0 ≤ x := by omega
  have x1 : x < 16777216 := by omega
  have s0 : 0 ≤ s := by omega
  have s1 : s < 65536 := by omega
  have c0 : 0 ≤ c := by omega
  have c1 : c < 256 := by omega
  clear ex es ec
  by_cases hs : s = 0
  · subst hs
    go_enter Tryd.func3, Tryd.ntmps3
    go_wp2_with first
      | (go_at_call 10; refine (down_is x 0 0 _ (by omega) (by omega) (down_low (by omega))).mono ?_; rintro e w' ⟨rfl, rfl⟩)
      | (go_at_call 11; refine (up_is x 0 0 _ (by omega) (by omega) (up_low (by omega))).mono ?_; rintro e w' ⟨rfl, rfl⟩)
      | (go_at_call 12; refine (parts_is x 0 0 _ (by omega) (by omega) (parts_low (by omega))).mono ?_; rintro e w' ⟨rfl, rfl⟩)
      | (go_at_call 13; refine (awake_any _ T.out).mono ?_; rintro e w1 ⟨rfl, B1⟩)
    go_ret
    exact ⟨rfl, B1⟩
  · obtain ⟨f1, f2, f3, f4, f5, f6, f7, f8, f9, f10⟩ := mult_facts x s x0 x1 (by omega) s1
    have k1 : downI (-1 - c) s = 0 := down_low (by omega)
    have k2 : upI (-1 - c) s = 0 := up_low (by omega)
    have k3 : partsI (-1 - c) s = 0 := parts_low (by omega)
    have k4 : upI x (-s) = 0 := up_low (by omega)
    have g1 : (downI x s % s == 0) = true := by simpa using f1
    have g5 : (upI x s % s == 0) = true := by simpa using f5
    clear f1 f5
    go_enter Tryd.func3, Tryd.ntmps3
    go_wp2_with first
      | (go_at_call 10; refine (down_any _ _ _ (by omega) (by omega)).mono ?_; rintro e w' ⟨rfl, rfl⟩)
      | (go_at_call 11; refine (up_any _ _ _ (by omega) (by omega)).mono ?_; rintro e w' ⟨rfl, rfl⟩)
      | (go_at_call 12; refine (parts_any _ _ _ (by omega) (by omega)).mono ?_; rintro e w' ⟨rfl, rfl⟩)
      | (go_at_call 13; refine (awake_any _ T.out).mono ?_; rintro e w1 ⟨rfl, B1⟩)
    go_ret
    exact ⟨rfl, B1⟩
end Go.Proofs.YtmcmlplbdepooaaDoor
