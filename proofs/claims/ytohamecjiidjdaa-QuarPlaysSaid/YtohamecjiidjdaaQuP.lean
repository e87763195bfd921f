/- Contracts of package quar: what Put refuses. -/
import Derived.Test.YtohamecjiidjdaaQuC
namespace Go.Proofs.Ytohamecjiidjdaa
open Go.RowKit
set_option linter.unusedVariables false
set_option linter.unusedSimpArgs false

theorem nqput (a0 a1 a2 a3 a4 : Int) (W : World) :
    Calls Try.prog 10 #[.pointer none, .agg #[.int .i64 a0, .int .i64 a1, .int .i64 a2, .int .i64 a3, .int .i64 a4]] W fun e w' => e = .returned (.bool false) ∧ Below W.heap.size W w' := by
  go_enter Try.func10, Try.ntmps10
  go_wp2_with fail
  go_quiet (fail)
  go_wp2
  go_ret
  exact ⟨rfl, below_drewN (alc0 _ _) _⟩
theorem qput_no (g b : Nat) (l : List It) (p : It) (a0 a1 a2 a3 a4 : Int) (W : World) (h : QuB g b W (l ++ [p])) (hlt : a4 < p.ep) (hsm : l.length ≤ 100) :
    Calls Try.prog 10 #[.pointer (some ⟨g, 0, none⟩), .agg #[.int .i64 a0, .int .i64 a1, .int .i64 a2, .int .i64 a3, .int .i64 a4]] W fun e w' => e = .returned (.bool false) ∧ Below W.heap.size W w' := by
  obtain ⟨h1, h2, h3, v, h5, h6⟩ := h
  rcases vi_open h6 with ⟨_, e⟩ | ⟨off, c, rfl, h7, h8, h9, h10⟩
  · simp at e
  · obtain ⟨_, _, _, _, z4⟩ := h10 l.length p (by simp)
    have hle : (l ++ [p]).length = l.length + 1 := by simp
    rw [hle] at h5 h8
    clear h6 h10 hle
    have d1 : decide ((0 : Int) < (l.length : Int) + 1) = true := decide_eq_true (by omega)
    have d2 : decide (a4 < p.ep) = true := decide_eq_true hlt
    have i1 : (l.length : Int) < (l.length : Int) + 1 := by omega
    go_enter Try.func10, Try.ntmps10
    go_wp2_with fail
    go_quiet (fail)
    go_wp2
    go_ret
    exact ⟨rfl, below_drewN (alc0 _ _) _⟩
end Go.Proofs.Ytohamecjiidjdaa
