/- MoS. -/
import Derived.Test.YtanmmhbnjmglhaaZ24
import Derived.Deep.RegionHeld3
namespace Go.Proofs.Ytanmmhbnjmglhaa
set_option maxRecDepth 100000
open Go.RowKit Go.ChangeMaps Go.MapKept
set_option linter.unusedVariables false
set_option linter.unusedSimpArgs false
section
variable {C : Cf} {L R : Option Addr} {ll lc k kc : Nat} {W : World}
theorem raccess0 (n p : Int) : Calls Try.prog 53 #[z5, rE n, rE p] W fun e w' => e = .returned (rE 7) ∧ Below W.heap.size W w' := by
  go_enter Try.func53, Try.ntmps53
  go_wp2_with fail
  go_ret
  exact ⟨rfl, alc0 _ _⟩
theorem rslot0 (p : Int) : Calls Try.prog 52 #[z5, rE p] W fun e w' => e = .returned (rE 7) ∧ Below W.heap.size W w' := by
  go_enter Try.func52, Try.ntmps52
  go_wp2_with fail
  refine (raccess0 _ _).mono ?_
  rintro e w1 ⟨rfl, hb⟩
  have HB := Lib.hid ((alc0 W _).trans (hb.mono (by simp <;> omega)))
  clear hb
  go_wp2_with fail
  go_ret
  exact ⟨rfl, HB.out⟩
theorem rwhole0 : Calls Try.prog 49 #[rmv C L ll lc R k kc, z5] W fun e w' => e = .returned (rE 7) ∧ Below W.heap.size W w' := by
  go_enter Try.func49, Try.ntmps49
  go_wp2_with fail
  go_ret
  exact ⟨rfl, alc (alc0 _ _) _⟩
end
end Go.Proofs.Ytanmmhbnjmglhaa
