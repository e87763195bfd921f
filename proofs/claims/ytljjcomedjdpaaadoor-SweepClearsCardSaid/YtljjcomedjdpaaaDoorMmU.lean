/- Memory: pages are unmapped. -/
import Derived.Test.YtljjcomedjdpaaaDoorMmI
import Derived.Test.YtljjcomedjdpaaaDoorMrA
namespace Go.Proofs.YtljjcomedjdpaaaDoor
set_option maxRecDepth 100000
open Go.RowKit Go.ChangeMaps Go.MapKept
set_option linter.unusedVariables false
set_option linter.unusedSimpArgs false

section
variable {B : Nat} {col : Nat → Nat} {M : Nat} {W : World} {σ : MS}
def dropP (c : Nat → Nat) (f j : Nat) : Nat → Nat := fun x => if f ≤ x / 256 ∧ x / 256 < f + j then 0 else c x
theorem dropP_next (c : Nat → Nat) (f j : Nat) : drop (dropP c f j) (f + j) = dropP c f (j + 1) := by
  funext x
  unfold drop dropP
  by_cases e : x / 256 = f + j
  · rw [if_pos e, if_pos (by omega)]
  · rw [if_neg e]
    by_cases e2 : f ≤ x / 256 ∧ x / 256 < f + j
    · rw [if_pos e2, if_pos (by omega)]
    · rw [if_neg e2, if_neg (by omega)]
theorem dropP_zero (c : Nat → Nat) (f : Nat) : dropP c f 0 = c := by
  funext x
  exact if_neg (by omega)
/-- Pages that are as new ones. -/
def wipeS (σ : MS) (f n : Nat) : MS := { σ with c := dropP σ.c f n, f := setF σ.f (16 * f) (16 * n) 0, kp := offF σ.kp (16 * f) (16 * n) }
def offP (pg : Nat → Bool) (f n : Nat) : Nat → Bool := fun y => pg y && !decide (f ≤ y ∧ y < f + n)
end
end Go.Proofs.YtljjcomedjdpaaaDoor

