/- Contracts of package class: Of. -/
import Derived.Test.YtgidnmjeifgciaaDoorRows
import Derived.Test.YtgidnmjeifgciaaDoorInt
import Derived.WalkKit
import Derived.ProofKit
import Derived.OpenShut
import Derived.WalkLawsBesides
import Derived.WalkSpells
import Derived.Deep.QuietTactic
import Derived.BigQuiet
import Derived.Lib.Hide
namespace Go.Proofs.YtgidnmjeifgciaaDoor
set_option maxRecDepth 100000
open Go.RowKit

def ofL : List Int := [16, 32, 48, 64, 80, 96, 112, 128, 160, 192, 224, 256, 320, 384, 448, 512, 640, 768, 896, 1024]
def ofI (k : Int) : Int := if k < 0 ∨ 20 ≤ k then 0 else ofL.getD k.toNat 0
theorem lits {k : Int} (h0 : ¬ k < 0) (h1 : ¬ 20 ≤ k) : k = 0 ∨ k = 1 ∨ k = 2 ∨ k = 3 ∨ k = 4 ∨ k = 5 ∨ k = 6 ∨ k = 7 ∨ k = 8 ∨ k = 9 ∨ k = 10 ∨ k = 11 ∨ k = 12 ∨ k = 13 ∨ k = 14 ∨ k = 15 ∨ k = 16 ∨ k = 17 ∨ k = 18 ∨ k = 19 := by omega
theorem ofI_bd (k : Int) : 0 ≤ ofI k ∧ ofI k ≤ 1024 := by
  unfold ofI
  split
  · omega
  · rename_i h
    rcases lits (k := k) (by omega) (by omega) with rfl | rfl | rfl | rfl | rfl | rfl | rfl | rfl | rfl | rfl | rfl | rfl | rfl | rfl | rfl | rfl | rfl | rfl | rfl | rfl <;> decide

theorem of_any (k : Int) (w : World) :
    Calls Tryd.prog 131 #[.int .i64 k] w fun e w' => e = .returned (.int .i64 (ofI k)) ∧ w = w' := by
  by_cases h0 : k < 0
  · go_enter Tryd.func131, Tryd.ntmps131
    go_wp2
    go_ret
    exact ⟨ret_int (by rw [ofI, if_pos (Or.inl h0)]), rfl⟩
  · by_cases h1 : 20 ≤ k
    · go_enter Tryd.func131, Tryd.ntmps131
      go_wp2
      go_ret
      exact ⟨ret_int (by rw [ofI, if_pos (Or.inr h1)]), rfl⟩
    · rcases lits h0 h1 with rfl | rfl | rfl | rfl | rfl | rfl | rfl | rfl | rfl | rfl | rfl | rfl | rfl | rfl | rfl | rfl | rfl | rfl | rfl | rfl
      all_goals
        clear h0 h1
        go_enter Tryd.func131, Tryd.ntmps131
        go_wp2
        go_ret
        exact ⟨rfl, rfl⟩

end Go.Proofs.YtgidnmjeifgciaaDoor
