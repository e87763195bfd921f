/- Facts on multiples. -/
import Derived.Test.YtmcmlplbdepooaaDoorNumD
namespace Go.Proofs.YtmcmlplbdepooaaDoor
open Go.RowKit
set_option linter.unusedVariables false

theorem mult_facts (x s : Int) (h0 : 0 ≤ x) (h1 : x < 16777216) (s0 : 1 ≤ s) (s1 : s < 65536) :
    downI x s % s = 0 ∧ 0 ≤ downI x s ∧ downI x s ≤ x ∧ x - downI x s < s ∧ upI x s % s = 0 ∧ x ≤ upI x s ∧ upI x s - x < s ∧ partsI x s * s = upI x s ∧ 0 ≤ partsI x s ∧ partsI x s ≤ x := by
  have e := Int.emod_add_mul_ediv x s
  have r0 : 0 ≤ x % s := Int.emod_nonneg _ (by omega)
  have r1 : x % s < s := Int.emod_lt_of_pos _ (by omega)
  have q0 : 0 ≤ x / s := Int.ediv_nonneg h0 (by omega)
  have hd : downI x s = s * (x / s) := by rw [downI, if_neg (by omega)]; omega
  have hu : upI x s = if x % s = 0 then s * (x / s) else s * (x / s + 1) := by
    rw [upI, if_neg (by omega)]
    split
    · omega
    · rw [if_neg (by omega), Int.mul_add]; omega
  have hp : partsI x s * s = upI x s := by
    rw [hu, partsI]
    by_cases hx : x < 1
    · have : x = 0 := by omega
      subst this
      simp
    · rw [if_neg (by omega)]
      by_cases hr : x % s = 0
      · rw [if_pos hr]
        have : x - 1 = (s - 1) + (x / s - 1) * s := by rw [Int.sub_mul, Int.mul_comm]; omega
        rw [this, Int.add_mul_ediv_right _ _ (by omega), Int.ediv_eq_zero_of_lt (by omega) (by omega)]
        rw [Int.zero_add, Int.sub_add_cancel, Int.mul_comm]
      · rw [if_neg hr]
        have : x - 1 = (x % s - 1) + (x / s) * s := by rw [Int.mul_comm]; omega
        rw [this, Int.add_mul_ediv_right _ _ (by omega), Int.ediv_eq_zero_of_lt (by omega) (by omega)]
        rw [Int.zero_add, Int.mul_comm]
  refine ⟨by rw [hd]; exact Int.mul_emod_right _ _, by rw [hd]; exact Int.mul_nonneg (by omega) q0, by omega, by omega, ?_, ?_, ?_, hp, ?_, ?_⟩
  · rw [hu]; split <;> exact Int.mul_emod_right _ _
  · rw [hu]; split
    · omega
    · rw [Int.mul_add]; omega
  · rw [hu]; split
    · omega
    · rw [Int.mul_add]; omega
  · rw [partsI]; split
    · omega
    · have := Int.ediv_nonneg (show 0 ≤ x - 1 by omega) (show 0 ≤ s by omega); omega
  · rw [partsI]; split
    · omega
    · have := Int.ediv_le_self s (show 0 ≤ x - 1 by omega); omega

theorem down_low {n s : Int} (h : n < 0 ∨ s < 1) : downI n s = 0 := by rw [downI, if_pos h]
theorem up_low {n s : Int} (h : n < 0 ∨ s < 1) : upI n s = 0 := by rw [upI, if_pos h]
theorem parts_low {n s : Int} (h : n < 1 ∨ s < 1) : partsI n s = 0 := by rw [partsI, if_pos h]

end Go.Proofs.YtmcmlplbdepooaaDoor
