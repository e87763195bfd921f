/- ClassF. -/
import Derived.Test.YtanmmhbnjmglhaaZ07
namespace Go.Proofs.Ytanmmhbnjmglhaa
open Go.RowKit
set_option linter.unusedVariables false
def sizesO : Obj := .cells #[.int .i64 16, .int .i64 32, .int .i64 48, .int .i64 64, .int .i64 80, .int .i64 96, .int .i64 112, .int .i64 128, .int .i64 160, .int .i64 192, .int .i64 224, .int .i64 256, .int .i64 320, .int .i64 384, .int .i64 448, .int .i64 512, .int .i64 640, .int .i64 768, .int .i64 896, .int .i64 1024] 3
theorem sizes_cell (w : World) (j : Nat) (h : j < 20) : (w.alloc sizesO).cell? ⟨w.heap.size, j, none⟩ = some (.int .i64 (ofI j)) := by
  unfold sizesO
  rw [World.cell?_alloc_mark]
  have : j = 0 ∨ j = 1 ∨ j = 2 ∨ j = 3 ∨ j = 4 ∨ j = 5 ∨ j = 6 ∨ j = 7 ∨ j = 8 ∨ j = 9 ∨ j = 10 ∨ j = 11 ∨ j = 12 ∨ j = 13 ∨ j = 14 ∨ j = 15 ∨ j = 16 ∨ j = 17 ∨ j = 18 ∨ j = 19 := by omega
  rcases this with rfl | rfl | rfl | rfl | rfl | rfl | rfl | rfl | rfl | rfl | rfl | rfl | rfl | rfl | rfl | rfl | rfl | rfl | rfl | rfl <;> rfl
theorem sizes_any (w : World) :
    Calls Try.prog 71 #[] w fun e w' => e = .returned (.slice (some ⟨w.heap.size, 0, none⟩) 20 20) ∧ w.alloc sizesO = w' := by
  go_enter Try.func71, Try.ntmps71
  go_wp2
  go_ret
  exact ⟨rfl, rfl⟩
theorem rfor_any (n : Int) (w : World) (hn : -9223372036854775808 ≤ n ∧ n ≤ 9223372036854775807) :
    Calls Try.prog 70 #[.int .i64 n] w fun e w' => e = .returned (.int .i64 (forI n)) ∧ Below w.heap.size w w' := by
  have hb := alc0 w sizesO
  go_enter Try.func70, Try.ntmps70
  go_wp2_with fail
  refine (sizes_any _).mono ?_
  rintro e w1 ⟨rfl, hw⟩
  have hcell := sizes_cell w
  rw [hw] at hcell hb
  clear hw
  by_cases h0 : n < 1
  · have hd : decide (n ≥ 1) = false := by simp; omega
    go_wp2_with fail
    go_loop [4] (fun i => i = .int .i64 0) (fun _ => 0)
    case atStart => rfl
    case round =>
      subst hrel
      go_wp2
      go_ret
      exact ⟨ret_int (by rw [forI, if_pos h0]), hb⟩
  · go_wp2_with fail
    go_loop [4] (fun i => ∃ k : Nat, k ≤ 20 ∧ i = .int .i64 k ∧ firstGe ofL n 0 = firstGe (ofL.drop k) n k) (fun i => 20 - (intOf i).toNat)
    case atStart => exact ⟨0, by omega, rfl, rfl⟩
    case round =>
      obtain ⟨k, hk, rfl, hf⟩ := hrel
      have HF := Lib.hid hf; clear hf
      by_cases hlt : k < 20
      · have hck := hcell k hlt
        clear hcell
        go_wp2
        · have h2 : n ≤ ofI k := by assumption
          go_ret
          exact ⟨ret_int (by rw [forI, if_neg (show ¬ n < 1 by omega), HF.out, firstGe_hit hlt h2]), hb⟩
        · have h2 : ofI k < n := by assumption
          exact ⟨⟨k + 1, by omega, by go_num, by rw [HF.out, firstGe_miss hlt h2]⟩, by simp [intOf]; omega⟩
      · obtain rfl : k = 20 := by omega
        clear hcell
        go_wp2
        go_ret
        exact ⟨ret_int (by rw [forI, if_neg (show ¬ n < 1 by omega), HF.out]; rfl), hb⟩
theorem forI_none {n : Int} : forI n = -1 ↔ n < 1 ∨ 1024 < n := by
  constructor
  · intro h
    by_cases h1 : n < 1
    · exact .inl h1
    · by_cases h2 : 1024 < n
      · exact .inr h2
      · have := (tight (x := n) (by omega) (by omega)).1
        omega
  · intro h
    rcases h with h | h
    · rw [forI, if_pos h]
    · rw [forI, if_neg (by omega)]
      have all : ∀ l : List Int, (∀ x ∈ l, x ≤ 1024) → ∀ i, firstGe l n i = -1 := by
        intro l
        induction l with
        | nil => intro _ i; rfl
        | cons x xs ih =>
          intro hl i
          rw [firstGe, if_neg (by have := hl x (by simp); omega)]
          exact ih (fun y hy => hl y (by simp [hy])) _
      exact all ofL (by decide) 0
end Go.Proofs.Ytanmmhbnjmglhaa
