/- Contracts of package class: Of, Block, Fit; the sizes. -/
import Derived.Test.YtapkennnhnajnaaRows
import Derived.Test.YtapkennnhnajnaaInt
import Derived.WalkKit
import Derived.ProofKit
import Derived.OpenShut
import Derived.WalkLawsBesides
import Derived.WalkSpells
import Derived.Deep.QuietTactic
import Derived.BigQuiet
import Derived.Lib.Hide
namespace Go.Proofs.Ytapkennnhnajnaa
open Go.RowKit

def ofL : List Int := [16, 32, 48, 64, 80, 96, 112, 128, 160, 192, 224, 256, 320, 384, 448, 512, 640, 768, 896, 1024]
def ofI (k : Int) : Int := if k < 0 ∨ 20 ≤ k then 0 else ofL.getD k.toNat 0
theorem lits {k : Int} (h0 : ¬ k < 0) (h1 : ¬ 20 ≤ k) : k = 0 ∨ k = 1 ∨ k = 2 ∨ k = 3 ∨ k = 4 ∨ k = 5 ∨ k = 6 ∨ k = 7 ∨ k = 8 ∨ k = 9 ∨ k = 10 ∨ k = 11 ∨ k = 12 ∨ k = 13 ∨ k = 14 ∨ k = 15 ∨ k = 16 ∨ k = 17 ∨ k = 18 ∨ k = 19 := by omega
theorem ofI_bd (k : Int) : 0 ≤ ofI k ∧ ofI k ≤ 1024 := by
  unfold ofI
  split
  · omega
  · rename_i h
    rcases lits (k := k) (by omega) (by omega) with rfl | rfl | rfl | rfl | rfl | rfl | rfl | rfl | rfl | rfl | rfl | rfl | rfl | rfl | rfl | rfl | rfl | rfl | rfl | rfl <;> decide

theorem of_any (k : Int) (w : World) :
    Calls Try.prog 17 #[.int .i64 k] w fun e w' => e = .returned (.int .i64 (ofI k)) ∧ w = w' := by
  by_cases h0 : k < 0
  · go_enter Try.func17, Try.ntmps17
    go_wp2
    go_ret
    exact ⟨ret_int (by rw [ofI, if_pos (Or.inl h0)]), rfl⟩
  · by_cases h1 : 20 ≤ k
    · go_enter Try.func17, Try.ntmps17
      go_wp2
      go_ret
      exact ⟨ret_int (by rw [ofI, if_pos (Or.inr h1)]), rfl⟩
    · rcases lits h0 h1 with rfl | rfl | rfl | rfl | rfl | rfl | rfl | rfl | rfl | rfl | rfl | rfl | rfl | rfl | rfl | rfl | rfl | rfl | rfl | rfl
      all_goals
        clear h0 h1
        go_enter Try.func17, Try.ntmps17
        go_wp2
        go_ret
        exact ⟨rfl, rfl⟩

def blockI (k : Int) : Int := if ofI k = 0 then 0 else ofI k + 16
theorem block_any (k : Int) (w : World) :
    Calls Try.prog 18 #[.int .i64 k] w fun e w' => e = .returned (.int .i64 (blockI k)) ∧ w = w' := by
  have hb := ofI_bd k
  by_cases h : ofI k = 0
  · have h' : (ofI k == 0) = true := by simpa using h
    have H := Lib.hid h; clear h
    go_enter Try.func18, Try.ntmps18
    go_wp2_with (go_at_call 17; refine (of_any _ _).mono ?_; rintro e w' ⟨rfl, rfl⟩)
    go_ret
    exact ⟨ret_int (by rw [blockI, if_pos H.out]), rfl⟩
  · have h' : (ofI k == 0) = false := by simpa using h
    go_enter Try.func18, Try.ntmps18
    go_wp2_with (go_at_call 17; refine (of_any _ _).mono ?_; rintro e w' ⟨rfl, rfl⟩)
    go_ret
    exact ⟨ret_int (by rw [blockI, if_neg h]), rfl⟩
def fitI (k p : Int) : Int := if ofI k = 0 ∨ p < 1 ∨ 1024 < p then 0 else p * 256 / blockI k

theorem fit_any (k p : Int) (w : World) :
    Calls Try.prog 16 #[.int .i64 k, .int .i64 p] w fun e w' => e = .returned (.int .i64 (fitI k p)) ∧ w = w' := by
  have hb := ofI_bd k
  by_cases h : ofI k = 0
  · have h' : (ofI k == 0) = true := by simpa using h
    have H := Lib.hid h; clear h
    go_enter Try.func16, Try.ntmps16
    go_wp2_with (go_at_call 17; refine (of_any _ _).mono ?_; rintro e w' ⟨rfl, rfl⟩)
    go_ret
    exact ⟨ret_int (by rw [fitI, if_pos (Or.inl H.out)]), rfl⟩
  · by_cases h2 : p < 1 ∨ 1024 < p
    · have h' : (ofI k == 0) = false := by simpa using h
      go_enter Try.func16, Try.ntmps16
      go_wp2_with (go_at_call 17; refine (of_any _ _).mono ?_; rintro e w' ⟨rfl, rfl⟩)
      all_goals
        go_ret
        exact ⟨ret_int (by rw [fitI, if_pos (Or.inr h2)]), rfl⟩
    · have h' : (ofI k == 0) = false := by simpa using h
      have hbl : 1 ≤ blockI k := by rw [blockI, if_neg h]; omega
      have hne : ¬ blockI k = 0 := by omega
      go_enter Try.func16, Try.ntmps16
      go_wp2_with (first | (go_at_call 17; refine (of_any _ _).mono ?_; rintro e w' ⟨rfl, rfl⟩) | (go_at_call 18; refine (block_any _ _).mono ?_; rintro e w' ⟨rfl, rfl⟩))
      all_goals
        go_ret
        exact ⟨ret_int (by rw [fitI, if_neg (by omega)]), rfl⟩
def sizesO : Obj := .cells #[.int .i64 16, .int .i64 32, .int .i64 48, .int .i64 64, .int .i64 80, .int .i64 96, .int .i64 112, .int .i64 128, .int .i64 160, .int .i64 192, .int .i64 224, .int .i64 256, .int .i64 320, .int .i64 384, .int .i64 448, .int .i64 512, .int .i64 640, .int .i64 768, .int .i64 896, .int .i64 1024] 3
theorem sizes_cell (w : World) (j : Nat) (h : j < 20) : (w.alloc sizesO).cell? ⟨w.heap.size, j, none⟩ = some (.int .i64 (ofI j)) := by
  unfold sizesO
  rw [World.cell?_alloc_mark]
  have : j = 0 ∨ j = 1 ∨ j = 2 ∨ j = 3 ∨ j = 4 ∨ j = 5 ∨ j = 6 ∨ j = 7 ∨ j = 8 ∨ j = 9 ∨ j = 10 ∨ j = 11 ∨ j = 12 ∨ j = 13 ∨ j = 14 ∨ j = 15 ∨ j = 16 ∨ j = 17 ∨ j = 18 ∨ j = 19 := by omega
  rcases this with rfl | rfl | rfl | rfl | rfl | rfl | rfl | rfl | rfl | rfl | rfl | rfl | rfl | rfl | rfl | rfl | rfl | rfl | rfl | rfl <;> rfl

theorem sizes_any (w : World) :
    Calls Try.prog 10 #[] w fun e w' => e = .returned (.slice (some ⟨w.heap.size, 0, none⟩) 20 20) ∧ w.alloc sizesO = w' := by
  go_enter Try.func10, Try.ntmps10
  go_wp2
  go_ret
  exact ⟨rfl, rfl⟩
theorem ofI_pos {k : Nat} (h : k < 20) : 16 ≤ ofI k := by
  have all : ∀ a : Fin 20, 16 ≤ ofI (a.val : Int) := by decide
  exact all ⟨k, h⟩
end Go.Proofs.Ytapkennnhnajnaa
