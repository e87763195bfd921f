/- Class. -/
import Derived.Test.YtanmmhbnjmglhaaRows
import Derived.Test.YtanmmhbnjmglhaaZ01
import Derived.WalkKit
import Derived.ProofKit
import Derived.OpenShut
import Derived.WalkLawsBesides
import Derived.WalkSpells
import Derived.Deep.QuietTactic
import Derived.BigQuiet
import Derived.Lib.Hide
namespace Go.Proofs.Ytanmmhbnjmglhaa
open Go.RowKit
def ofL : List Int := [16, 32, 48, 64, 80, 96, 112, 128, 160, 192, 224, 256, 320, 384, 448, 512, 640, 768, 896, 1024]
def ofI (k : Int) : Int := if k < 0 ∨ 20 ≤ k then 0 else ofL.getD k.toNat 0
theorem lits {k : Int} (h0 : ¬ k < 0) (h1 : ¬ 20 ≤ k) : k = 0 ∨ k = 1 ∨ k = 2 ∨ k = 3 ∨ k = 4 ∨ k = 5 ∨ k = 6 ∨ k = 7 ∨ k = 8 ∨ k = 9 ∨ k = 10 ∨ k = 11 ∨ k = 12 ∨ k = 13 ∨ k = 14 ∨ k = 15 ∨ k = 16 ∨ k = 17 ∨ k = 18 ∨ k = 19 := by omega
theorem ofI_bd (k : Int) : 0 ≤ ofI k ∧ ofI k ≤ 1024 := by
  unfold ofI
  split
  · omega
  · rename_i h
    rcases lits (k := k) (by omega) (by omega) with rfl | rfl | rfl | rfl | rfl | rfl | rfl | rfl | rfl | rfl | rfl | rfl | rfl | rfl | rfl | rfl | rfl | rfl | rfl | rfl <;> decide
theorem of_any (k : Int) (w : World) :
    Calls Try.prog 66 #[.int .i64 k] w fun e w' => e = .returned (.int .i64 (ofI k)) ∧ w = w' := by
  by_cases h0 : k < 0
  · go_enter Try.func66, Try.ntmps66
    go_wp2
    go_ret
    exact ⟨ret_int (by rw [ofI, if_pos (Or.inl h0)]), rfl⟩
  · by_cases h1 : 20 ≤ k
    · go_enter Try.func66, Try.ntmps66
      go_wp2
      go_ret
      exact ⟨ret_int (by rw [ofI, if_pos (Or.inr h1)]), rfl⟩
    · rcases lits h0 h1 with rfl | rfl | rfl | rfl | rfl | rfl | rfl | rfl | rfl | rfl | rfl | rfl | rfl | rfl | rfl | rfl | rfl | rfl | rfl | rfl
      all_goals
        clear h0 h1
        go_enter Try.func66, Try.ntmps66
        go_wp2
        go_ret
        exact ⟨rfl, rfl⟩
def firstGe : List Int → Int → Int → Int
  | [], _, _ => -1
  | x :: xs, n, i => if n ≤ x then i else firstGe xs n (i + 1)
def forI (n : Int) : Int := if n < 1 then -1 else firstGe ofL n 0
theorem drop_of {k : Nat} (h : k < 20) : ofL.drop k = ofI k :: ofL.drop (k + 1) := by
  have : k = 0 ∨ k = 1 ∨ k = 2 ∨ k = 3 ∨ k = 4 ∨ k = 5 ∨ k = 6 ∨ k = 7 ∨ k = 8 ∨ k = 9 ∨ k = 10 ∨ k = 11 ∨ k = 12 ∨ k = 13 ∨ k = 14 ∨ k = 15 ∨ k = 16 ∨ k = 17 ∨ k = 18 ∨ k = 19 := by omega
  rcases this with rfl | rfl | rfl | rfl | rfl | rfl | rfl | rfl | rfl | rfl | rfl | rfl | rfl | rfl | rfl | rfl | rfl | rfl | rfl | rfl <;> rfl
theorem firstGe_hit {n : Int} {k : Nat} (h : k < 20) (hn : n ≤ ofI k) : firstGe (ofL.drop k) n k = k := by
  rw [drop_of h, firstGe, if_pos hn]
theorem firstGe_miss {n : Int} {k : Nat} (h : k < 20) (hn : ofI k < n) : firstGe (ofL.drop k) n k = firstGe (ofL.drop (k + 1)) n ((k + 1 : Nat) : Int) := by
  rw [drop_of h, firstGe, if_neg (by omega)]; rfl
theorem for_any (n : Int) (w : World) (hn : -9223372036854775808 ≤ n ∧ n ≤ 9223372036854775807) :
    Calls Try.prog 67 #[.int .i64 n] w fun e w' => e = .returned (.int .i64 (forI n)) ∧ w = w' := by
  by_cases h0 : n < 1
  · go_enter Try.func67, Try.ntmps67
    go_wp2
    go_ret
    exact ⟨ret_int (by rw [forI, if_pos h0]), rfl⟩
  · go_enter Try.func67, Try.ntmps67
    go_wp2_with fail
    go_loop [6] (fun i => ∃ k : Nat, k ≤ 20 ∧ i = .int .i64 k ∧ firstGe ofL n 0 = firstGe (ofL.drop k) n k) (fun i => 20 - (intOf i).toNat)
    case atStart => exact ⟨0, by omega, rfl, rfl⟩
    case round =>
      obtain ⟨k, hk, rfl, hf⟩ := hrel
      have HF := Lib.hid hf; clear hf
      go_wp2_with (go_at_call 66; refine (of_any _ _).mono ?_; rintro e w' ⟨rfl, rfl⟩)
      · have h1 : k < 20 := by have : (k : Int) < 20 := by assumption
                               omega
        have h2 : n ≤ ofI k := by assumption
        go_ret
        exact ⟨ret_int (by rw [forI, if_neg (show ¬ n < 1 by omega), HF.out, firstGe_hit h1 h2]), rfl⟩
      · have h1 : k < 20 := by have : (k : Int) < 20 := by assumption
                               omega
        have h2 : ofI k < n := by assumption
        exact ⟨⟨k + 1, by omega, by go_num, by rw [HF.out, firstGe_miss h1 h2]⟩, by simp [intOf]; omega⟩
      · have h1 : (20 : Int) ≤ k := by assumption
        obtain rfl : k = 20 := by omega
        go_ret
        exact ⟨ret_int (by rw [forI, if_neg (show ¬ n < 1 by omega), HF.out]; rfl), rfl⟩
/-- The class of x is the least that will do, and is not much greater. -/
theorem tight {x : Int} (h1 : 1 ≤ x) (h2 : x ≤ 1024) : 0 ≤ forI x ∧ forI x < 20 ∧ x ≤ ofI (forI x) ∧ (forI x ≠ 0 → ofI (forI x - 1) < x) ∧ (x ≤ 128 → ofI (forI x) - x < 16) ∧ (128 < x → 4 * (ofI (forI x) - x) < x) := by
  have key : ∀ k : Nat, k < 20 → x ≤ ofI k → (k ≠ 0 → ofI ((k : Int) - 1) < x) → forI x = k := by
    intro k hk hle hlt
    have miss : ∀ j : Nat, j ≤ k → firstGe ofL x 0 = firstGe (ofL.drop j) x j := by
      intro j
      induction j with
      | zero => intro _; rfl
      | succ j ih =>
        intro hj
        rw [ih (by omega)]
        refine firstGe_miss (by omega) ?_
        have mono : ofI (j : Int) ≤ ofI ((k : Int) - 1) := by
          have e : ((k : Int) - 1) = ((k - 1 : Nat) : Int) := by omega
          rw [e]
          have all : ∀ a : Fin 20, ∀ b : Fin 20, a.val ≤ b.val → ofI (a.val : Int) ≤ ofI (b.val : Int) := by decide
          exact all ⟨j, by omega⟩ ⟨k - 1, by omega⟩ (by simp; omega)
        have := hlt (by omega)
        omega
    rw [forI, if_neg (by omega), miss k (Nat.le_refl _), firstGe_hit hk hle]
  have ex : ∃ k : Nat, k < 20 ∧ x ≤ ofI k ∧ (k ≠ 0 → ofI ((k : Int) - 1) < x) ∧ (x ≤ 128 → ofI k - x < 16) ∧ (128 < x → 4 * (ofI k - x) < x) := by
    have v0 : ofI 0 = 16 := rfl
    have v1 : ofI 1 = 32 := rfl
    have v2 : ofI 2 = 48 := rfl
    have v3 : ofI 3 = 64 := rfl
    have v4 : ofI 4 = 80 := rfl
    have v5 : ofI 5 = 96 := rfl
    have v6 : ofI 6 = 112 := rfl
    have v7 : ofI 7 = 128 := rfl
    have v8 : ofI 8 = 160 := rfl
    have v9 : ofI 9 = 192 := rfl
    have v10 : ofI 10 = 224 := rfl
    have v11 : ofI 11 = 256 := rfl
    have v12 : ofI 12 = 320 := rfl
    have v13 : ofI 13 = 384 := rfl
    have v14 : ofI 14 = 448 := rfl
    have v15 : ofI 15 = 512 := rfl
    have v16 : ofI 16 = 640 := rfl
    have v17 : ofI 17 = 768 := rfl
    have v18 : ofI 18 = 896 := rfl
    have v19 : ofI 19 = 1024 := rfl
    have sp : x ≤ 16 ∨ (16 < x ∧ x ≤ 32) ∨ (32 < x ∧ x ≤ 48) ∨ (48 < x ∧ x ≤ 64) ∨ (64 < x ∧ x ≤ 80) ∨ (80 < x ∧ x ≤ 96) ∨ (96 < x ∧ x ≤ 112) ∨ (112 < x ∧ x ≤ 128) ∨ (128 < x ∧ x ≤ 160) ∨ (160 < x ∧ x ≤ 192) ∨ (192 < x ∧ x ≤ 224) ∨ (224 < x ∧ x ≤ 256) ∨ (256 < x ∧ x ≤ 320) ∨ (320 < x ∧ x ≤ 384) ∨ (384 < x ∧ x ≤ 448) ∨ (448 < x ∧ x ≤ 512) ∨ (512 < x ∧ x ≤ 640) ∨ (640 < x ∧ x ≤ 768) ∨ (768 < x ∧ x ≤ 896) ∨ (896 < x ∧ x ≤ 1024) := by omega
    rcases sp with h | h | h | h | h | h | h | h | h | h | h | h | h | h | h | h | h | h | h | h
    · exact ⟨0, by omega, by simp [v0]; omega, by simp, by simp [v0]; omega, by omega⟩
    · exact ⟨1, by omega, by simp [v1]; omega, by simp [v0]; omega, by simp [v1]; omega, by omega⟩
    · exact ⟨2, by omega, by simp [v2]; omega, by simp [v1]; omega, by simp [v2]; omega, by omega⟩
    · exact ⟨3, by omega, by simp [v3]; omega, by simp [v2]; omega, by simp [v3]; omega, by omega⟩
    · exact ⟨4, by omega, by simp [v4]; omega, by simp [v3]; omega, by simp [v4]; omega, by omega⟩
    · exact ⟨5, by omega, by simp [v5]; omega, by simp [v4]; omega, by simp [v5]; omega, by omega⟩
    · exact ⟨6, by omega, by simp [v6]; omega, by simp [v5]; omega, by simp [v6]; omega, by omega⟩
    · exact ⟨7, by omega, by simp [v7]; omega, by simp [v6]; omega, by simp [v7]; omega, by omega⟩
    · exact ⟨8, by omega, by simp [v8]; omega, by simp [v7]; omega, by omega, by simp [v8]; omega⟩
    · exact ⟨9, by omega, by simp [v9]; omega, by simp [v8]; omega, by omega, by simp [v9]; omega⟩
    · exact ⟨10, by omega, by simp [v10]; omega, by simp [v9]; omega, by omega, by simp [v10]; omega⟩
    · exact ⟨11, by omega, by simp [v11]; omega, by simp [v10]; omega, by omega, by simp [v11]; omega⟩
    · exact ⟨12, by omega, by simp [v12]; omega, by simp [v11]; omega, by omega, by simp [v12]; omega⟩
    · exact ⟨13, by omega, by simp [v13]; omega, by simp [v12]; omega, by omega, by simp [v13]; omega⟩
    · exact ⟨14, by omega, by simp [v14]; omega, by simp [v13]; omega, by omega, by simp [v14]; omega⟩
    · exact ⟨15, by omega, by simp [v15]; omega, by simp [v14]; omega, by omega, by simp [v15]; omega⟩
    · exact ⟨16, by omega, by simp [v16]; omega, by simp [v15]; omega, by omega, by simp [v16]; omega⟩
    · exact ⟨17, by omega, by simp [v17]; omega, by simp [v16]; omega, by omega, by simp [v17]; omega⟩
    · exact ⟨18, by omega, by simp [v18]; omega, by simp [v17]; omega, by omega, by simp [v18]; omega⟩
    · exact ⟨19, by omega, by simp [v19]; omega, by simp [v18]; omega, by omega, by simp [v19]; omega⟩
  obtain ⟨k, hk, a, b, c, d⟩ := ex
  rw [key k hk a b]
  exact ⟨by omega, by omega, a, fun h => b (by omega), c, d⟩
end Go.Proofs.Ytanmmhbnjmglhaa
