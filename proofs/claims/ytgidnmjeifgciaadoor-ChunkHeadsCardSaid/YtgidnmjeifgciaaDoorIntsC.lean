/- slices.Index, slices.Contains of ints. -/
import Derived.Test.YtgidnmjeifgciaaDoorRows
import Derived.Test.YtgidnmjeifgciaaDoorInt
import Derived.Test.YtgidnmjeifgciaaDoorInts0
import Derived.WalkKit
import Derived.ProofKit
import Derived.OpenShut
import Derived.WalkLawsBesides
import Derived.WalkSpells
import Derived.Lib.Hide
namespace Go.Proofs.YtgidnmjeifgciaaDoor
set_option maxRecDepth 100000
open Go.RowKit
set_option linter.unusedVariables false

/-- Where an element is first, from the k-th on; -1. -/
def idxI : List Int → Int → Int → Int
  | [], _, _ => -1
  | x :: xs, v, i => if v = x then i else idxI xs v (i + 1)
theorem idx_nonneg (l : List Int) (v : Int) (i : Int) (hi : 0 ≤ i) : (0 ≤ idxI l v i) ↔ v ∈ l := by
  induction l generalizing i with
  | nil => simp [idxI]
  | cons x xs ih =>
    rw [idxI]
    split
    · rename_i h; simp [h, hi]
    · rename_i h; rw [ih (i + 1) (by omega)]; simp [h]
theorem idx_drop {l : List Int} {k : Nat} (h : k < l.length) : l.drop k = l.getD k 0 :: l.drop (k + 1) := by
  rw [List.drop_eq_getElem_cons h]
  simp [List.getD, List.getElem?_eq_getElem h]

theorem index_any (a : Option Addr) (len cap : Nat) (zs : List Int) (v : Int) (w : World) (h : Ints .i64 w a len zs) :
    Calls Tryd.prog 153 #[.slice a len cap, .int .i64 v] w fun e w' => e = .returned (.int .i64 (idxI zs v 0)) ∧ w = w' := by
  obtain ⟨hl, h⟩ := h
  rcases h with h | ⟨b, off, rfl, hlt, hm, hc⟩
  · subst h
    obtain rfl : zs = [] := List.length_eq_zero_iff.1 hl
    go_enter Tryd.func153, Tryd.ntmps153
    go_wp2_with fail
    go_loop [8] (fun i => i = .int .i64 0) (fun _ => 0)
    case atStart => rfl
    case round =>
      subst hrel
      go_wp2
      go_ret
      exact ⟨rfl, rfl⟩
  · clear hlt
    have HL := Lib.hid hl; clear hl
    go_enter Tryd.func153, Tryd.ntmps153
    go_wp2_with fail
    go_loop [8] (fun i => ∃ k : Nat, k ≤ len ∧ i = .int .i64 k ∧ idxI zs v 0 = idxI (zs.drop k) v k) (fun i => len - (intOf i).toNat)
    case atStart => exact ⟨0, by omega, rfl, rfl⟩
    case round =>
      obtain ⟨k, hk, rfl, hf⟩ := hrel
      by_cases hlt : k < len
      · have hck := hc k hlt
        clear hc
        rw [idx_drop (by have := HL.out; omega), idxI] at hf
        generalize zs.getD k 0 = x at *
        by_cases he : v = x
        · rw [if_pos he] at hf
          have HF := Lib.hid hf; clear hf
          have he2 : (v == x) = true := by simpa using he
          clear he
          go_wp2
          go_ret
          exact ⟨ret_int HF.out.symm, rfl⟩
        · rw [if_neg he] at hf
          have HF := Lib.hid hf; clear hf
          have he2 : (v == x) = false := by simpa using he
          clear he
          go_wp2
          exact ⟨⟨k + 1, by omega, by go_num, by rw [HF.out]; rfl⟩, by simp [intOf]; omega⟩
      · obtain rfl : k = len := by omega
        clear hc
        rw [List.drop_of_length_le (by have := HL.out; omega), idxI] at hf
        have HF := Lib.hid hf; clear hf
        go_wp2
        go_ret
        exact ⟨ret_int HF.out.symm, rfl⟩

theorem contains_any (a : Option Addr) (len cap : Nat) (zs : List Int) (v : Int) (w : World) (h : Ints .i64 w a len zs) :
    Calls Tryd.prog 150 #[.slice a len cap, .int .i64 v] w fun e w' => e = .returned (.bool (decide (v ∈ zs))) ∧ w = w' := by
  have HI := Lib.hid h; clear h
  go_enter Tryd.func150, Tryd.ntmps150
  go_wp2_with fail
  refine (index_any _ _ _ _ _ _ HI.out).mono ?_
  rintro e w' ⟨rfl, rfl⟩
  go_wp2
  go_ret
  exact ⟨ret_bool (by rw [decide_eq_decide]; exact idx_nonneg zs v 0 (by omega)), rfl⟩
end Go.Proofs.YtgidnmjeifgciaaDoor
