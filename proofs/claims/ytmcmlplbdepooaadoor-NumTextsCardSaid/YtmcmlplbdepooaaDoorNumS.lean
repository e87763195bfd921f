/- num.Sum. -/
import Derived.Test.YtmcmlplbdepooaaDoorNumD
import Derived.Test.YtmcmlplbdepooaaDoorRow
import Derived.Test.YtmcmlplbdepooaaDoorNumI
namespace Go.Proofs.YtmcmlplbdepooaaDoor
open Go.RowKit
set_option linter.unusedVariables false

def sumF (most : Int) : Int → List Int → Option Int
  | s, [] => some s
  | s, n :: r => if n < 0 ∨ most - s < n then none else sumF most (s + n) r
theorem sumF_hit {most s : Int} {l : List Int} {k : Nat} (h : k < l.length) (h1 : l.getD k 0 < 0 ∨ most - s < l.getD k 0) : sumF most s (l.drop k) = none := by
  rw [idx_drop h, sumF, if_pos h1]
theorem sumF_go {most s : Int} {l : List Int} {k : Nat} (h : k < l.length) (h1 : ¬ (l.getD k 0 < 0 ∨ most - s < l.getD k 0)) : sumF most s (l.drop k) = sumF most (s + l.getD k 0) (l.drop (k + 1)) := by
  rw [idx_drop h, sumF, if_neg h1]

theorem ret_two {a b : Value} {c d : Value} (h1 : a = c) (h2 : b = d) : (Go.Ending.returned (.tuple #[a, b])) = .returned (.tuple #[c, d]) := by rw [h1, h2]

set_option maxHeartbeats 800000 in
theorem sum_any (most : Int) (a : Option Addr) (len cap : Nat) (zs : List Int) (w : World) (m0 : 0 ≤ most) (m1 : most ≤ 9223372036854775807) (h : Ints .i64 w a len zs) :
    Calls Tryd.prog 17 #[.int .i64 most, .slice a len cap] w fun e w' => e = .returned (.tuple #[.int .i64 ((sumF most 0 zs).getD 0), .bool (sumF most 0 zs).isSome]) ∧ w = w' := by
  obtain ⟨hl, h⟩ := h
  rcases h with h | ⟨b, off, rfl, hlt, hm, hc⟩
  · subst h
    obtain rfl : zs = [] := List.length_eq_zero_iff.1 hl
    go_enter Tryd.func17, Tryd.ntmps17
    go_wp2_with fail
    go_loop [6, 13] (fun s i => s = .int .i64 0 ∧ i = .int .i64 0) (fun _ _ => 0)
    case atStart => exact ⟨rfl, rfl⟩
    case round =>
      obtain ⟨rfl, rfl⟩ := hrel
      go_wp2
      go_ret2
      exact ⟨ret_two rfl rfl, rfl⟩
  · go_enter Tryd.func17, Tryd.ntmps17
    go_wp2_with fail
    go_loop [6, 13] (fun v i => ∃ k : Nat, ∃ s : Int, k ≤ len ∧ i = .int .i64 k ∧ v = .int .i64 s ∧ 0 ≤ s ∧ s ≤ most ∧ sumF most 0 zs = sumF most s (zs.drop k)) (fun _ i => len - (intOf i).toNat)
    case atStart => exact ⟨0, 0, by omega, rfl, rfl, by omega, by omega, rfl⟩
    case round =>
      obtain ⟨k, s, hk, rfl, rfl, s0, s1, hf⟩ := hrel
      have HF := Lib.hid hf; clear hf
      by_cases hlt2 : k < len
      · have hck := hc k hlt2
        have hit := @sumF_hit most s zs k (by omega)
        have next := @sumF_go most s zs k (by omega)
        have HI := Lib.hid hit; clear hit
        have HN := Lib.hid next; clear next
        have HC := Lib.hid hc; clear hc
        generalize zs.getD k 0 = z at *
        by_cases c1 : z < 0
        · have HIT := Lib.hid (HF.out.trans (HI.out (.inl c1))); clear HF HI HN
          go_wp2
          go_ret2
          exact ⟨ret_two (by rw [HIT.out]; rfl) (by rw [HIT.out]; rfl), rfl⟩
        · by_cases c2 : most - s < z
          · have HIT := Lib.hid (HF.out.trans (HI.out (.inr c2))); clear HF HI HN
            go_wp2
            go_ret2
            exact ⟨ret_two (by rw [HIT.out]; rfl) (by rw [HIT.out]; rfl), rfl⟩
          · have HNX := Lib.hid (HF.out.trans (HN.out (by omega))); clear HF HI HN
            go_wp2
            exact ⟨⟨k + 1, s + z, by omega, by go_num, rfl, by omega, by omega, HNX.out⟩, by simp [intOf]; omega⟩
      · obtain rfl : k = len := by omega
        have hd : zs.drop k = [] := List.drop_eq_nil_of_le (by omega)
        rw [hd] at HF
        go_wp2
        go_ret2
        exact ⟨ret_two (by rw [HF.out]; rfl) (by rw [HF.out]; rfl), rfl⟩
end Go.Proofs.YtmcmlplbdepooaaDoor
