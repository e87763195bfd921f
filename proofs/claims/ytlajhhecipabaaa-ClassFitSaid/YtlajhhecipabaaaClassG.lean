/- The walk of ClassFit. -/
import Derived.Test.YtlajhhecipabaaaClassF
import Derived.Test.YtlajhhecipabaaaList
import Derived.Deep.QuietTactic
import Derived.BigQuiet
import Derived.WalkSmall
namespace Go.Proofs.Ytlajhhecipabaaa
open Go.RowKit
set_option linter.unusedVariables false

theorem ofL_snoc {k : Nat} (h : k < 20) : ofL.take (k + 1) = ofL.take k ++ [ofI k] := by
  have : k = 0 ∨ k = 1 ∨ k = 2 ∨ k = 3 ∨ k = 4 ∨ k = 5 ∨ k = 6 ∨ k = 7 ∨ k = 8 ∨ k = 9 ∨ k = 10 ∨ k = 11 ∨ k = 12 ∨ k = 13 ∨ k = 14 ∨ k = 15 ∨ k = 16 ∨ k = 17 ∨ k = 18 ∨ k = 19 := by omega
  rcases this with rfl | rfl | rfl | rfl | rfl | rfl | rfl | rfl | rfl | rfl | rfl | rfl | rfl | rfl | rfl | rfl | rfl | rfl | rfl | rfl <;> rfl
theorem ofL_get {k : Nat} (h : k < 20) : ofL.getD k 0 = ofI k := by
  rw [ofI, if_neg (by omega)]; simp
theorem ofI_pos {k : Nat} (h : k < 20) : 16 ≤ ofI k := by
  have all : ∀ a : Fin 20, 16 ≤ ofI (a.val : Int) := by decide
  exact all ⟨k, h⟩

set_option maxHeartbeats 800000 in
theorem list_any (w : World) :
    Calls Try.prog 37 #[] w (ListPost ofL w) := by
  obtain ⟨i0, hi, hz0, hz1, hz2⟩ := info_parts infoInt
  go_enter Try.func37, Try.ntmps37
  go_wp2_with fail
  go_loopw [1, 3] (fun v i wr => ∃ k : Nat, k ≤ 20 ∧ i = .int .i64 k ∧ wr.ownsRow w.heap.size 3 1 v k ((ofL.take k).map (Value.int .i64)) ∧ Below w.heap.size w wr) (fun _ i _ => 20 - (intOf i).toNat)
  case atStart => exact ⟨0, by omega, rfl, World.ownsRow_nil _ _ _ _, Below.refl _ _⟩
  case round =>
    obtain ⟨k, hk, rfl, hown, hbel⟩ := hrel
    have hbs := hbel.size
    by_cases hlt : k < 20
    · have hs := ofL_snoc hlt
      have HS := Lib.hid hs; clear hs
      go_wp2_with (first | (go_at_call 36; refine (of_any _ _).mono ?_; rintro e w' ⟨rfl, rfl⟩) | (at_builtin; refine wpList_append_own _ rfl _ _ 45 rfl w.heap.size 3 i0 (.int .i64 0) 1 8 Try.underlying45 hi hz0 hz1 hz2 rfl (by decide) _ _ _ rfl (hown.alloc _) ⟨wr.heap.size, 0, none⟩ 1 1 [.int .i64 (ofI k)] rfl rfl ?c1 ?c2 ?c3 ?c4 ?c5 ?_))
      case c1 => exact cell_one_new _ _ _
      case c2 => simp [Value.oneCell']
      case c3 => unfold maxLen; omega
      case c4 => omega
      case c5 => simp; omega
      intro v' w1 hown1 hgrow _
      have hb1 : Below w.heap.size w w1 := (hbel.alloc hbs _).grown hgrow (by simp; omega) (fun j hj => (hown.lt j hj).1)
      clear hgrow hown
      go_wp2
      go_roundw
      case rel => exact ⟨k + 1, by omega, by go_num, by rw [HS.out]; simpa using hown1, hb1⟩
      case measure => simp [intOf]; omega
    · obtain rfl : k = 20 := by omega
      obtain ⟨a, cap, rfl, hx⟩ := ints_of_row hown
      clear hown
      go_wp2
      go_ret
      exact ⟨a, cap, rfl, hx, hbel⟩

set_option maxHeartbeats 3200000 in
theorem classFit_in (k : Nat) (hk : k < 20) (a0 a1 : Int) (w : World) (ec : bits .and .i64 a0 31 = (k : Int) + 4) (b1 : -9223372036854775808 ≤ a1 ∧ a1 ≤ 9223372036854775807) :
    Calls Try.prog 8 #[.int .i64 a0, .int .i64 a1] w fun e w' => e = .returned (.bool true) ∧ Below w.heap.size w w' := by
  have hp := ofI_pos hk
  have hq := (ofI_bd k).2
  have hbk : blockI (k : Int) = ofI k + 16 := by rw [blockI, if_neg (by omega)]
  have hbn : ¬ ofI (k : Int) + 16 = 0 := by omega
  go_enter Try.func8, Try.ntmps8
  go_wp2_with fail
  refine (sizes_any _).mono ?_
  rintro e v1 ⟨rfl, hw⟩
  have hcell := sizes_cell w k hk
  have hb1 := alc0 w sizesO
  rw [hw] at hcell hb1
  clear hw
  by_cases hpg : 1 ≤ a1 ∧ a1 ≤ 1024
  · obtain ⟨p1, p2⟩ := hpg
    have hfk : fitI k a1 = a1 * 256 / (ofI k + 16) := by rw [fitI, if_neg (by omega), hbk]
    go_wp2_with fail
    refine (list_any _).mono ?_
    rintro e v2 ⟨a, cap, rfl, hx, hb2⟩
    rw [show ofL.length = 20 from rfl] at hx ⊢
    go_wp2_with fail
    refine (sizes_any _).mono ?_
    rintro e v3 ⟨rfl, hw3⟩
    have hcs := sizes_cell v2
    have hb3 := alc0 v2 sizesO
    have hx3 := hx.below hb3
    rw [hw3] at hcs hb3 hx3
    clear hw3 hx
    rcases hx3.2 with h0 | ⟨b, off, rfl, hbl, _, hcl⟩
    · exact absurd h0 (by decide)
    clear hx3
    go_wp2_with fail
    have hz3 : v2.heap.size < v3.heap.size := World.block_lt_of_cell? v3 _ (hcs 0 (by decide))
    go_loopw [11] (fun i wr => ∃ j : Nat, j ≤ 20 ∧ i = .int .i64 j ∧ Below v3.heap.size v3 wr) (fun i _ => 20 - (intOf i).toNat)
    case atStart => exact ⟨0, by omega, rfl, Below.refl _ _⟩
    case round =>
      obtain ⟨j, hj, rfl, hbw⟩ := hrel
      by_cases hlt : j < 20
      · have c1 := hcl j hlt
        rw [ofL_get hlt, ← hbw.cell hbl] at c1
        have c2 := hcs j hlt
        rw [← hbw.cell hz3] at c2
        clear hcl hcs
        have j0 : (0 : Int) ≤ (j : Int) := by omega
        have j1 : (j : Int) < 20 := by omega
        go_wp2_with fail
        go_quiet (fail)
        go_wp2
        exact ⟨⟨j + 1, by omega, by go_num, below_drewN hbw _⟩, by simp [intOf]; omega⟩
      · obtain rfl : j = 20 := by omega
        clear hcl hcs
        go_wp2_with (first | (go_at_call 33; refine (cawake_any _).mono ?_; rintro e w' ⟨rfl, rfl⟩) | (go_at_call 38; refine (block_any _ _).mono ?_; rintro e w' ⟨rfl, rfl⟩) | (go_at_call 39; refine (fit_any _ _ _).mono ?_; rintro e w' ⟨rfl, rfl⟩))
        go_ret
        exact ⟨rfl, thn hb1 (thn hb2 (thn hb3 hbw))⟩
  · have hfk : fitI k a1 = 0 := by rw [fitI, if_pos (by omega)]
    rcases (show a1 < 1 ∨ 1024 < a1 by omega) with hpp | hpp
    all_goals
      go_wp2_with fail
      refine (list_any _).mono ?_
      rintro e v2 ⟨a, cap, rfl, hx, hb2⟩
      rw [show ofL.length = 20 from rfl] at hx ⊢
      go_wp2_with fail
      refine (sizes_any _).mono ?_
      rintro e v3 ⟨rfl, hw3⟩
      have hcs := sizes_cell v2
      have hb3 := alc0 v2 sizesO
      have hx3 := hx.below hb3
      rw [hw3] at hcs hb3 hx3
      clear hw3 hx
      rcases hx3.2 with h0 | ⟨b, off, rfl, hbl, _, hcl⟩
      · exact absurd h0 (by decide)
      clear hx3
      go_wp2_with fail
      have hz3 : v2.heap.size < v3.heap.size := World.block_lt_of_cell? v3 _ (hcs 0 (by decide))
      go_loopw [11] (fun i wr => ∃ j : Nat, j ≤ 20 ∧ i = .int .i64 j ∧ Below v3.heap.size v3 wr) (fun i _ => 20 - (intOf i).toNat)
      case atStart => exact ⟨0, by omega, rfl, Below.refl _ _⟩
      case round =>
        obtain ⟨j, hj, rfl, hbw⟩ := hrel
        by_cases hlt : j < 20
        · have c1 := hcl j hlt
          rw [ofL_get hlt, ← hbw.cell hbl] at c1
          have c2 := hcs j hlt
          rw [← hbw.cell hz3] at c2
          clear hcl hcs
          have j0 : (0 : Int) ≤ (j : Int) := by omega
          have j1 : (j : Int) < 20 := by omega
          go_wp2_with fail
          go_quiet (fail)
          go_wp2
          exact ⟨⟨j + 1, by omega, by go_num, below_drewN hbw _⟩, by simp [intOf]; omega⟩
        · obtain rfl : j = 20 := by omega
          clear hcl hcs
          go_wp2_with (first | (go_at_call 33; refine (cawake_any _).mono ?_; rintro e w' ⟨rfl, rfl⟩) | (go_at_call 38; refine (block_any _ _).mono ?_; rintro e w' ⟨rfl, rfl⟩) | (go_at_call 39; refine (fit_any _ _ _).mono ?_; rintro e w' ⟨rfl, rfl⟩))
          go_ret
          exact ⟨rfl, thn hb1 (thn hb2 (thn hb3 hbw))⟩

set_option maxHeartbeats 3200000 in
theorem classFit_out (c : Int) (a0 a1 : Int) (w : World) (ec : bits .and .i64 a0 31 = c + 4) (hc : -4 ≤ c ∧ c < 28) (ho : c < 0 ∨ 20 ≤ c) (b1 : -9223372036854775808 ≤ a1 ∧ a1 ≤ 9223372036854775807) :
    Calls Try.prog 8 #[.int .i64 a0, .int .i64 a1] w fun e w' => e = .returned (.bool true) ∧ Below w.heap.size w w' := by
  have h0 : ofI c = 0 := by rw [ofI, if_pos ho]
  have hbk : blockI c = 0 := by rw [blockI, if_pos h0]
  have hfk : fitI c a1 = 0 := by rw [fitI, if_pos (Or.inl h0)]
  clear h0
  go_enter Try.func8, Try.ntmps8
  rcases ho with ho | ho
  all_goals
    go_wp2_with fail
    refine (list_any _).mono ?_
    rintro e v2 ⟨a, cap, rfl, hx, hb2⟩
    rw [show ofL.length = 20 from rfl] at hx ⊢
    go_wp2_with fail
    refine (sizes_any _).mono ?_
    rintro e v3 ⟨rfl, hw3⟩
    have hcs := sizes_cell v2
    have hb3 := alc0 v2 sizesO
    have hx3 := hx.below hb3
    rw [hw3] at hcs hb3 hx3
    clear hw3 hx
    rcases hx3.2 with h0 | ⟨b, off, rfl, hbl, _, hcl⟩
    · exact absurd h0 (by decide)
    clear hx3
    go_wp2_with fail
    have hz3 : v2.heap.size < v3.heap.size := World.block_lt_of_cell? v3 _ (hcs 0 (by decide))
    go_loopw [11] (fun i wr => ∃ j : Nat, j ≤ 20 ∧ i = .int .i64 j ∧ Below v3.heap.size v3 wr) (fun i _ => 20 - (intOf i).toNat)
    case atStart => exact ⟨0, by omega, rfl, Below.refl _ _⟩
    case round =>
      obtain ⟨j, hj, rfl, hbw⟩ := hrel
      by_cases hlt : j < 20
      · have c1 := hcl j hlt
        rw [ofL_get hlt, ← hbw.cell hbl] at c1
        have c2 := hcs j hlt
        rw [← hbw.cell hz3] at c2
        clear hcl hcs
        have j0 : (0 : Int) ≤ (j : Int) := by omega
        have j1 : (j : Int) < 20 := by omega
        go_wp2_with fail
        go_quiet (fail)
        go_wp2
        exact ⟨⟨j + 1, by omega, by go_num, below_drewN hbw _⟩, by simp [intOf]; omega⟩
      · obtain rfl : j = 20 := by omega
        clear hcl hcs
        go_wp2_with (first | (go_at_call 33; refine (cawake_any _).mono ?_; rintro e w' ⟨rfl, rfl⟩) | (go_at_call 38; refine (block_any _ _).mono ?_; rintro e w' ⟨rfl, rfl⟩) | (go_at_call 39; refine (fit_any _ _ _).mono ?_; rintro e w' ⟨rfl, rfl⟩))
        go_ret
        exact ⟨rfl, thn hb2 (thn hb3 hbw)⟩

theorem walkClassFit (a0 : Int) (a1 : Int) (w : World) (w0 : (Lit.int .i64 a0).wf = true) (w1 : (Lit.int .i64 a1).wf = true) :
    Calls Try.prog 8 #[.int .i64 a0, .int .i64 a1] w fun e w' => e = .returned (.bool true) ∧ Below w.heap.size w w' := by
  have e0 := and31 a0
  have r0 : 0 ≤ a0 % 32 := Int.emod_nonneg _ (by decide)
  have r1 : a0 % 32 < 32 := Int.emod_lt_of_pos _ (by decide)
  by_cases h : 4 ≤ a0 % 32 ∧ a0 % 32 < 24
  · obtain ⟨k, hk⟩ := Int.eq_ofNat_of_zero_le (show 0 ≤ a0 % 32 - 4 by omega)
    exact classFit_in k (by omega) a0 a1 w (by rw [e0]; omega) (bounds_i64 w1)
  · exact classFit_out (a0 % 32 - 4) a0 a1 w (by rw [e0]; omega) (by omega) (by omega) (bounds_i64 w1)
end Go.Proofs.Ytlajhhecipabaaa
