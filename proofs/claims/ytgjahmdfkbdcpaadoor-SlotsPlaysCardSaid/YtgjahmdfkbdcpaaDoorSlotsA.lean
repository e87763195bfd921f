/- Package slots: the methods of none; the statements' own example. -/
import Derived.Test.YtgjahmdfkbdcpaaDoorSlots
namespace Go.Proofs.YtgjahmdfkbdcpaaDoor
open Go.RowKit
set_option linter.unusedVariables false
set_option linter.unusedSimpArgs false

theorem nslkeep (W : World) : Calls Tryd.prog 32 #[.pointer none, .int .i64 0] W fun e w' => e = .returned (.bool false) ∧ W = w' := by
  go_enter Tryd.func32, Tryd.ntmps32
  go_wp2
  go_ret
  exact ⟨rfl, rfl⟩
theorem nslclear (W : World) : Calls Tryd.prog 33 #[.pointer none, .int .i64 0] W fun e w' => e = .returned (.bool false) ∧ W = w' := by
  go_enter Tryd.func33, Tryd.ntmps33
  go_wp2
  go_ret
  exact ⟨rfl, rfl⟩
theorem nslcount (W : World) : Calls Tryd.prog 38 #[.pointer none] W fun e w' => e = .returned (.int .i64 0) ∧ W = w' := by
  go_enter Tryd.func38, Tryd.ntmps38
  go_wp2
  go_ret
  exact ⟨rfl, rfl⟩
theorem nslwrote (W : World) : Calls Tryd.prog 34 #[.pointer none, .agg #[.int .i64 0, .int .i64 1]] W fun e w' => e = .returned (.int .i64 0) ∧ Below W.heap.size W w' := by
  go_enter Tryd.func34, Tryd.ntmps34
  go_wp2
  go_ret
  exact ⟨rfl, alc0 _ _⟩
theorem nslnext (W : World) : Calls Tryd.prog 36 #[.pointer none, .int .i64 0] W fun e w' => e = .returned (.int .i64 (-1)) ∧ W = w' := by
  go_enter Tryd.func36, Tryd.ntmps36
  go_wp2
  go_ret
  exact ⟨rfl, rfl⟩
theorem nslhas (W : World) : Calls Tryd.prog 35 #[.pointer none, .int .i64 0] W fun e w' => e = .returned (.bool false) ∧ W = w' := by
  go_enter Tryd.func35, Tryd.ntmps35
  go_wp2
  go_ret
  exact ⟨rfl, rfl⟩

/-- A set of one number: what a stretch takes out of it. -/
theorem one_drop {ws : List Nat} {k x j : Nat} (hb : ∀ y, bitB ws y = decide (k = y)) (h : x + j ≤ 64 * ws.length) : (dropN ws x j).2 = if x ≤ k ∧ k < x + j then 1 else 0 := by
  induction j with
  | zero => rw [if_neg (by omega)]; rfl
  | succ j ih =>
    have ih := ih (by omega)
    have hbit : bitB (dropN ws x j).1 (x + j) = decide (k = x + j) := by
      rw [dropN_bits ws x j _ (by omega), hb, decide_eq_false (show ¬ (x ≤ x + j ∧ x + j < x + j) by omega), Bool.not_false, Bool.and_true]
    rw [dropN, hbit]
    by_cases e : k = x + j
    · rw [decide_eq_true e, if_pos rfl, if_pos (by omega)]
      show (dropN ws x j).2 + 1 = 1
      rw [ih, if_neg (by omega)]; rfl
    · rw [decide_eq_false e]
      simp only [Bool.false_eq_true, if_false]
      rw [ih]
      by_cases h2 : x ≤ k ∧ k < x + j
      · rw [if_pos h2, if_pos (by omega)]
      · rw [if_neg h2, if_neg (by omega)]

set_option maxHeartbeats 1600000 in
theorem s07awake_any (w : World) (ht : TzTab w) :
    Calls Tryd.prog 37 #[] w fun e w' => e = .returned (.bool true) ∧ Below w.heap.size w w' := by
  have T := Lib.hid ht; clear ht
  have f1 : spF 20 1 16 = 1 := by decide
  have f2 : spN 20 1 16 = 1 := by decide
  have f3 : sJ 16384 1 1 = 1 := by decide
  go_enter Tryd.func37, Tryd.ntmps37
  go_wp2_with fail
  refine (slnew_any _).mono ?_
  rintro e v1 ⟨g, p, rfl, hp, hb1⟩
  have HP := Lib.hid hp; clear hp
  go_wp2_with fail
  refine (slkeep 1 HP.out (by decide) (by decide)).mono ?_
  rintro e v2 ⟨c', ws, rfl, hp2, ho2, -, c1, hl, hb⟩
  obtain rfl : c' = 1 := c1 (bitB_none 256 1)
  have hb2 : ∀ y, bitB ws y = decide (1 = y) := fun y => by rw [hb y, bitB_none, Bool.false_or]
  have hd := one_drop (x := 1) (j := 1) hb2 (by rw [hl, List.length_replicate]; decide)
  rw [if_pos (by omega)] at hd
  have hd2 : ∀ y, bitB (dropN ws 1 1).1 y = false := fun y => by
    rw [dropN_bits ws 1 1 y (by rw [hl, List.length_replicate]; decide), hb2]
    by_cases e : 1 = y
    · subst e; rfl
    · rw [decide_eq_false e]; rfl
  have hd3 := dropN_len ws 1 1
  have HP2 := Lib.hid hp2
  have hbel2 := below_only hb1 ho2 (Nat.le_refl _)
  have HD := Lib.hid hd; have HD2 := Lib.hid hd2
  have hw := slwrote (W := v2) 20 1 HP2.out (by rw [f1, f2, f3, show (1 : Int).toNat = 1 from rfl, hd]; decide)
  unfold WrotePost at hw
  rw [f1, f2, f3, show (1 : Int).toNat = 1 from rfl, hd] at hw
  have HW := Lib.hid hw
  clear hw hd hd2 hd3 hb hb2 hp2 c1 ho2 HP f1 f2 f3
  go_wp2_with fail
  refine HW.out.mono ?_
  rintro e v3 ⟨rfl, hp3, hb3, _, _⟩
  have HP3 := Lib.hid hp3; clear hp3
  have hbel3 : Below w.heap.size w v3 := hbel2.trans hb3
  clear hb3
  go_wp2_with fail
  refine (slhas false 1 HP3.out (by rw [HD2.out]; rfl)).mono ?_
  rintro e w' ⟨rfl, rfl⟩
  go_wp2_with fail
  refine (slnext 0 HP3.out (T.out.later hbel3)).mono ?_
  rintro e w' ⟨rfl, r, rfl, _, hr⟩
  obtain rfl : r = -1 := by
    rcases hr (by decide) with ⟨e, _⟩ | ⟨y, _, _, _, h, _⟩
    · exact e
    · rw [HD2.out] at h; cases h
  clear hr
  go_wp2
  go_ret
  exact ⟨rfl, hbel3⟩
end Go.Proofs.YtgjahmdfkbdcpaaDoor
