/- Contracts of package set: Whole; the methods of none. -/
import Derived.Test.YtgidnmjeifgciaaDoorSetF
namespace Go.Proofs.YtgidnmjeifgciaaDoor
set_option maxRecDepth 100000
open Go.RowKit
set_option linter.unusedVariables false
set_option linter.unusedSimpArgs false

theorem whole_cut {ws : List Nat} {f m j : Nat} (h : bitB ws (f + j) = false) (hj : j < m) : wholeB ws f m = false := by
  cases hw : wholeB ws f m with
  | false => rfl
  | true => rw [whole_at hw hj] at h; cases h
set_option maxHeartbeats 800000 in
theorem swhole_near (lo hi g : Nat) (W : World) (n c : Int) (f m : Nat) (ws : List Nat) (h : SetIs lo hi g W n c ws) (hf : (f : Int) + m ≤ n) :
    Calls Tryd.prog 138 #[.pointer (some ⟨g, 0, none⟩), .int .i64 f, .int .i64 m] W fun e w' => e = .returned (.bool (wholeB ws f m)) ∧ W = w' := by
  have H := Lib.hid h
  obtain ⟨_, ⟨n0, n1, n2⟩, c0, _⟩ := h
  have t1 : (m : Int) ≤ n := by omega
  have t2 : (f : Int) ≤ n - m := by omega
  have d1 : decide ((f : Int) < 0) = false := decide_eq_false (by omega)
  have d2 : decide ((m : Int) < 0) = false := decide_eq_false (by omega)
  have d3 : decide (n < (m : Int)) = false := decide_eq_false (by omega)
  have d4 : decide (n - (m : Int) < (f : Int)) = false := decide_eq_false (by omega)
  go_enter Tryd.func138, Tryd.ntmps138
  go_wp2_with fail
  go_loop [7] (fun v => ∃ j : Nat, j ≤ m ∧ Hid (wholeB ws f j = true) ∧ v = .int .i64 ((f : Int) + j)) (fun v => ((f : Int) + m - intOf v).toNat)
  case atStart => exact ⟨0, by omega, Lib.hid rfl, by simp⟩
  case round =>
    obtain ⟨j, hj, HJ, rfl⟩ := hrel
    by_cases hlt : j < m
    · have l1 : (f : Int) + j < f + m := by omega
      rcases Bool.eq_false_or_eq_true (bitB ws (f + j)) with hb | hb
      · have HB := Lib.hid hb; clear hb
        go_wp2_with fail
        refine (shas_is true _ _ _ _ _ _ _ _ H.out (by rw [show ((f : Int) + (j : Int)).toNat = f + j by omega, HB.out, Bool.and_true]; exact decide_eq_true (by omega))).mono ?_
        rintro e w' ⟨rfl, rfl⟩
        go_wp2_with fail
        go_round
        case rel => exact ⟨j + 1, by omega, Lib.hid (by rw [wholeB, HJ.out, HB.out]; rfl), by go_num⟩
        case measure => simp [intOf]; omega
      · have HB := Lib.hid hb; clear hb
        go_wp2_with fail
        refine (shas_is false _ _ _ _ _ _ _ _ H.out (by rw [show ((f : Int) + (j : Int)).toNat = f + j by omega, HB.out, Bool.and_false])).mono ?_
        rintro e w' ⟨rfl, rfl⟩
        go_wp2_with fail
        go_ret
        exact ⟨ret_bool (whole_cut HB.out hlt).symm, rfl⟩
    · obtain rfl : j = m := by omega
      go_wp2_with fail
      go_ret
      exact ⟨ret_bool HJ.out.symm, rfl⟩
theorem swhole_far (lo hi g : Nat) (W : World) (n c : Int) (f m : Int) (ws : List Nat) (h : SetIs lo hi g W n c ws) (hf : ¬ (0 ≤ f ∧ 0 ≤ m ∧ m ≤ n ∧ f ≤ n - m)) :
    Calls Tryd.prog 138 #[.pointer (some ⟨g, 0, none⟩), .int .i64 f, .int .i64 m] W fun e w' => e = .returned (.bool false) ∧ W = w' := by
  obtain ⟨_, ⟨n0, n1, n2⟩, c0, _⟩ := h
  by_cases h1 : f < 0
  · go_enter Tryd.func138, Tryd.ntmps138
    go_wp2
    go_ret
    exact ⟨rfl, rfl⟩
  have d1 : decide (f < 0) = false := decide_eq_false h1
  by_cases h2 : m < 0
  · go_enter Tryd.func138, Tryd.ntmps138
    go_wp2
    go_ret
    exact ⟨rfl, rfl⟩
  have d2 : decide (m < 0) = false := decide_eq_false h2
  by_cases h3 : n < m
  · have d3 : decide (n < m) = true := decide_eq_true h3
    go_enter Tryd.func138, Tryd.ntmps138
    go_wp2
    go_ret
    exact ⟨rfl, rfl⟩
  have d3 : decide (n < m) = false := decide_eq_false h3
  have h4 : n - m < f := by omega
  have d4 : decide (n - m < f) = true := decide_eq_true h4
  clear hf
  go_enter Tryd.func138, Tryd.ntmps138
  go_wp2
  go_ret
  exact ⟨rfl, rfl⟩
theorem swhole_is (r : Bool) (lo hi g : Nat) (W : World) (n c : Int) (f m : Int) (ws : List Nat) (h : SetIs lo hi g W n c ws) (hr : (decide (0 ≤ f ∧ 0 ≤ m ∧ m ≤ n ∧ f ≤ n - m) && wholeB ws f.toNat m.toNat) = r) :
    Calls Tryd.prog 138 #[.pointer (some ⟨g, 0, none⟩), .int .i64 f, .int .i64 m] W fun e w' => e = .returned (.bool r) ∧ W = w' := by
  subst hr
  by_cases hf : 0 ≤ f ∧ 0 ≤ m ∧ m ≤ n ∧ f ≤ n - m
  · rw [decide_eq_true hf, Bool.true_and]
    have := swhole_near lo hi g W n c f.toNat m.toNat ws h (by omega)
    rw [show ((f.toNat : Nat) : Int) = f by omega, show ((m.toNat : Nat) : Int) = m by omega] at this
    exact this
  · rw [decide_eq_false hf, Bool.false_and]
    exact swhole_far lo hi g W n c f m ws h hf

end Go.Proofs.YtgidnmjeifgciaaDoor
