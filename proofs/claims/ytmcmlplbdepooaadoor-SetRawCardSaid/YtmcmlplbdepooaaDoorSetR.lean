/- The walk of SetRaw. -/
import Derived.Test.YtmcmlplbdepooaaDoorSetF
namespace Go.Proofs.YtmcmlplbdepooaaDoor
open Go.RowKit
set_option linter.unusedVariables false
set_option linter.unusedSimpArgs false

theorem putN_bits (ws : List Nat) (x j y : Nat) (h : x + j ≤ 64 * ws.length) : bitB (putN ws x j).1 y = (bitB ws y || decide (x ≤ y ∧ y < x + j)) := by
  induction j with
  | zero =>
    have : decide (x ≤ y ∧ y < x + 0) = false := decide_eq_false (by omega)
    rw [this, Bool.or_false]; rfl
  | succ j ih =>
    have ih := ih (by omega)
    have hl := putN_len ws x j
    rw [putN]
    split
    · rename_i hb
      rw [ih]
      by_cases e : y = x + j
      · subst e
        rw [putN_bits_aux hb ih]
        have : decide (x ≤ x + j ∧ x + j < x + (j + 1)) = true := decide_eq_true (by omega)
        rw [this, Bool.or_true]
      · congr 1
        rw [decide_eq_decide]
        omega
    · have hp := bitB_put (putN ws x j).1 (x + j) y (by rw [hl]; omega)
      rw [show bitB (putW (putN ws x j).1 (x + j), (putN ws x j).2 + 1).1 y = (bitB (putN ws x j).1 y || decide (x + j = y)) from hp, ih, Bool.or_assoc]
      congr 1
      rw [Bool.eq_iff_iff]
      simp only [Bool.or_eq_true, decide_eq_true_eq]
      omega
where
  putN_bits_aux {a : Bool} {P : Prop} [Decidable P] {b : Bool} (hb : b = true) (ih : b = (a || decide P)) : (a || decide P) = true := by rw [← ih]; exact hb
theorem putN_count (ws : List Nat) (x j : Nat) (h : x + j ≤ 64 * ws.length) (h0 : ∀ y, x ≤ y → y < x + j → bitB ws y = false) : (putN ws x j).2 = j := by
  induction j with
  | zero => rfl
  | succ j ih =>
    have hb : bitB (putN ws x j).1 (x + j) = false := by
      rw [putN_bits ws x j _ (by omega), h0 _ (by omega) (by omega)]
      simp
    rw [putN, hb]
    simp only [Bool.false_eq_true, if_false]
    rw [ih (by omega) (fun y h1 h2 => h0 y h1 (by omega))]
    simp
theorem dropN_bits (ws : List Nat) (x j y : Nat) (h : x + j ≤ 64 * ws.length) : bitB (dropN ws x j).1 y = (bitB ws y && !decide (x ≤ y ∧ y < x + j)) := by
  induction j with
  | zero =>
    have : decide (x ≤ y ∧ y < x + 0) = false := decide_eq_false (by omega)
    rw [this, Bool.not_false, Bool.and_true]; rfl
  | succ j ih =>
    have ih := ih (by omega)
    have hl := dropN_len ws x j
    rw [dropN]
    split
    · have hp := bitB_drop (dropN ws x j).1 (x + j) y (by rw [hl]; omega)
      rw [show bitB (dropW (dropN ws x j).1 (x + j), (dropN ws x j).2 + 1).1 y = (bitB (dropN ws x j).1 y && !decide (x + j = y)) from hp, ih, Bool.and_assoc]
      congr 1
      rw [Bool.eq_iff_iff]
      simp only [Bool.and_eq_true, Bool.not_eq_true', decide_eq_false_iff_not]
      omega
    · rename_i hb
      rw [ih]
      by_cases e : y = x + j
      · subst e
        have hb2 : bitB (dropN ws x j).1 (x + j) = false := by simpa using hb
        rw [ih] at hb2
        rw [hb2]
        have : decide (x ≤ x + j ∧ x + j < x + (j + 1)) = true := decide_eq_true (by omega)
        rw [this, Bool.not_true, Bool.and_false]
      · congr 2
        rw [decide_eq_decide]
        omega
theorem dropN_count (ws : List Nat) (x j : Nat) (h : x + j ≤ 64 * ws.length) (h0 : ∀ y, x ≤ y → y < x + j → bitB ws y = true) : (dropN ws x j).2 = j := by
  induction j with
  | zero => rfl
  | succ j ih =>
    have hb : bitB (dropN ws x j).1 (x + j) = true := by
      rw [dropN_bits ws x j _ (by omega), h0 _ (by omega) (by omega)]
      simp
    rw [dropN, hb]
    simp only [if_true]
    rw [ih (by omega) (fun y h1 h2 => h0 y h1 (by omega))]
    simp
theorem bitB_none (L y : Nat) : bitB (List.replicate L 0) y = false := by
  unfold bitB
  have : (List.replicate L 0).getD (y / 64) 0 = 0 := by
    simp only [List.getD_eq_getElem?_getD, List.getElem?_replicate]
    split <;> rfl
  rw [this, Nat.zero_testBit]

/-- All that is put in a set that is empty is what is taken out. -/
theorem raw_math (K f m : Int) (L : Nat) (hK : 0 ≤ K) (hL : K ≤ 64 * L) :
    (putN (List.replicate L 0) f.toNat (sJ K f m)).2 = sJ K f m ∧ (dropN (putN (List.replicate L 0) f.toNat (sJ K f m)).1 f.toNat (sJ K f m)).2 = sJ K f m ∧ (0 ≤ f ∨ sJ K f m = 0) ∧ (sJ K f m : Int) ≤ K ∧
    ∀ y, bitB (dropN (putN (List.replicate L 0) f.toNat (sJ K f m)).1 f.toNat (sJ K f m)).1 y = false := by
  rcases Nat.eq_zero_or_pos (sJ K f m) with hJ | hJ
  · rw [hJ]
    exact ⟨rfl, rfl, .inr rfl, hK, fun y => bitB_none L y⟩
  · obtain ⟨f0, f1, _⟩ := sJ_in hJ
    generalize sJ K f m = J at *
    have hr : f.toNat + J ≤ 64 * (List.replicate L 0).length := by simp; omega
    have hc := putN_count (List.replicate L 0) f.toNat J hr (fun y _ _ => bitB_none L y)
    have hb := fun y => putN_bits (List.replicate L 0) f.toNat J y hr
    have hl := putN_len (List.replicate L 0) f.toNat J
    generalize (putN (List.replicate L 0) f.toNat J).2 = p at *
    generalize (putN (List.replicate L 0) f.toNat J).1 = w1 at *
    have hr2 : f.toNat + J ≤ 64 * w1.length := by rw [hl]; exact hr
    refine ⟨hc, dropN_count w1 _ _ hr2 (fun y h1 h2 => by rw [hb y, bitB_none, Bool.false_or]; exact decide_eq_true ⟨h1, h2⟩), .inl f0, by omega, fun y => ?_⟩
    rw [dropN_bits w1 _ _ y hr2, hb y, bitB_none, Bool.false_or, Bool.and_not_self]

theorem some_none {n f m : Int} {V : List Nat} {r : Bool} (h : ∀ y, bitB V y = false) (hr : SomeR n f m V r) : r = false := by
  cases r with
  | false => rfl
  | true =>
    obtain ⟨_, y, _, _, hy⟩ := hr.1 rfl
    rw [h y] at hy
    cases hy
theorem rbool {a b : Bool} (h : a = b) : Ending.returned (.bool a) = .returned (.bool b) := by rw [h]

set_option maxHeartbeats 1000000 in
theorem walkSetRaw (a0 : Int) (a1 : Int) (a2 : Int) (w : World) (w0 : (Lit.int .i64 a0).wf = true) (w1 : (Lit.int .i64 a1).wf = true) (w2 : (Lit.int .i64 a2).wf = true) (ht : TzTab w) :
    Calls Tryd.prog 9 #[.int .i64 a0, .int .i64 a1, .int .i64 a2] w fun e w' => e = .returned (.bool true) ∧ Below w.heap.size w w' := by
  have T := Lib.hid ht; clear ht
  obtain ⟨K, hK⟩ : ∃ K, min (max a0 0) 65536 = K := ⟨_, rfl⟩
  have K0 : 0 ≤ K ∧ K ≤ 65536 := by omega
  obtain ⟨K0, K1⟩ := K0
  have HK := Lib.hid hK; clear hK
  have hm := raw_math K a1 a2 ((K + 63) / 64).toNat K0 (by omega)
  obtain ⟨m1, m2, m3, m4, m5⟩ := hm
  have HP := Lib.hid (fun (lo hi g : Nat) (W : World) (h : SetIs lo hi g W K 0 (List.replicate ((K + 63) / 64).toNat 0)) => sputall lo hi g W K 0 a1 a2 _ h (by omega))
  have HN := Lib.hid (fun W : World => snew_any a0 K W HK.out)
  rw [m1] at HP
  have HD := Lib.hid (fun (lo hi g : Nat) (W : World) (h : SetIs lo hi g W K (sJ K a1 a2) (putN (List.replicate ((K + 63) / 64).toNat 0) a1.toNat (sJ K a1 a2)).1) => sdropall lo hi g W K (sJ K a1 a2) a1 a2 _ h (by rw [m2]; omega))
  rw [m2] at HD
  generalize (dropN (putN (List.replicate ((K + 63) / 64).toNat 0) a1.toNat (sJ K a1 a2)).1 a1.toNat (sJ K a1 a2)).1 = V2 at *
  generalize (putN (List.replicate ((K + 63) / 64).toNat 0) a1.toNat (sJ K a1 a2)).1 = V1 at *
  generalize sJ K a1 a2 = J at *
  have HM := Lib.hid m5
  clear m1 m2 m5
  have hz : (0 : Int) + (J : Int) = J := by omega
  rw [hz] at HP
  have hz2 : (J : Int) - (J : Int) = 0 := by omega
  rw [hz2] at HD
  clear hz hz2
  go_enter Tryd.func9, Tryd.ntmps9
  go_wp2_with fail
  refine (HN.out _).mono ?_
  rintro e v1 ⟨g, rfl, hs, hb1⟩
  have HS := Lib.hid hs; clear hs
  go_wp2_with fail
  refine (sroom_any _ _ g _ K _ _ HS.out).mono ?_
  rintro e w' ⟨rfl, rfl⟩
  go_wp2_with fail
  refine (HP.out _ _ g _ HS.out).mono ?_
  rintro e v2 ⟨rfl, hs2, ho2⟩
  have HS2 := Lib.hid hs2; clear hs2
  have hb2 := below_only hb1 ho2 (Nat.le_refl _)
  go_wp2_with fail
  refine (scount_any _ _ g _ K _ _ HS2.out).mono ?_
  rintro e w' ⟨rfl, rfl⟩
  go_wp2_with fail
  refine (HD.out _ _ g _ HS2.out).mono ?_
  rintro e v3 ⟨rfl, hs3, ho3⟩
  have HS3 := Lib.hid hs3; clear hs3
  have hb3 := below_only hb2 ho3 (Nat.le_refl _)
  go_wp2_with fail
  refine (s02awake_any _ (T.out.later hb3)).mono ?_
  rintro e v4 ⟨rfl, hb4⟩
  have HS4 : Hid (SetIs w.heap.size v1.heap.size g v4 K 0 V2) := Lib.hid (HS3.out.keep hb4.size (fun i _ hi => hb4.block i (by have := ho2.2.1; have := ho3.2.1; omega)))
  have hb5 := hb3.trans (hb4.mono hb3.size)
  have c1 : (a0 < 0 ∧ K = 0) ∨ (0 ≤ a0 ∧ a0 ≤ 65536 ∧ K = a0) ∨ (65536 < a0 ∧ K = 65536) := by have := HK.out; omega
  have c2 : 0 ≤ a1 ∨ (a1 < 0 ∧ J = 0) := by omega
  have c3 : (K == K) = true ∧ ((J : Int) == (J : Int)) = true := ⟨by simp, by simp⟩
  have c4 : decide ((J : Int) ≤ K) = true := decide_eq_true (by omega)
  obtain ⟨c3, c5⟩ := c3
  have C1 := Lib.hid c1; have C2 := Lib.hid c2
  clear c1 c2
  rcases C1.out with ⟨c1, c6⟩ | ⟨c1, c7, c6⟩ | ⟨c1, c6⟩
  all_goals clear C1 K0 K1
  all_goals subst c6
  all_goals rcases C2.out with c8 | ⟨c8, c9⟩
  all_goals clear C2
  all_goals try subst c9
  all_goals go_wp2_with fail
  all_goals
    refine (scount_any _ _ g _ _ _ _ HS4.out).mono ?_
    rintro e w' ⟨rfl, rfl⟩
    go_wp2_with fail
    refine (ssome_any _ _ g _ _ _ a1 a2 V2 HS4.out (T.out.later hb5)).mono ?_
    rintro e w' ⟨rfl, r, rfl, hr⟩
    obtain rfl : r = false := some_none HM.out hr
    clear hr
    go_wp2
    go_ret
    exact ⟨rbool (by simp <;> omega), hb5⟩
end Go.Proofs.YtmcmlplbdepooaaDoor
