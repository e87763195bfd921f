/- The walk of PermTexts. -/
import Derived.Test.YtlajhhecipabaaaPermA
namespace Go.Proofs.Ytlajhhecipabaaa
open Go.RowKit
set_option linter.unusedVariables false

theorem show_no (p : Int) (w : World) (h : ¬ (0 ≤ p ∧ p ≤ 31)) :
    Calls Try.prog 22 #[.int .i64 p] w fun e w' => e = .returned (.string ⟨#[]⟩) ∧ Below w.heap.size w w' := by
  have H1 := Lib.hid (pmay_no h); clear h
  go_enter Try.func22, Try.ntmps22
  go_wp2_with (go_at_call 16; refine (pmay_is _ _ _ H1.out).mono ?_; rintro e w' ⟨rfl, rfl⟩)
  go_ret
  exact ⟨rfl, Below.refl _ _⟩

theorem fin32 {a : Int} (h : 0 ≤ a ∧ a ≤ 31) : ∃ n : Fin 32, a = (n.val : Int) := ⟨⟨a.toNat, by omega⟩, (Int.toNat_of_nonneg h.1).symm⟩
instance (s : ByteArray) : Decidable (readOkP s) := by unfold readOkP rdG; infer_instance
theorem show_read (a : Int) (h : 0 ≤ a ∧ a ≤ 31) : readOkP (showB a) ∧ readVI (showB a) = a := by
  obtain ⟨n, rfl⟩ := fin32 h
  clear h
  revert n
  decide +kernel

def wantB (a : Int) (k : Nat) : ByteArray := ⟨((showB a).data.toList.take k).toArray⟩
def oneB (a : Int) (k : Nat) : ByteArray := if a / 2 ^ k % 2 = 0 then ⟨#[45]⟩ else (⟨#[114, 119, 82, 87, 102]⟩ : ByteArray).extract k (k + 1)
theorem want_next (a : Int) (h : 0 ≤ a ∧ a ≤ 31) (k : Nat) (hk : k < 5) : wantB a (k + 1) = wantB a k ++ oneB a k := by
  obtain ⟨n, rfl⟩ := fin32 h
  have key : ∀ n : Fin 32, ∀ k : Fin 5, wantB (n.val : Int) (k.val + 1) = wantB n.val k.val ++ oneB n.val k.val := by decide +kernel
  exact key n ⟨k, hk⟩
theorem oneB_yes {a : Int} {k : Nat} (h : a / 2 ^ k % 2 = 0) : oneB a k = ⟨#[45]⟩ := by rw [oneB, if_pos h]
theorem oneB_no {a : Int} {k : Nat} (h : ¬ a / 2 ^ k % 2 = 0) : oneB a k = (⟨#[114, 119, 82, 87, 102]⟩ : ByteArray).extract k (k + 1) := by rw [oneB, if_neg h]
theorem want_all (a : Int) (h : 0 ≤ a ∧ a ≤ 31) : wantB a 5 = showB a ∧ wantB a 0 = ⟨#[]⟩ := by
  obtain ⟨n, rfl⟩ := fin32 h
  clear h
  revert n
  decide +kernel
theorem want_size (a : Int) (k : Nat) : (wantB a k).size ≤ k := by
  unfold wantB ByteArray.size
  simp
  omega

theorem byte_of {b : UInt8} {n : Int} (h : (b.toNat : Int) = n) (hn : 0 ≤ n ∧ n ≤ 255) : b = UInt8.ofNat n.toNat := by
  apply UInt8.toNat.inj
  rw [UInt8.toNat_ofNat']
  omega
theorem read_show (s : ByteArray) (h : readOkP s) : showB (readVI s) = s ∧ 0 ≤ readVI s ∧ readVI s ≤ 31 := by
  obtain ⟨⟨l⟩⟩ := s
  obtain ⟨hl, hg⟩ := h
  have hl : l.length = 5 := hl
  match l, hl with
  | [b0, b1, b2, b3, b4], _ =>
    simp only [rdG, byteI] at hg
    obtain ⟨g0, g1, g2, g3, g4⟩ := hg
    replace g0 := g0 (by decide)
    replace g1 := g1 (by decide)
    replace g2 := g2 (by decide)
    replace g3 := g3 (by decide)
    replace g4 := g4 (by decide)
    simp only [List.getD_cons_zero, List.getD_cons_succ] at g0 g1 g2 g3 g4
    clear hl
    rcases g0 with g0 | g0 <;> rcases g1 with g1 | g1 <;> rcases g2 with g2 | g2 <;> rcases g3 with g3 | g3 <;> rcases g4 with g4 | g4
    all_goals
      obtain rfl := byte_of g0 (by decide)
      obtain rfl := byte_of g1 (by decide)
      obtain rfl := byte_of g2 (by decide)
      obtain rfl := byte_of g3 (by decide)
      obtain rfl := byte_of g4 (by decide)
      decide +kernel

set_option maxRecDepth 100000 in
set_option maxHeartbeats 1000000 in
theorem texts_walk (a0 a : Int) (s : ByteArray) (w : World) (ea : bits .and .i64 a0 31 = a) (h1 : 0 ≤ a) (h2 : a ≤ 31) (y : Int) (is : Bool) (hy1 : 0 ≤ y) (hy2 : y ≤ 31)
    (HR : Hid (∀ w : World, Calls Try.prog 21 #[.string s] w fun e w' => e = .returned (.tuple #[.int .i64 y, .bool is]) ∧ w = w')) (HY : Hid (is = true → showB y = s)) (HN : Hid (is = false → y = 0)) :
    Calls Try.prog 4 #[.int .i64 a0, .string s] w fun e w' => e = .returned (.bool true) ∧ Below w.heap.size w w' := by
  have e1 := and1
  obtain ⟨S, hS⟩ : ∃ S, showB a = S := ⟨_, rfl⟩
  have HSR : Hid (∀ w : World, Calls Try.prog 21 #[.string S] w fun e w' => e = .returned (.tuple #[.int .i64 a, .bool true]) ∧ w = w') := Lib.hid (fun w => by
    subst hS
    have := read_yes (showB a) w (show_read a ⟨h1, h2⟩).1
    rwa [(show_read a ⟨h1, h2⟩).2] at this)
  have HS := Lib.hid hS; clear hS
  go_enter Try.func4, Try.ntmps4
  go_wp2_with fail
  refine (show_is S a _ ⟨h1, h2⟩ HS.out).mono ?_
  rintro e wa ⟨rfl, B1⟩
  go_wp2_with fail
  refine (HSR.out _).mono ?_
  rintro e wb ⟨rfl, rfl⟩
  go_wp2_with fail
  refine (HR.out _).mono ?_
  rintro e wb ⟨rfl, rfl⟩
  go_wp2_with fail
  go_loop [10, 11] (fun v i => ∃ (k : Nat) (W : ByteArray), k ≤ 5 ∧ i = .int .i64 k ∧ v = .string W ∧ W.size ≤ k ∧ Hid (W = wantB a k)) (fun _ i => 5 - (intOf i).toNat)
  case atStart => exact ⟨0, _, by omega, rfl, rfl, by decide, Lib.hid (want_all a ⟨h1, h2⟩).2.symm⟩
  case round =>
    obtain ⟨k, W, hk, rfl, rfl, hw, HW⟩ := hrel
    have hc : k = 0 ∨ k = 1 ∨ k = 2 ∨ k = 3 ∨ k = 4 ∨ k = 5 := by omega
    rcases hc with rfl | rfl | rfl | rfl | rfl | rfl
    rotate_left 5
    · have HE : Hid (W = S) := Lib.hid (by rw [HW.out, (want_all a ⟨h1, h2⟩).1, HS.out])
      cases is
      · have hy0 := HN.out rfl
        subst hy0
        go_wp2_with fail
        refine (p9awake_any _).mono ?_
        rintro e wc ⟨rfl, B2⟩
        go_wp2_with fail
        refine (show_is S a _ ⟨h1, h2⟩ HS.out).mono ?_
        rintro e wd ⟨rfl, B3⟩
        obtain rfl := HE.out
        go_wp2_with fail
        refine (show_no (a - 32) _ (by omega)).mono ?_
        rintro e we ⟨rfl, B4⟩
        go_wp2_with fail
        refine (show_no (a + 32) _ (by omega)).mono ?_
        rintro e wf ⟨rfl, B5⟩
        go_wp2_with fail
        go_ret
        exact ⟨rfl, thn (thn (thn (thn B1 B2) B3) B4) B5⟩
      · have HYY := Lib.hid (HY.out rfl)
        go_wp2_with fail
        refine (p9awake_any _).mono ?_
        rintro e wc ⟨rfl, B2⟩
        go_wp2_with fail
        refine (show_is S a _ ⟨h1, h2⟩ HS.out).mono ?_
        rintro e wd ⟨rfl, B3⟩
        obtain rfl := HE.out
        go_wp2_with fail
        refine (show_is s y _ ⟨hy1, hy2⟩ HYY.out).mono ?_
        rintro e wd2 ⟨rfl, B32⟩
        go_wp2_with fail
        refine (show_no (a - 32) _ (by omega)).mono ?_
        rintro e we ⟨rfl, B4⟩
        go_wp2_with fail
        refine (show_no (a + 32) _ (by omega)).mono ?_
        rintro e wf ⟨rfl, B5⟩
        go_wp2_with fail
        go_ret
        exact ⟨rfl, thn (thn (thn (thn (thn B1 B2) B3) B32) B4) B5⟩
    · go_wp2_with fail
      · have ht : a % 2 = 0 := eq_of_beq (by assumption)
        have hn := want_next a ⟨h1, h2⟩ 0 (by decide)
        rw [← HW.out, oneB_yes (k := 0) (by simpa using ht)] at hn
        exact ⟨⟨1, _, by omega, rfl, rfl, by rw [← hn]; exact want_size a 1, Lib.hid hn.symm⟩, by simp [intOf]⟩
      · have ht : ¬ a % 2 = 0 := ne_of_beq_false (by assumption)
        have hn := want_next a ⟨h1, h2⟩ 0 (by decide)
        rw [← HW.out, oneB_no (k := 0) (by simpa using ht)] at hn
        exact ⟨⟨1, _, by omega, rfl, rfl, by rw [← hn]; exact want_size a 1, Lib.hid hn.symm⟩, by simp [intOf]⟩
    · go_wp2_with fail
      · have ht : a / 2 % 2 = 0 := eq_of_beq (by assumption)
        have hn := want_next a ⟨h1, h2⟩ 1 (by decide)
        rw [← HW.out, oneB_yes (k := 1) (by simpa using ht)] at hn
        exact ⟨⟨2, _, by omega, rfl, rfl, by rw [← hn]; exact want_size a 2, Lib.hid hn.symm⟩, by simp [intOf]⟩
      · have ht : ¬ a / 2 % 2 = 0 := ne_of_beq_false (by assumption)
        have hn := want_next a ⟨h1, h2⟩ 1 (by decide)
        rw [← HW.out, oneB_no (k := 1) (by simpa using ht)] at hn
        exact ⟨⟨2, _, by omega, rfl, rfl, by rw [← hn]; exact want_size a 2, Lib.hid hn.symm⟩, by simp [intOf]⟩
    · go_wp2_with fail
      · have ht : a / 4 % 2 = 0 := eq_of_beq (by assumption)
        have hn := want_next a ⟨h1, h2⟩ 2 (by decide)
        rw [← HW.out, oneB_yes (k := 2) (by simpa using ht)] at hn
        exact ⟨⟨3, _, by omega, rfl, rfl, by rw [← hn]; exact want_size a 3, Lib.hid hn.symm⟩, by simp [intOf]⟩
      · have ht : ¬ a / 4 % 2 = 0 := ne_of_beq_false (by assumption)
        have hn := want_next a ⟨h1, h2⟩ 2 (by decide)
        rw [← HW.out, oneB_no (k := 2) (by simpa using ht)] at hn
        exact ⟨⟨3, _, by omega, rfl, rfl, by rw [← hn]; exact want_size a 3, Lib.hid hn.symm⟩, by simp [intOf]⟩
    · go_wp2_with fail
      · have ht : a / 8 % 2 = 0 := eq_of_beq (by assumption)
        have hn := want_next a ⟨h1, h2⟩ 3 (by decide)
        rw [← HW.out, oneB_yes (k := 3) (by simpa using ht)] at hn
        exact ⟨⟨4, _, by omega, rfl, rfl, by rw [← hn]; exact want_size a 4, Lib.hid hn.symm⟩, by simp [intOf]⟩
      · have ht : ¬ a / 8 % 2 = 0 := ne_of_beq_false (by assumption)
        have hn := want_next a ⟨h1, h2⟩ 3 (by decide)
        rw [← HW.out, oneB_no (k := 3) (by simpa using ht)] at hn
        exact ⟨⟨4, _, by omega, rfl, rfl, by rw [← hn]; exact want_size a 4, Lib.hid hn.symm⟩, by simp [intOf]⟩
    · go_wp2_with fail
      · have ht : a / 16 % 2 = 0 := eq_of_beq (by assumption)
        have hn := want_next a ⟨h1, h2⟩ 4 (by decide)
        rw [← HW.out, oneB_yes (k := 4) (by simpa using ht)] at hn
        exact ⟨⟨5, _, by omega, rfl, rfl, by rw [← hn]; exact want_size a 5, Lib.hid hn.symm⟩, by simp [intOf]⟩
      · have ht : ¬ a / 16 % 2 = 0 := ne_of_beq_false (by assumption)
        have hn := want_next a ⟨h1, h2⟩ 4 (by decide)
        rw [← HW.out, oneB_no (k := 4) (by simpa using ht)] at hn
        exact ⟨⟨5, _, by omega, rfl, rfl, by rw [← hn]; exact want_size a 5, Lib.hid hn.symm⟩, by simp [intOf]⟩

theorem walkPermTexts (a0 : Int) (a1 : ByteArray) (w : World) (w0 : (Lit.int .i64 a0).wf = true) (w1 : a1.size ≤ maxLen) :
    Calls Try.prog 4 #[.int .i64 a0, .string a1] w fun e w' => e = .returned (.bool true) ∧ Below w.heap.size w w' := by
  have q1 : 0 ≤ a0 % 32 := Int.emod_nonneg _ (by decide)
  have q2 : a0 % 32 < 32 := Int.emod_lt_of_pos _ (by decide)
  by_cases h : readOkP a1
  · obtain ⟨r1, r2, r3⟩ := read_show a1 h
    exact texts_walk a0 _ a1 w (and31 a0) q1 (by omega) (readVI a1) true r2 r3 (Lib.hid fun w => read_yes a1 w h) (Lib.hid fun _ => r1) (Lib.hid fun h => by cases h)
  · exact texts_walk a0 _ a1 w (and31 a0) q1 (by omega) 0 false (by omega) (by omega) (Lib.hid fun w => read_no a1 w h) (Lib.hid fun h => by cases h) (Lib.hid fun _ => rfl)
end Go.Proofs.Ytlajhhecipabaaa
