/- Contracts of package derive. -/
import Derived.Test.YtcknbbffeeldpaaCapaI
import Derived.Test.YtcknbbffeeldpaaCapaR
import Derived.RegionTactic
import Derived.ChangeAlike
import Derived.BigRegion
namespace Go.Proofs.Ytcknbbffeeldpaa
open Go.RowKit
set_option linter.unusedVariables false
set_option linter.unusedSimpArgs false

theorem ddead_is (r : Bool) (b l c p t : Int) (v : Bool) (w : World) (h : (v && capOkB b l c p t) = r) :
    Calls Try.prog 29 #[.agg #[.int .i64 b, .int .i64 l, .int .i64 c, .int .i64 p, .int .i64 t, .bool v]] w fun e w' => e = .returned (.bool (!r)) ∧ Below w.heap.size w w' := by
  cases v
  · have hr : r = false := by rw [← h]; rfl
    subst hr
    clear h
    go_enter Try.func29, Try.ntmps29
    go_wp2_with fail
    go_ret
    exact ⟨rfl, alc0 _ _⟩
  · have H := Lib.hid (show capMayB b l c p t true = r from by rw [← h]; rfl); clear h
    go_enter Try.func29, Try.ntmps29
    go_wp2_with fail
    refine (capmay_is _ _ _ _ _ _ _ _ H.out).mono ?_
    rintro e w1 ⟨rfl, hb1⟩
    go_wp2
    go_ret
    exact ⟨ret_bool (by simp), thn (alc0 _ _) hb1⟩

set_option maxHeartbeats 400000 in
theorem dbounds_dead (b l c p t n : Int) (v : Bool) (w : World) (H : Hid ((v && capOkB b l c p t) = false)) :
    Calls Try.prog 11 #[.agg #[.int .i64 b, .int .i64 l, .int .i64 c, .int .i64 p, .int .i64 t, .bool v], .int .i64 n] w fun e w' => e = .returned (.tuple #[.agg #[.int .i64 0, .int .i64 0, .int .i64 0, .int .i64 0, .int .i64 0, .bool false], .int .i64 7]) ∧ Below w.heap.size w w' := by
  go_enter Try.func11, Try.ntmps11
  go_wp2_with fail
  refine (ddead_is _ _ _ _ _ _ _ _ H.out).mono ?_
  rintro e w1 ⟨rfl, hb⟩
  obtain ⟨hc, hf⟩ := bcell hb
  have hz : w.heap.size + 1 < w1.heap.size := Nat.lt_of_lt_of_le (by simp) hb.size
  have hw1 : Below w.heap.size w w1 := thn (alc (alc0 _ _) _) hb
  go_wp2
  refine bodyPost_ret (v := .tuple #[.agg #[.int .i64 0, .int .i64 0, .int .i64 0, .int .i64 0, .int .i64 0, .bool false], .int .i64 7]) (by simp [results, Try.results11, go_sem, hc]) rfl ⟨rfl, ?_⟩
  exact ((((((hw1.setCell (by simp) _).setCell (by simp) _).setCell (by simp) _).setCell (by simp) _).setCell (by simp) _).setCell (by simp) _)
set_option maxHeartbeats 400000 in
theorem ddrop_dead (b l c p t n : Int) (v : Bool) (w : World) (H : Hid ((v && capOkB b l c p t) = false)) :
    Calls Try.prog 12 #[.agg #[.int .i64 b, .int .i64 l, .int .i64 c, .int .i64 p, .int .i64 t, .bool v], .int .i64 n] w fun e w' => e = .returned (.tuple #[.agg #[.int .i64 0, .int .i64 0, .int .i64 0, .int .i64 0, .int .i64 0, .bool false], .int .i64 7]) ∧ Below w.heap.size w w' := by
  go_enter Try.func12, Try.ntmps12
  go_wp2_with fail
  refine (ddead_is _ _ _ _ _ _ _ _ H.out).mono ?_
  rintro e w1 ⟨rfl, hb⟩
  obtain ⟨hc, hf⟩ := bcell hb
  have hz : w.heap.size + 1 < w1.heap.size := Nat.lt_of_lt_of_le (by simp) hb.size
  have hw1 : Below w.heap.size w w1 := thn (alc (alc0 _ _) _) hb
  go_wp2
  refine bodyPost_ret (v := .tuple #[.agg #[.int .i64 0, .int .i64 0, .int .i64 0, .int .i64 0, .int .i64 0, .bool false], .int .i64 7]) (by simp [results, Try.results12, go_sem, hc]) rfl ⟨rfl, ?_⟩
  exact ((((((hw1.setCell (by simp) _).setCell (by simp) _).setCell (by simp) _).setCell (by simp) _).setCell (by simp) _).setCell (by simp) _)
set_option maxHeartbeats 400000 in
theorem dmove_dead (b l c p t n : Int) (v : Bool) (w : World) (H : Hid ((v && capOkB b l c p t) = false)) :
    Calls Try.prog 13 #[.agg #[.int .i64 b, .int .i64 l, .int .i64 c, .int .i64 p, .int .i64 t, .bool v], .int .i64 n] w fun e w' => e = .returned (.tuple #[.agg #[.int .i64 0, .int .i64 0, .int .i64 0, .int .i64 0, .int .i64 0, .bool false], .int .i64 7]) ∧ Below w.heap.size w w' := by
  go_enter Try.func13, Try.ntmps13
  go_wp2_with fail
  refine (ddead_is _ _ _ _ _ _ _ _ H.out).mono ?_
  rintro e w1 ⟨rfl, hb⟩
  obtain ⟨hc, hf⟩ := bcell hb
  have hz : w.heap.size + 1 < w1.heap.size := Nat.lt_of_lt_of_le (by simp) hb.size
  have hw1 : Below w.heap.size w w1 := thn (alc (alc0 _ _) _) hb
  go_wp2
  refine bodyPost_ret (v := .tuple #[.agg #[.int .i64 0, .int .i64 0, .int .i64 0, .int .i64 0, .int .i64 0, .bool false], .int .i64 7]) (by simp [results, Try.results13, go_sem, hc]) rfl ⟨rfl, ?_⟩
  exact ((((((hw1.setCell (by simp) _).setCell (by simp) _).setCell (by simp) _).setCell (by simp) _).setCell (by simp) _).setCell (by simp) _)
set_option maxHeartbeats 400000 in
theorem dbounds_inp (b l c p t n : Int) (w : World) (H : Hid ((true && capOkB b l c p t) = true)) (hn : n < 1) :
    Calls Try.prog 11 #[.agg #[.int .i64 b, .int .i64 l, .int .i64 c, .int .i64 p, .int .i64 t, .bool true], .int .i64 n] w fun e w' => e = .returned (.tuple #[.agg #[.int .i64 0, .int .i64 0, .int .i64 0, .int .i64 0, .int .i64 0, .bool false], .int .i64 1]) ∧ Below w.heap.size w w' := by
  go_enter Try.func11, Try.ntmps11
  go_wp2_with fail
  refine (ddead_is _ _ _ _ _ _ _ _ H.out).mono ?_
  rintro e w1 ⟨rfl, hb⟩
  obtain ⟨hc, hf⟩ := bcell hb
  have hz : w.heap.size + 1 < w1.heap.size := Nat.lt_of_lt_of_le (by simp) hb.size
  have hw1 : Below w.heap.size w w1 := thn (alc (alc0 _ _) _) hb
  go_wp2
  refine bodyPost_ret (v := .tuple #[.agg #[.int .i64 0, .int .i64 0, .int .i64 0, .int .i64 0, .int .i64 0, .bool false], .int .i64 1]) (by simp [results, Try.results11, go_sem, hc]) rfl ⟨rfl, ?_⟩
  exact ((((((hw1.setCell (by simp) _).setCell (by simp) _).setCell (by simp) _).setCell (by simp) _).setCell (by simp) _).setCell (by simp) _)
set_option maxHeartbeats 400000 in
theorem dbounds_out (b l c p t n : Int) (w : World) (H : Hid ((true && capOkB b l c p t) = true)) (hn : 1 ≤ n) (hi : insideB b l c n = false) :
    Calls Try.prog 11 #[.agg #[.int .i64 b, .int .i64 l, .int .i64 c, .int .i64 p, .int .i64 t, .bool true], .int .i64 n] w fun e w' => e = .returned (.tuple #[.agg #[.int .i64 0, .int .i64 0, .int .i64 0, .int .i64 0, .int .i64 0, .bool false], .int .i64 9]) ∧ Below w.heap.size w w' := by
  have HI := Lib.hid (show (true && capOkB b l c p t && insideB b l c n) = false by rw [hi, Bool.and_false])
  clear hi
  go_enter Try.func11, Try.ntmps11
  go_wp2_with fail
  refine (ddead_is _ _ _ _ _ _ _ _ H.out).mono ?_
  rintro e w1 ⟨rfl, hb⟩
  obtain ⟨hc, hf⟩ := bcell hb
  have hz : w.heap.size + 1 < w1.heap.size := Nat.lt_of_lt_of_le (by simp) hb.size
  have hw1 : Below w.heap.size w w1 := thn (alc (alc0 _ _) _) hb
  go_wp2_with fail
  refine (capin_is false _ _ _ _ _ _ _ _ HI.out).mono ?_
  rintro e w2 ⟨rfl, hb2⟩
  have hw2 : Below w.heap.size w w2 := thn hw1 hb2
  have hz2 : w.heap.size + 1 < w2.heap.size := Nat.lt_of_lt_of_le hz hb2.size
  have hc2 : ∀ x o, x < w.heap.size + 2 → w2.cell? ⟨x, o, none⟩ = ((w.alloc (.cells #[.int .i64 b, .int .i64 l, .int .i64 c, .int .i64 p, .int .i64 t, .bool true] 23)).alloc (.cells #[.int .i64 0, .int .i64 0, .int .i64 0, .int .i64 0, .int .i64 0, .bool false] 23)).cell? ⟨x, o, none⟩ := fun x o hx => by
    rw [hb2.cell (by show x < w1.heap.size; omega), hc x o (by simp; omega)]
  have hf2 : ∀ x o, x < w.heap.size + 2 → w2.frozen? ⟨x, o, none⟩ = ((w.alloc (.cells #[.int .i64 b, .int .i64 l, .int .i64 c, .int .i64 p, .int .i64 t, .bool true] 23)).alloc (.cells #[.int .i64 0, .int .i64 0, .int .i64 0, .int .i64 0, .int .i64 0, .bool false] 23)).frozen? ⟨x, o, none⟩ := fun x o hx => by
    rw [hb2.frozen (by show x < w1.heap.size; omega), hf x o (by simp; omega)]
  clear hc hf hw1 hb hb2 hz
  go_wp2
  refine bodyPost_ret (v := .tuple #[.agg #[.int .i64 0, .int .i64 0, .int .i64 0, .int .i64 0, .int .i64 0, .bool false], .int .i64 9]) (by simp [results, Try.results11, go_sem, hc2]) rfl ⟨rfl, ?_⟩
  exact ((((((hw2.setCell (by simp) _).setCell (by simp) _).setCell (by simp) _).setCell (by simp) _).setCell (by simp) _).setCell (by simp) _)
set_option maxHeartbeats 400000 in
theorem dbounds_yes (b l c p t n : Int) (w : World) (H : Hid ((true && capOkB b l c p t) = true)) (hn : 1 ≤ n) (hi : insideB b l c n = true) :
    Calls Try.prog 11 #[.agg #[.int .i64 b, .int .i64 l, .int .i64 c, .int .i64 p, .int .i64 t, .bool true], .int .i64 n] w fun e w' => e = .returned (.tuple #[.agg #[.int .i64 c, .int .i64 n, .int .i64 c, .int .i64 p, .int .i64 t, .bool true], .int .i64 0]) ∧ Below w.heap.size w w' := by
  have HI := Lib.hid (show (true && capOkB b l c p t && insideB b l c n) = true by rw [H.out, hi]; rfl)
  clear hi
  go_enter Try.func11, Try.ntmps11
  go_wp2_with fail
  refine (ddead_is _ _ _ _ _ _ _ _ H.out).mono ?_
  rintro e w1 ⟨rfl, hb⟩
  obtain ⟨hc, hf⟩ := bcell hb
  have hz : w.heap.size + 1 < w1.heap.size := Nat.lt_of_lt_of_le (by simp) hb.size
  have hw1 : Below w.heap.size w w1 := thn (alc (alc0 _ _) _) hb
  go_wp2_with fail
  refine (capin_is true _ _ _ _ _ _ _ _ HI.out).mono ?_
  rintro e w2 ⟨rfl, hb2⟩
  have hw2 : Below w.heap.size w w2 := thn hw1 hb2
  have hz2 : w.heap.size + 1 < w2.heap.size := Nat.lt_of_lt_of_le hz hb2.size
  have hc2 : ∀ x o, x < w.heap.size + 2 → w2.cell? ⟨x, o, none⟩ = ((w.alloc (.cells #[.int .i64 b, .int .i64 l, .int .i64 c, .int .i64 p, .int .i64 t, .bool true] 23)).alloc (.cells #[.int .i64 0, .int .i64 0, .int .i64 0, .int .i64 0, .int .i64 0, .bool false] 23)).cell? ⟨x, o, none⟩ := fun x o hx => by
    rw [hb2.cell (by show x < w1.heap.size; omega), hc x o (by simp; omega)]
  have hf2 : ∀ x o, x < w.heap.size + 2 → w2.frozen? ⟨x, o, none⟩ = ((w.alloc (.cells #[.int .i64 b, .int .i64 l, .int .i64 c, .int .i64 p, .int .i64 t, .bool true] 23)).alloc (.cells #[.int .i64 0, .int .i64 0, .int .i64 0, .int .i64 0, .int .i64 0, .bool false] 23)).frozen? ⟨x, o, none⟩ := fun x o hx => by
    rw [hb2.frozen (by show x < w1.heap.size; omega), hf x o (by simp; omega)]
  clear hc hf hw1 hb hb2 hz
  go_wp2
  refine bodyPost_ret (v := .tuple #[.agg #[.int .i64 c, .int .i64 n, .int .i64 c, .int .i64 p, .int .i64 t, .bool true], .int .i64 0]) (by simp [results, Try.results11, go_sem, hc2]) rfl ⟨rfl, ?_⟩
  exact ((((((((hw2.setCell (by simp) _).setCell (by simp) _).setCell (by simp) _).setCell (by simp) _).setCell (by simp) _).setCell (by simp) _).setCell (by simp) _).setCell (by simp) _)
set_option maxHeartbeats 400000 in
theorem ddrop_inp (b l c p t n : Int) (w : World) (H : Hid ((true && capOkB b l c p t) = true)) (hn : ¬ (0 ≤ n ∧ n ≤ 31)) :
    Calls Try.prog 12 #[.agg #[.int .i64 b, .int .i64 l, .int .i64 c, .int .i64 p, .int .i64 t, .bool true], .int .i64 n] w fun e w' => e = .returned (.tuple #[.agg #[.int .i64 0, .int .i64 0, .int .i64 0, .int .i64 0, .int .i64 0, .bool false], .int .i64 1]) ∧ Below w.heap.size w w' := by
  have HP := Lib.hid (pmay_no hn)
  clear hn
  go_enter Try.func12, Try.ntmps12
  go_wp2_with fail
  refine (ddead_is _ _ _ _ _ _ _ _ H.out).mono ?_
  rintro e w1 ⟨rfl, hb⟩
  obtain ⟨hc, hf⟩ := bcell hb
  have hz : w.heap.size + 1 < w1.heap.size := Nat.lt_of_lt_of_le (by simp) hb.size
  have hw1 : Below w.heap.size w w1 := thn (alc (alc0 _ _) _) hb
  go_wp2_with fail
  refine (pmay_is false _ _ HP.out).mono ?_
  rintro e w' ⟨rfl, rfl⟩
  go_wp2
  refine bodyPost_ret (v := .tuple #[.agg #[.int .i64 0, .int .i64 0, .int .i64 0, .int .i64 0, .int .i64 0, .bool false], .int .i64 1]) (by simp [results, Try.results12, go_sem, hc]) rfl ⟨rfl, ?_⟩
  exact ((((((hw1.setCell (by simp) _).setCell (by simp) _).setCell (by simp) _).setCell (by simp) _).setCell (by simp) _).setCell (by simp) _)
set_option maxHeartbeats 400000 in
theorem ddrop_yes (b l c p t n : Int) (w : World) (H : Hid ((true && capOkB b l c p t) = true)) (hn : 0 ≤ n ∧ n ≤ 31) :
    Calls Try.prog 12 #[.agg #[.int .i64 b, .int .i64 l, .int .i64 c, .int .i64 p, .int .i64 t, .bool true], .int .i64 n] w fun e w' => e = .returned (.tuple #[.agg #[.int .i64 b, .int .i64 l, .int .i64 c, .int .i64 (plessI p n), .int .i64 t, .bool true], .int .i64 0]) ∧ Below w.heap.size w w' := by
  have HP := Lib.hid (pmay_yes hn)
  clear hn
  go_enter Try.func12, Try.ntmps12
  go_wp2_with fail
  refine (ddead_is _ _ _ _ _ _ _ _ H.out).mono ?_
  rintro e w1 ⟨rfl, hb⟩
  obtain ⟨hc, hf⟩ := bcell hb
  have hz : w.heap.size + 1 < w1.heap.size := Nat.lt_of_lt_of_le (by simp) hb.size
  have hw1 : Below w.heap.size w w1 := thn (alc (alc0 _ _) _) hb
  have hc2 : ∀ x o, x < w.heap.size + 2 → w1.cell? ⟨x, o, none⟩ = ((w.alloc (.cells #[.int .i64 b, .int .i64 l, .int .i64 c, .int .i64 p, .int .i64 t, .bool true] 23)).alloc (.cells #[.int .i64 0, .int .i64 0, .int .i64 0, .int .i64 0, .int .i64 0, .bool false] 23)).cell? ⟨x, o, none⟩ := fun x o hx => hc x o (by simp; omega)
  have hf2 : ∀ x o, x < w.heap.size + 2 → w1.frozen? ⟨x, o, none⟩ = ((w.alloc (.cells #[.int .i64 b, .int .i64 l, .int .i64 c, .int .i64 p, .int .i64 t, .bool true] 23)).alloc (.cells #[.int .i64 0, .int .i64 0, .int .i64 0, .int .i64 0, .int .i64 0, .bool false] 23)).frozen? ⟨x, o, none⟩ := fun x o hx => hf x o (by simp; omega)
  clear hc hf
  go_wp2_with fail
  refine (pmay_is true _ _ HP.out).mono ?_
  rintro e w' ⟨rfl, rfl⟩
  go_wp2_with fail
  refine (pless_any _ _ _).mono ?_
  rintro e w' ⟨rfl, rfl⟩
  go_wp2
  refine bodyPost_ret (v := .tuple #[.agg #[.int .i64 b, .int .i64 l, .int .i64 c, .int .i64 (plessI p n), .int .i64 t, .bool true], .int .i64 0]) (by simp [results, Try.results12, go_sem, hc2]) rfl ⟨rfl, ?_⟩
  exact (((((((hw1.setCell (by simp) _).setCell (by simp) _).setCell (by simp) _).setCell (by simp) _).setCell (by simp) _).setCell (by simp) _).setCell (by simp) _)
set_option maxHeartbeats 400000 in
theorem dmove_out (b l c p t n : Int) (w : World) (H : Hid ((true && capOkB b l c p t) = true)) (hn : n > 1048576 ∨ (¬ n > 1048576 ∧ n < -1048576)) :
    Calls Try.prog 13 #[.agg #[.int .i64 b, .int .i64 l, .int .i64 c, .int .i64 p, .int .i64 t, .bool true], .int .i64 n] w fun e w' => e = .returned (.tuple #[.agg #[.int .i64 0, .int .i64 0, .int .i64 0, .int .i64 0, .int .i64 0, .bool false], .int .i64 9]) ∧ Below w.heap.size w w' := by
  go_enter Try.func13, Try.ntmps13
  go_wp2_with fail
  refine (ddead_is _ _ _ _ _ _ _ _ H.out).mono ?_
  rintro e w1 ⟨rfl, hb⟩
  obtain ⟨hc, hf⟩ := bcell hb
  have hz : w.heap.size + 1 < w1.heap.size := Nat.lt_of_lt_of_le (by simp) hb.size
  have hw1 : Below w.heap.size w w1 := thn (alc (alc0 _ _) _) hb
  rcases hn with hn | ⟨hn0, hn⟩
  all_goals
    go_wp2
    refine bodyPost_ret (v := .tuple #[.agg #[.int .i64 0, .int .i64 0, .int .i64 0, .int .i64 0, .int .i64 0, .bool false], .int .i64 9]) (by simp [results, Try.results13, go_sem, hc]) rfl ⟨rfl, ?_⟩
    exact ((((((hw1.setCell (by simp) _).setCell (by simp) _).setCell (by simp) _).setCell (by simp) _).setCell (by simp) _).setCell (by simp) _)
set_option maxHeartbeats 400000 in
theorem dmove_yes (b l c p t n : Int) (w : World) (H : Hid ((true && capOkB b l c p t) = true)) (hn : -1048576 ≤ n ∧ n ≤ 1048576) (hbb : 0 ≤ b ∧ b < 262144) :
    Calls Try.prog 13 #[.agg #[.int .i64 b, .int .i64 l, .int .i64 c, .int .i64 p, .int .i64 t, .bool true], .int .i64 n] w fun e w' => e = .returned (.tuple #[.agg #[.int .i64 b, .int .i64 l, .int .i64 (b + n), .int .i64 p, .int .i64 t, .bool true], .int .i64 0]) ∧ Below w.heap.size w w' := by
  obtain ⟨hn1, hn2⟩ := hn
  obtain ⟨hb1, hb2⟩ := hbb
  go_enter Try.func13, Try.ntmps13
  go_wp2_with fail
  refine (ddead_is _ _ _ _ _ _ _ _ H.out).mono ?_
  rintro e w1 ⟨rfl, hb⟩
  obtain ⟨hc, hf⟩ := bcell hb
  have hz : w.heap.size + 1 < w1.heap.size := Nat.lt_of_lt_of_le (by simp) hb.size
  have hw1 : Below w.heap.size w w1 := thn (alc (alc0 _ _) _) hb
  have hc2 : ∀ x o, x < w.heap.size + 2 → w1.cell? ⟨x, o, none⟩ = ((w.alloc (.cells #[.int .i64 b, .int .i64 l, .int .i64 c, .int .i64 p, .int .i64 t, .bool true] 23)).alloc (.cells #[.int .i64 0, .int .i64 0, .int .i64 0, .int .i64 0, .int .i64 0, .bool false] 23)).cell? ⟨x, o, none⟩ := fun x o hx => hc x o (by simp; omega)
  have hf2 : ∀ x o, x < w.heap.size + 2 → w1.frozen? ⟨x, o, none⟩ = ((w.alloc (.cells #[.int .i64 b, .int .i64 l, .int .i64 c, .int .i64 p, .int .i64 t, .bool true] 23)).alloc (.cells #[.int .i64 0, .int .i64 0, .int .i64 0, .int .i64 0, .int .i64 0, .bool false] 23)).frozen? ⟨x, o, none⟩ := fun x o hx => hf x o (by simp; omega)
  clear hc hf
  go_wp2
  refine bodyPost_ret (v := .tuple #[.agg #[.int .i64 b, .int .i64 l, .int .i64 (b + n), .int .i64 p, .int .i64 t, .bool true], .int .i64 0]) (by simp [results, Try.results13, go_sem, hc2]) rfl ⟨rfl, ?_⟩
  exact (((((((hw1.setCell (by simp) _).setCell (by simp) _).setCell (by simp) _).setCell (by simp) _).setCell (by simp) _).setCell (by simp) _).setCell (by simp) _)
end Go.Proofs.Ytcknbbffeeldpaa
