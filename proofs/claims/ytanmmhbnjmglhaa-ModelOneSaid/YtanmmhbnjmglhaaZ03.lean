/- MoB. -/
import Derived.Test.YtanmmhbnjmglhaaZ02
import Derived.Deep.RegionHeld3
namespace Go.Proofs.Ytanmmhbnjmglhaa
set_option maxRecDepth 100000
open Go.RowKit Go.ChangeMaps Go.MapKept
set_option linter.unusedVariables false
set_option linter.unusedSimpArgs false
abbrev z5 : Value := .agg #[.int .i64 0, .int .i64 0, .int .i64 0, .int .i64 0, .int .i64 0]
abbrev rE (n : Int) : Value := .int .i64 n
theorem maccess0 (n p : Int) (W : World) : Calls Try.prog 57 #[z5, rE n, rE p] W fun e w' => e = .returned (rE 7) ∧ Below W.heap.size W w' := by
  go_enter Try.func57, Try.ntmps57
  go_wp2_with fail
  go_ret
  refine ⟨rfl, ?_⟩
  first | exact Below.refl _ _ | exact alc0 _ _ | exact alc (alc0 _ _) _ | exact alc (alc (alc0 _ _) _) _ | exact alc (alc (alc (alc0 _ _) _) _) _
theorem mslot0 (p : Int) (W : World) : Calls Try.prog 59 #[z5, rE p] W fun e w' => e = .returned (rE 7) ∧ Below W.heap.size W w' := by
  go_enter Try.func59, Try.ntmps59
  go_wp2_with fail
  refine (maccess0 _ _ _).mono ?_
  rintro e w1 ⟨rfl, hb⟩
  have HB := Lib.hid ((show Below W.heap.size W _ from by first | exact Below.refl _ _ | exact alc0 _ _ | exact alc (alc0 _ _) _ | exact alc (alc (alc0 _ _) _) _ | exact alc (alc (alc (alc0 _ _) _) _) _).trans (hb.mono (by simp <;> omega)))
  clear hb
  go_wp2_with fail
  go_ret
  refine ⟨rfl, ?_⟩
  first | exact HB.out | exact alc HB.out _ | first | exact Below.refl _ _ | exact alc0 _ _ | exact alc (alc0 _ _) _ | exact alc (alc (alc0 _ _) _) _ | exact alc (alc (alc (alc0 _ _) _) _) _
theorem mwhole0 (P : Value) (W : World) : Calls Try.prog 56 #[P, z5] W fun e w' => e = .returned (rE 7) ∧ Below W.heap.size W w' := by
  go_enter Try.func56, Try.ntmps56
  go_wp2_with fail
  go_ret
  refine ⟨rfl, ?_⟩
  first | exact Below.refl _ _ | exact alc0 _ _ | exact alc (alc0 _ _) _ | exact alc (alc (alc0 _ _) _) _ | exact alc (alc (alc (alc0 _ _) _) _) _
theorem musable0 (P : Value) (W : World) : Calls Try.prog 35 #[P, z5] W fun e w' => e = .returned (.tuple #[rE 0, rE 7]) ∧ Below W.heap.size W w' := by
  go_enter Try.func35, Try.ntmps35
  go_wp2_with fail
  refine (mwhole0 _ _).mono ?_
  rintro e w1 ⟨rfl, hb⟩
  have HB := Lib.hid ((show Below W.heap.size W _ from by first | exact Below.refl _ _ | exact alc0 _ _ | exact alc (alc0 _ _) _ | exact alc (alc (alc0 _ _) _) _ | exact alc (alc (alc (alc0 _ _) _) _) _).trans (hb.mono (by simp <;> omega)))
  clear hb
  go_wp2_with fail
  refine bodyPost_ret (v := .tuple #[rE 0, rE 7]) (by simp [results, Try.results35, go_sem]) rfl ⟨rfl, ?_⟩
  first | exact HB.out | exact alc HB.out _ | first | exact Below.refl _ _ | exact alc0 _ _ | exact alc (alc0 _ _) _ | exact alc (alc (alc0 _ _) _) _ | exact alc (alc (alc (alc0 _ _) _) _) _
theorem mread0 (P : Value) (n : Int) (W : World) : Calls Try.prog 36 #[P, z5, rE n] W fun e w' => e = .returned (.tuple #[.slice none 0 0, rE 7]) ∧ Below W.heap.size W w' := by
  go_enter Try.func36, Try.ntmps36
  go_wp2_with fail
  refine (maccess0 _ _ _).mono ?_
  rintro e w1 ⟨rfl, hb⟩
  have HB := Lib.hid ((show Below W.heap.size W _ from by first | exact Below.refl _ _ | exact alc0 _ _ | exact alc (alc0 _ _) _ | exact alc (alc (alc0 _ _) _) _ | exact alc (alc (alc (alc0 _ _) _) _) _).trans (hb.mono (by simp <;> omega)))
  clear hb
  go_wp2_with fail
  refine bodyPost_ret (v := .tuple #[.slice none 0 0, rE 7]) (by simp [results, Try.results36, go_sem]) rfl ⟨rfl, ?_⟩
  first | exact HB.out | exact alc HB.out _ | first | exact Below.refl _ _ | exact alc0 _ _ | exact alc (alc0 _ _) _ | exact alc (alc (alc0 _ _) _) _ | exact alc (alc (alc (alc0 _ _) _) _) _
theorem mwrite0 (P : Value) (A : Option Addr) (n c : Nat) (W : World) : Calls Try.prog 37 #[P, z5, .slice A n c] W fun e w' => e = .returned (rE 7) ∧ Below W.heap.size W w' := by
  go_enter Try.func37, Try.ntmps37
  go_wp2_with fail
  refine (maccess0 _ _ _).mono ?_
  rintro e w1 ⟨rfl, hb⟩
  have HB := Lib.hid ((show Below W.heap.size W _ from by first | exact Below.refl _ _ | exact alc0 _ _ | exact alc (alc0 _ _) _ | exact alc (alc (alc0 _ _) _) _ | exact alc (alc (alc (alc0 _ _) _) _) _).trans (hb.mono (by simp <;> omega)))
  clear hb
  go_wp2_with fail
  go_ret
  refine ⟨rfl, ?_⟩
  first | exact HB.out | exact alc HB.out _ | first | exact Below.refl _ _ | exact alc0 _ _ | exact alc (alc0 _ _) _ | exact alc (alc (alc0 _ _) _) _ | exact alc (alc (alc (alc0 _ _) _) _) _
theorem mstore0 (P : Value) (a b c d f : Int) (W : World) : Calls Try.prog 38 #[P, z5, .agg #[.int .i64 a, .int .i64 b, .int .i64 c, .int .i64 d, .int .i64 f]] W fun e w' => e = .returned (rE 7) ∧ Below W.heap.size W w' := by
  go_enter Try.func38, Try.ntmps38
  go_wp2_with fail
  refine (mslot0 _ _).mono ?_
  rintro e w1 ⟨rfl, hb⟩
  have HB := Lib.hid ((show Below W.heap.size W _ from by first | exact Below.refl _ _ | exact alc0 _ _ | exact alc (alc0 _ _) _ | exact alc (alc (alc0 _ _) _) _ | exact alc (alc (alc (alc0 _ _) _) _) _).trans (hb.mono (by simp <;> omega)))
  clear hb
  go_wp2_with fail
  go_ret
  refine ⟨rfl, ?_⟩
  first | exact HB.out | exact alc HB.out _ | first | exact Below.refl _ _ | exact alc0 _ _ | exact alc (alc0 _ _) _ | exact alc (alc (alc0 _ _) _) _ | exact alc (alc (alc (alc0 _ _) _) _) _
theorem mbounds0 (n : Int) (W : World) : Calls Try.prog 43 #[z5, rE n] W fun e w' => e = .returned (.tuple #[z5, rE 7]) ∧ Below W.heap.size W w' := by
  go_enter Try.func43, Try.ntmps43
  go_wp2_with fail
  refine bodyPost_ret (v := .tuple #[z5, rE 7]) (by simp [results, Try.results43, go_sem]) rfl ⟨rfl, ?_⟩
  first | exact Below.refl _ _ | exact alc0 _ _ | exact alc (alc0 _ _) _ | exact alc (alc (alc0 _ _) _) _ | exact alc (alc (alc (alc0 _ _) _) _) _
theorem mdrop0 (n : Int) (W : World) : Calls Try.prog 44 #[z5, rE n] W fun e w' => e = .returned (.tuple #[z5, rE 7]) ∧ Below W.heap.size W w' := by
  go_enter Try.func44, Try.ntmps44
  go_wp2_with fail
  refine bodyPost_ret (v := .tuple #[z5, rE 7]) (by simp [results, Try.results44, go_sem]) rfl ⟨rfl, ?_⟩
  first | exact Below.refl _ _ | exact alc0 _ _ | exact alc (alc0 _ _) _ | exact alc (alc (alc0 _ _) _) _ | exact alc (alc (alc (alc0 _ _) _) _) _
theorem mmove0 (n : Int) (W : World) : Calls Try.prog 45 #[z5, rE n] W fun e w' => e = .returned (.tuple #[z5, rE 7]) ∧ Below W.heap.size W w' := by
  go_enter Try.func45, Try.ntmps45
  go_wp2_with fail
  refine bodyPost_ret (v := .tuple #[z5, rE 7]) (by simp [results, Try.results45, go_sem]) rfl ⟨rfl, ?_⟩
  first | exact Below.refl _ _ | exact alc0 _ _ | exact alc (alc0 _ _) _ | exact alc (alc (alc0 _ _) _) _ | exact alc (alc (alc (alc0 _ _) _) _) _
section
variable {m mb r : Nat} {C : Cf} {md : Nat} {ch : List (Int × Nat)} {rs : List Rf} {W : World}
theorem mload0 (W : World) (P : Value) : Calls Try.prog 46 #[P, z5] W fun e w' => e = .returned (.tuple #[z5, rE 7]) ∧ Below W.heap.size W w' := by
  go_enter Try.func46, Try.ntmps46
  go_wp2_with fail
  obtain ⟨w3, hw3⟩ : ∃ w3, (W.alloc (.cells #[.int .i64 0, .int .i64 0, .int .i64 0, .int .i64 0, .int .i64 0] 52)).alloc (.cells #[.int .i64 0, .int .i64 0, .int .i64 0, .int .i64 0, .int .i64 0] 52) = w3 := ⟨_, rfl⟩
  have hB3 : Below W.heap.size W w3 := by rw [← hw3]; exact alc (alc0 _ _) _
  have hs3 : w3.heap.size = W.heap.size + 2 := by rw [← hw3]; simp
  have hd3 : ∀ o, o < 5 → w3.cell? ⟨W.heap.size + 1, o, none⟩ = some (.int .i64 0) := fun o ho => by
    rw [← hw3]
    rcases o with _ | _ | _ | _ | _ | o <;> first | omega | simp
  have hf3 : ∀ o, w3.frozen? ⟨W.heap.size + 1, o, none⟩ = false := fun o => by rw [← hw3]; simp
  rw [hw3]
  have hlt : W.heap.size + 1 < w3.heap.size := by omega
  refine (mslot0 _ _).mono ?_
  rintro e w5 ⟨rfl, hb5⟩
  have y0 := (hb5.cell (p := ⟨W.heap.size + 1, 0, none⟩) hlt).trans (hd3 0 (by decide))
  have y1 := (hb5.cell (p := ⟨W.heap.size + 1, 1, none⟩) hlt).trans (hd3 1 (by decide))
  have y2 := (hb5.cell (p := ⟨W.heap.size + 1, 2, none⟩) hlt).trans (hd3 2 (by decide))
  have y3 := (hb5.cell (p := ⟨W.heap.size + 1, 3, none⟩) hlt).trans (hd3 3 (by decide))
  have y4 := (hb5.cell (p := ⟨W.heap.size + 1, 4, none⟩) hlt).trans (hd3 4 (by decide))
  have z0 := (hb5.frozen (p := ⟨W.heap.size + 1, 0, none⟩) hlt).trans (hf3 0)
  have z1 := (hb5.frozen (p := ⟨W.heap.size + 1, 1, none⟩) hlt).trans (hf3 1)
  have z2 := (hb5.frozen (p := ⟨W.heap.size + 1, 2, none⟩) hlt).trans (hf3 2)
  have z3 := (hb5.frozen (p := ⟨W.heap.size + 1, 3, none⟩) hlt).trans (hf3 3)
  have z4 := (hb5.frozen (p := ⟨W.heap.size + 1, 4, none⟩) hlt).trans (hf3 4)
  have HB5 := Lib.hid (thn hB3 hb5)
  clear hb5 hf3 hd3 hw3 hB3
  go_wp2_with fail
  refine bodyPost_ret (v := .tuple #[z5, rE 7]) (by simp [results, Try.results46, go_sem, y0, y1, y2, y3, y4]) rfl ⟨rfl, ?_⟩
  exact HB5.out.setCell (p := ⟨W.heap.size + 1, 0, none⟩) (by simp) _ |>.setCell (p := ⟨W.heap.size + 1, 1, none⟩) (by simp) _ |>.setCell (p := ⟨W.heap.size + 1, 2, none⟩) (by simp) _ |>.setCell (p := ⟨W.heap.size + 1, 3, none⟩) (by simp) _ |>.setCell (p := ⟨W.heap.size + 1, 4, none⟩) (by simp) _
theorem mfree_no (t : Int) (h : MO m mb r C md ch rs W) (ht : t < 0 ∨ C.th ≤ t) : Calls Try.prog 34 #[.pointer (some ⟨m, 0, none⟩), .int .i64 t, z5] W fun e w' => e = .returned (rE 1) ∧ Below W.heap.size W w' := by
  have HC := Lib.hid (fun o => mthread_no (W := W.alloc o) t (h.below (alc0 _ o)) ht)
  clear h
  go_enter Try.func34, Try.ntmps34
  go_wp2_with fail
  refine (HC.out _).mono ?_
  rintro e w1 ⟨rfl, rfl⟩
  go_wp2_with fail
  go_ret
  exact ⟨rfl, alc0 _ _⟩
theorem mfree_dead (t : Int) (h : MO m mb r C md ch rs W) (ht : 0 ≤ t ∧ t < C.th) : Calls Try.prog 34 #[.pointer (some ⟨m, 0, none⟩), .int .i64 t, z5] W fun e w' => e = .returned (rE 7) ∧ Below W.heap.size W w' := by
  have HC := Lib.hid (fun o => mthread_yes (W := W.alloc o) t (h.below (alc0 _ o)) ht)
  clear h
  go_enter Try.func34, Try.ntmps34
  go_wp2_with fail
  refine (HC.out _).mono ?_
  rintro e w1 ⟨rfl, rfl⟩
  go_wp2_with fail
  refine (mwhole0 _ _).mono ?_
  rintro e w1 ⟨rfl, hb⟩
  have HB := Lib.hid ((alc0 W _).trans (hb.mono (by simp)))
  clear hb
  go_wp2_with fail
  go_ret
  exact ⟨rfl, HB.out⟩
end
end Go.Proofs.Ytanmmhbnjmglhaa
