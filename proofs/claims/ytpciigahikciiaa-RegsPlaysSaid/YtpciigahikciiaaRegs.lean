/- Contracts of package regs. -/
import Derived.Test.YtpciigahikciiaaCapaR
import Derived.Laws.MakeOwn
import Derived.Laws.StructEq
namespace Go.Proofs.Ytpciigahikciiaa
open Go.RowKit
set_option linter.unusedVariables false
set_option linter.unusedSimpArgs false

theorem nlen_any (W : World) : Calls Try.prog 12 #[.pointer none] W fun e w' => e = .returned (.int .i64 0) ∧ W = w' := by
  go_enter Try.func12, Try.ntmps12
  go_wp2
  go_ret
  exact ⟨rfl, rfl⟩
theorem nthere_any (h : Int) (W : World) : Calls Try.prog 17 #[.pointer none, .int .i64 h] W fun e w' => e = .returned (.bool false) ∧ W = w' := by
  by_cases h0 : 0 ≤ h
  · have h1 : ¬ h < 0 := by omega
    go_enter Try.func17, Try.ntmps17
    go_wp2_with fail
    refine (nlen_any _).mono ?_
    rintro e w' ⟨rfl, rfl⟩
    go_wp2
    go_ret
    exact ⟨ret_bool (by simp <;> omega), rfl⟩
  · go_enter Try.func17, Try.ntmps17
    go_wp2
    go_ret
    exact ⟨ret_bool (by simp <;> omega), rfl⟩
theorem nget_any (h : Int) (W : World) : Calls Try.prog 13 #[.pointer none, .int .i64 h] W fun e w' => e = .returned (.tuple #[.agg #[.int .i64 0, .int .i64 0, .int .i64 0, .int .i64 0, .int .i64 0, .bool false], .int .i64 15]) ∧ Below W.heap.size W w' := by
  go_enter Try.func13, Try.ntmps13
  go_wp2_with fail
  refine (nthere_any _ _).mono ?_
  rintro e w' ⟨rfl, rfl⟩
  go_wp2
  refine bodyPost_ret (v := .tuple #[.agg #[.int .i64 0, .int .i64 0, .int .i64 0, .int .i64 0, .int .i64 0, .bool false], .int .i64 15]) (by simp [results, Try.results13, go_sem]) rfl ⟨rfl, alc0 _ _⟩
theorem nclear_any (h : Int) (W : World) : Calls Try.prog 6 #[.pointer none, .int .i64 h] W fun e w' => e = .returned (.bool false) ∧ W = w' := by
  go_enter Try.func6, Try.ntmps6
  go_wp2_with fail
  refine (nthere_any _ _).mono ?_
  rintro e w' ⟨rfl, rfl⟩
  go_wp2
  go_ret
  exact ⟨rfl, rfl⟩
theorem nlist_any (W : World) : Calls Try.prog 11 #[.pointer none] W fun e w' => e = .returned (.slice none 0 0) ∧ W = w' := by
  go_enter Try.func11, Try.ntmps11
  go_wp2
  go_ret
  exact ⟨rfl, rfl⟩
theorem nput_any (h b l c p t : Int) (v : Bool) (W : World) : Calls Try.prog 9 #[.pointer none, .int .i64 h, .agg #[.int .i64 b, .int .i64 l, .int .i64 c, .int .i64 p, .int .i64 t, .bool v]] W fun e w' => e = .returned (.int .i64 15) ∧ Below W.heap.size W w' := by
  go_enter Try.func9, Try.ntmps9
  go_wp2_with fail
  refine (nthere_any _ _).mono ?_
  rintro e w' ⟨rfl, rfl⟩
  go_wp2
  go_ret
  exact ⟨rfl, alc0 _ _⟩
theorem ncount_any (W : World) : Calls Try.prog 16 #[.pointer none] W fun e w' => e = .returned (.int .i64 0) ∧ W = w' := by
  go_enter Try.func16, Try.ntmps16
  go_wp2_with fail
  refine (nlist_any _).mono ?_
  rintro e w' ⟨rfl, rfl⟩
  go_wp2_with fail
  refine Go.wp_loop_rounds 1 ?_
  rw [rounds_succ]
  go_wp2
  go_ret
  exact ⟨rfl, rfl⟩
/-- So many registers: the object at p, its row at g, with V in its cells. -/
def RegAt (p g k : Nat) (W : World) (V : Nat → Value) : Prop :=
  p < W.heap.size ∧ g < W.heap.size ∧ p ≠ g ∧ k ≤ 64 ∧ W.cell? ⟨p, 0, none⟩ = some (.slice (some ⟨g, 0, none⟩) k k) ∧ ∀ i, i < 6 * k → W.cell? ⟨g, i, none⟩ = some (V i) ∧ W.frozen? ⟨g, i, none⟩ = false
theorem RegAt.below {p g k : Nat} {W W' : World} {V : Nat → Value} (h : RegAt p g k W V) (hb : Below W.heap.size W W') : RegAt p g k W' V := by
  obtain ⟨h1, h2, h3, h4, h5, h6⟩ := h
  exact ⟨Nat.lt_of_lt_of_le h1 hb.size, Nat.lt_of_lt_of_le h2 hb.size, h3, h4, (hb.cell (p := ⟨p, 0, none⟩) h1).trans h5, fun i hi => ⟨(hb.cell (p := ⟨g, i, none⟩) h2).trans (h6 i hi).1, (hb.frozen (p := ⟨g, i, none⟩) h2).trans (h6 i hi).2⟩⟩
theorem rlen_any (p g k : Nat) (W : World) (V : Nat → Value) (H : RegAt p g k W V) : Calls Try.prog 12 #[.pointer (some ⟨p, 0, none⟩)] W fun e w' => e = .returned (.int .i64 k) ∧ W = w' := by
  obtain ⟨h1, h2, h3, h4, h5, h6⟩ := H
  clear h6
  go_enter Try.func12, Try.ntmps12
  go_wp2
  go_ret
  exact ⟨rfl, rfl⟩
theorem rthere_any (p g k : Nat) (h : Int) (W : World) (V : Nat → Value) (H : RegAt p g k W V) (r : Bool) (hr : decide (0 ≤ h ∧ h < k) = r) : Calls Try.prog 17 #[.pointer (some ⟨p, 0, none⟩), .int .i64 h] W fun e w' => e = .returned (.bool r) ∧ W = w' := by
  have HH := Lib.hid H
  have HR := Lib.hid hr
  clear H hr
  by_cases h0 : 0 ≤ h
  · go_enter Try.func17, Try.ntmps17
    go_wp2_with fail
    refine (rlen_any p g k _ V HH.out).mono ?_
    rintro e w' ⟨rfl, rfl⟩
    go_wp2
    go_ret
    exact ⟨ret_bool (by rw [← HR.out, Bool.eq_iff_iff]; simp <;> omega), rfl⟩
  · go_enter Try.func17, Try.ntmps17
    go_wp2
    go_ret
    exact ⟨ret_bool (by rw [← HR.out, Bool.eq_iff_iff]; simp <;> omega), rfl⟩
end Go.Proofs.Ytpciigahikciiaa
