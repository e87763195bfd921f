/- Package tags: the methods of none; the statements' own example. -/
import Derived.Test.YtgjahmdfkbdcpaaTagsS
import Derived.Laws.Rows
namespace Go.Proofs.Ytgjahmdfkbdcpaa
open Go.RowKit
set_option linter.unusedVariables false
set_option linter.unusedSimpArgs false

theorem ntget (W : World) : Calls Try.prog 8 #[.pointer none, .int .i64 0] W fun e w' => e = .returned (.int .i64 (-1)) ∧ W = w' := by
  go_enter Try.func8, Try.ntmps8
  go_wp2
  go_ret
  exact ⟨rfl, rfl⟩
theorem ntset (W : World) : Calls Try.prog 6 #[.pointer none, .int .i64 0, .int .i64 1, .int .i64 1] W fun e w' => e = .returned (.bool false) ∧ W = w' := by
  go_enter Try.func6, Try.ntmps6
  go_wp2
  go_ret
  exact ⟨rfl, rfl⟩
theorem ntall (W : World) : Calls Try.prog 7 #[.pointer none, .int .i64 0, .int .i64 1, .int .i64 0] W fun e w' => e = .returned (.bool false) ∧ W = w' := by
  go_enter Try.func7, Try.ntmps7
  go_wp2
  go_ret
  exact ⟨rfl, rfl⟩

def cntZ : Array Value := #[.int .i64 0, .int .i64 0, .int .i64 0, .int .i64 0, .int .i64 0, .int .i64 0, .int .i64 0, .int .i64 0, .int .i64 0, .int .i64 0, .int .i64 0, .int .i64 0, .int .i64 0, .int .i64 0, .int .i64 0, .int .i64 0]
theorem ntcount (W : World) : Calls Try.prog 10 #[.pointer none] W fun e w' => e = .returned (.agg cntZ) ∧ Below W.heap.size W w' := by
  go_enter Try.func10, Try.ntmps10
  go_wp2
  refine bodyPost_ret (results_cell_row rfl _ _ W.heap.size 28 cntZ (0, 0) _ rfl ?_ Try.underlying28 rfl (by kernel_rfl)) rfl ⟨rfl, alc (alc0 _ _) _⟩
  rw [heap_alloc_old _ _ (by simp)]
  exact heap_alloc_new _ _

theorem allR_same {f : Nat → Nat} {g v : Nat} (n : Nat) : allR (setF f g n v) g v n = true := by
  have : ∀ k, k ≤ n → allR (setF f g n v) g v k = true := by
    intro k hk
    induction k with
    | zero => rfl
    | succ k ih =>
      rw [allR, ih (by omega)]
      have : setF f g n v (g + k) = v := by unfold setF; rw [if_pos (by omega)]
      rw [this]; simp
  exact this n (Nat.le_refl _)

set_option maxHeartbeats 1600000 in
theorem t06awake_any (w : World) :
    Calls Try.prog 9 #[] w fun e w' => e = .returned (.bool true) ∧ Below w.heap.size w w' := by
  go_enter Try.func9, Try.ntmps9
  go_wp2_with fail
  refine (tnew_any _).mono ?_
  rintro e v1 ⟨rfl, ht1, hb1⟩
  have HT1 := Lib.hid ht1; clear ht1
  go_wp2_with fail
  refine (tset_yes w.heap.size 1 2 5 _ _ HT1.out (by decide) (by decide) (by decide)).mono ?_
  rintro e v2 ⟨rfl, ht2, hb2, _, _⟩
  have HT2 := Lib.hid ht2
  have hbel2 : Below w.heap.size w v2 := hb1.trans hb2
  clear ht2 hb1 hb2 HT1
  go_wp2_with fail
  refine (tget_in _ 2 1 _ _ HT2.out (by decide) (by decide)).mono ?_
  rintro e w' ⟨rfl, q3, hw3⟩
  rw [show setF (fun _ => 0) 1 2 5 2 = 5 from rfl]
  have HT3 : Hid (TagIs w.heap.size w' (setF (fun _ => 0) 1 2 5)) := Lib.hid (by rw [hw3]; exact HT2.out)
  have hbel3 : Below w.heap.size w w' := by rw [hw3]; exact below_drewN hbel2 q3
  clear hw3 HT2 hbel2
  go_wp2_with fail
  refine (tget_in _ 3 1 _ _ HT3.out (by decide) (by decide)).mono ?_
  rintro e w4 ⟨rfl, q4, hw4⟩
  rw [show setF (fun _ => 0) 1 2 5 3 = 0 from rfl]
  have HT4 : Hid (TagIs w.heap.size w4 (setF (fun _ => 0) 1 2 5)) := Lib.hid (by rw [hw4]; exact HT3.out)
  have hbel4 : Below w.heap.size w w4 := by rw [hw4]; exact below_drewN hbel3 q4
  clear hw4 HT3 hbel3
  go_wp2_with fail
  refine (tall_in _ 1 2 5 _ _ HT4.out (by decide) (by decide)).mono ?_
  rintro e w5 ⟨rfl, q5, hw5⟩
  rw [show allR (setF (fun _ => 0) 1 2 5) 1 5 2 = true from by decide]
  have HT5 : Hid (TagIs w.heap.size w5 (setF (fun _ => 0) 1 2 5)) := Lib.hid (by rw [hw5]; exact HT4.out)
  have hbel5 : Below w.heap.size w w5 := by rw [hw5]; exact below_drewN hbel4 q5
  clear hw5 HT4 hbel4
  go_wp2_with fail
  refine (tall_in _ 0 2 5 _ _ HT5.out (by decide) (by decide)).mono ?_
  rintro e w6 ⟨rfl, q6, hw6⟩
  rw [show allR (setF (fun _ => 0) 1 2 5) 0 5 2 = false from by decide]
  have hbel6 : Below w.heap.size w w6 := by rw [hw6]; exact below_drewN hbel5 q6
  clear hw6
  go_wp2
  go_ret
  exact ⟨rfl, hbel6⟩
end Go.Proofs.Ytgjahmdfkbdcpaa
