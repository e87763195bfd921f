/- BrF. -/
import Derived.Test.YtnfcpohbdkionaaGreatDoorZ27
import Derived.Test.YtnfcpohbdkionaaGreatDoorZ28
namespace Go.Proofs.YtnfcpohbdkionaaGreatDoor
set_option maxRecDepth 100000
open Go.RowKit Go.ChangeMaps Go.MapKept
set_option linter.unusedVariables false
set_option linter.unusedSimpArgs false
def touchB (b l pb pl : Int) : Bool := decide (0 < pl) && (decide (pb / 16 ≤ (b + l - 1) / 16) && decide (b / 16 ≤ (pb + pl - 1) / 16))
def goodB (b l t pb pl : Int) : Bool := decide (t = 1) && !touchB b l pb pl
theorem few_alive {b l c p t : Int} (h : 0 ≤ b ∧ b ≤ 1023 ∧ 1 ≤ l ∧ l ≤ 1024 - b ∧ b - 16 ≤ c ∧ c ≤ b + 80 ∧ 0 ≤ c ∧ 0 ≤ p ∧ p ≤ 31 ∧ 1 ≤ t ∧ t ≤ 2) : aliveB s37b b l c p t true = decide (t = 1) := by
  have hm : mayB b l = true := mayB_iff.2 (by omega)
  have hp : pmayB p = true := by simp only [pmayB, decide_eq_true_eq]; omega
  have ht : tagI s37b b = 1 := by
    have : b = ((b.toNat : Nat) : Int) := by omega
    rw [this]
    have hb : b.toNat < 1024 := by omega
    generalize b.toNat = n at *
    have h1 : openB s37b.pg (n : Int) 1 = true := by
      rw [openB, mayB_iff.2 (by omega), Bool.true_and]
      refine wholeF_iff.2 (fun y y1 y2 => ?_)
      show ((fun _ => false) y || decide ((0 : Int) ≤ y ∧ (y : Int) < 0 + 4)) = true
      rw [decide_eq_true (by omega), Bool.or_true]
    rw [tagI, if_pos h1]
    show (((setF s37.f (grF 0) (grN 0 1024) 1) ((n : Int) / 16).toNat : Nat) : Int) = 1
    have h2 : grF 0 = 0 := by decide
    have h3 : grN 0 1024 = 64 := by decide
    rw [h2, h3, setF, if_pos (by omega)]
    rfl
  have h1 : capMayB b l c p t true = true := by
    simp only [capMayB, capOkB, hm, hp, if_true, Bool.true_and, Bool.and_eq_true, decide_eq_true_eq]
    omega
  rw [aliveB, h1, ht, Bool.true_and, Bool.true_and, decide_eq_true (show 0 < t by omega), Bool.true_and, decide_eq_decide]
  omega
theorem few_good {b l c p t pb pl : Int} {ws : List Nat} (h : 0 ≤ b ∧ b ≤ 1023 ∧ 1 ≤ l ∧ l ≤ 1024 - b ∧ b - 16 ≤ c ∧ c ≤ b + 80 ∧ 0 ≤ c ∧ 0 ≤ p ∧ p ≤ 31 ∧ 1 ≤ t ∧ t ≤ 2) (hp : PaintIs pb pl ws) (h0 : 0 ≤ pb ∧ pb ≤ 1023 ∧ 0 ≤ pl ∧ pl ≤ 63) :
    (goodB b l t pb pl = true → GoodIs s37b ws b l c p t true b l c p t true) ∧ (goodB b l t pb pl = false → GoodIs s37b ws b l c p t true 0 0 0 0 0 false) := by
  have ha := few_alive h
  have hm : mayB b l = true := mayB_iff.2 (by omega)
  obtain ⟨e1, e2⟩ := spG hm
  have hs : SomeR 16384 (spF b l 16) (spN b l 16) ws (touchB b l pb pl) := by
    rw [e1, e2]
    cases ht : touchB b l pb pl with
    | true =>
      simp only [touchB, Bool.and_eq_true, decide_eq_true_eq] at ht
      refine some_true (max (b / 16) (pb / 16)).toNat (by omega) (by omega) (by omega) (by omega) (by omega) ?_
      rw [hp, decide_eq_true (by omega)]
    | false =>
      refine some_false (fun y h1 h2 => ?_)
      rw [hp, decide_eq_false]
      intro hy
      have : touchB b l pb pl = true := by
        simp only [touchB, Bool.and_eq_true, decide_eq_true_eq]
        omega
      rw [this] at ht
      exact absurd ht (by decide)
  constructor
  · intro hg
    simp only [goodB, Bool.and_eq_true, decide_eq_true_eq, Bool.not_eq_true'] at hg
    rw [hg.2] at hs
    exact .inl ⟨by rw [ha, decide_eq_true hg.1], hs, rfl, rfl, rfl, rfl, rfl, rfl⟩
  · intro hg
    refine .inr ⟨?_, rfl, rfl, rfl, rfl, rfl, rfl⟩
    by_cases h1 : t = 1
    · simp only [goodB, decide_eq_true h1, Bool.true_and, Bool.not_eq_false'] at hg
      rw [hg] at hs
      exact .inr ⟨by rw [ha, decide_eq_true h1], hs⟩
    · exact .inl (by rw [ha, decide_eq_false h1])
set_option maxHeartbeats 1600000 in
theorem w37good (b l c p t : Int) (v : Bool) (pb pl : Int) (W : World) (h : 0 ≤ b ∧ b ≤ 1023 ∧ 1 ≤ l ∧ l ≤ 1024 - b) (h0 : 0 ≤ pb ∧ pb ≤ 1023 ∧ 0 ≤ pl ∧ pl ≤ 63) :
    Calls Tryz.prog 7 #[.agg #[.int .i64 b, .int .i64 l, .int .i64 c, .int .i64 p, .int .i64 t, .bool v], .agg #[.int .i64 pb, .int .i64 pl]] W fun e w' => e = .returned (.bool (goodB b l t pb pl)) ∧ Below W.heap.size W w' := by
  have hB := Lib.hid (alc (alc0 W (.cells #[.int .i64 b, .int .i64 l, .int .i64 c, .int .i64 p, .int .i64 t, .bool v] 25)) (.cells #[.int .i64 pb, .int .i64 pl] 23))
  obtain ⟨r, hr⟩ : ∃ r, Hid (r = goodB b l t pb pl) := ⟨_, Lib.hid rfl⟩
  rw [← hr.out]
  by_cases ht : t = 1
  · subst ht
    go_enter Tryz.func7, Tryz.ntmps7
    go_wp2_with fail
    all_goals
      refine bodyPost_ret (v := .bool r) ?_ rfl ⟨rfl, hB.out⟩
      simp [results, Tryz.results7, go_sem]
      rw [hr.out, goodB, touchB, decide_eq_true (rfl : (1 : Int) = 1), Bool.true_and, Bool.eq_iff_iff]
      simp only [Bool.and_eq_true, Bool.not_eq_true', Bool.not_eq_false', decide_eq_true_eq, Bool.and_eq_false_iff, decide_eq_false_iff_not, Bool.false_eq_true, iff_true, false_iff, true_iff, iff_false, Bool.not_eq_true, Bool.not_eq_false]
      omega
  · have ht1 : (t == 1) = false := by simpa using ht
    go_enter Tryz.func7, Tryz.ntmps7
    go_wp2_with fail
    all_goals
      refine bodyPost_ret (v := .bool r) ?_ rfl ⟨rfl, hB.out⟩
      simp [results, Tryz.results7, go_sem]
      rw [hr.out, goodB, decide_eq_false ht, Bool.false_and]
end Go.Proofs.YtnfcpohbdkionaaGreatDoor
