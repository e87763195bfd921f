/- Contracts of package conf: Of, Fit, Small, Large, of what may be made so. -/
import Derived.Test.YtapkennnhnajnaaConfC
import Derived.Test.YtapkennnhnajnaaClassH
namespace Go.Proofs.Ytapkennnhnajnaa
open Go.RowKit
set_option linter.unusedVariables false
set_option linter.unusedSimpArgs false

set_option maxHeartbeats 800000 in
theorem cof_out (pg rg lg th ca ba sh re mo fi key : Int) (a : Int) (w : World) (HI : Hid (cfI pg rg lg th ca ba sh re mo fi = 0)) (HR : Hid ((5 ≤ rg ∧ rg ≤ 16) ∧ (0 ≤ lg ∧ lg ≤ 1024))) (hat : ¬ (0 ≤ a ∧ a ≤ 262143)) :
    Calls Try.prog 9 #[.agg #[.int .i64 pg, .int .i64 rg, .int .i64 lg, .int .i64 th, .int .i64 ca, .int .i64 ba, .int .i64 sh, .int .i64 re, .int .i64 mo, .int .i64 fi, .int .u64 key], .int .i64 a] w fun e w' => e = .returned (.tuple #[.int .i64 0, .bool false]) ∧ Below w.heap.size w w' := by
  go_enter Try.func9, Try.ntmps9
  go_wp2_with fail
  refine (cchk_is _ _ _ _ _ _ _ _ _ _ _ _ _ HI.out).mono ?_
  rintro e w1 ⟨rfl, hb⟩
  obtain ⟨hc, hf⟩ := bcell hb
  have hw1 := thn (alc0 _ _) hb
  have hz : w.heap.size < w1.heap.size := Nat.lt_of_lt_of_le (by simp) hb.size
  go_wp2_with fail
  refine (btw_is false _ _ _ _ (by first | exact decide_eq_true hat | exact decide_eq_false hat)).mono ?_
  rintro e w' ⟨rfl, rfl⟩
  go_wp2
  go_ret2
  exact ⟨rfl, hw1⟩
set_option maxHeartbeats 800000 in
theorem cof_small (pg rg lg th ca ba sh re mo fi key : Int) (a : Int) (w : World) (HI : Hid (cfI pg rg lg th ca ba sh re mo fi = 0)) (HR : Hid ((5 ≤ rg ∧ rg ≤ 16) ∧ (0 ≤ lg ∧ lg ≤ 1024))) (PG Q : Int) (hat : 0 ≤ a ∧ a ≤ 262143) (hPG : a / 256 = PG) (hs : PG < rg * 20) (hQ : PG / rg = Q) :
    Calls Try.prog 9 #[.agg #[.int .i64 pg, .int .i64 rg, .int .i64 lg, .int .i64 th, .int .i64 ca, .int .i64 ba, .int .i64 sh, .int .i64 re, .int .i64 mo, .int .i64 fi, .int .u64 key], .int .i64 a] w fun e w' => e = .returned (.tuple #[.int .i64 Q, .bool true]) ∧ Below w.heap.size w w' := by
  obtain ⟨hr1, hr2⟩ := HR.out
  obtain ⟨hr3, hr4⟩ := hr1
  obtain ⟨hr5, hr6⟩ := hr2
  obtain ⟨a1, a2⟩ := hat
  have hat : 0 ≤ a ∧ a ≤ 262143 := ⟨a1, a2⟩
  have g1 : a.tdiv 256 = PG := by rw [Int.tdiv_eq_ediv_of_nonneg a1]; exact hPG
  have p1 : 0 ≤ PG ∧ PG ≤ 1023 := by omega
  obtain ⟨p1, p2⟩ := p1
  have g3 : PG.tdiv rg = Q := by rw [Int.tdiv_eq_ediv_of_nonneg p1]; exact hQ
  have hne : ¬ rg = 0 := by omega
  have hQ2 : 0 ≤ Q ∧ Q ≤ 1023 := by
    rw [← hQ]
    exact ⟨Int.ediv_nonneg p1 (by omega), Int.le_trans (Int.ediv_le_self _ p1) p2⟩
  obtain ⟨hQ3, hQ4⟩ := hQ2
  go_enter Try.func9, Try.ntmps9
  go_wp2_with fail
  refine (cchk_is _ _ _ _ _ _ _ _ _ _ _ _ _ HI.out).mono ?_
  rintro e w1 ⟨rfl, hb⟩
  obtain ⟨hc, hf⟩ := bcell hb
  have hw1 := thn (alc0 _ _) hb
  have hz : w.heap.size < w1.heap.size := Nat.lt_of_lt_of_le (by simp) hb.size
  go_wp2_with fail
  refine (btw_is true _ _ _ _ (by first | exact decide_eq_true hat | exact decide_eq_false hat)).mono ?_
  rintro e w' ⟨rfl, rfl⟩
  go_wp2
  go_ret2
  exact ⟨rfl, hw1⟩
set_option maxHeartbeats 800000 in
theorem cof_large (pg rg lg th ca ba sh re mo fi key : Int) (a : Int) (w : World) (HI : Hid (cfI pg rg lg th ca ba sh re mo fi = 0)) (HR : Hid ((5 ≤ rg ∧ rg ≤ 16) ∧ (0 ≤ lg ∧ lg ≤ 1024))) (PG : Int) (hat : 0 ≤ a ∧ a ≤ 262143) (hPG : a / 256 = PG) (hs : ¬ PG < rg * 20) (hl : PG < rg * 20 + lg) :
    Calls Try.prog 9 #[.agg #[.int .i64 pg, .int .i64 rg, .int .i64 lg, .int .i64 th, .int .i64 ca, .int .i64 ba, .int .i64 sh, .int .i64 re, .int .i64 mo, .int .i64 fi, .int .u64 key], .int .i64 a] w fun e w' => e = .returned (.tuple #[.int .i64 (-1), .bool true]) ∧ Below w.heap.size w w' := by
  obtain ⟨hr1, hr2⟩ := HR.out
  obtain ⟨hr3, hr4⟩ := hr1
  obtain ⟨hr5, hr6⟩ := hr2
  obtain ⟨a1, a2⟩ := hat
  have hat : 0 ≤ a ∧ a ≤ 262143 := ⟨a1, a2⟩
  have g1 : a.tdiv 256 = PG := by rw [Int.tdiv_eq_ediv_of_nonneg a1]; exact hPG
  have p1 : 0 ≤ PG ∧ PG ≤ 1023 := by omega
  obtain ⟨p1, p2⟩ := p1
  go_enter Try.func9, Try.ntmps9
  go_wp2_with fail
  refine (cchk_is _ _ _ _ _ _ _ _ _ _ _ _ _ HI.out).mono ?_
  rintro e w1 ⟨rfl, hb⟩
  obtain ⟨hc, hf⟩ := bcell hb
  have hw1 := thn (alc0 _ _) hb
  have hz : w.heap.size < w1.heap.size := Nat.lt_of_lt_of_le (by simp) hb.size
  go_wp2_with fail
  refine (btw_is true _ _ _ _ (by first | exact decide_eq_true hat | exact decide_eq_false hat)).mono ?_
  rintro e w' ⟨rfl, rfl⟩
  go_wp2_with fail
  refine (call_is _ _ _ _ _ _ _ _ _ _ _ _ HR.out.1 HR.out.2).mono ?_
  rintro e w2 ⟨rfl, hb2⟩
  go_wp2
  go_ret2
  exact ⟨rfl, thn hw1 hb2⟩
set_option maxHeartbeats 800000 in
theorem cof_none (pg rg lg th ca ba sh re mo fi key : Int) (a : Int) (w : World) (HI : Hid (cfI pg rg lg th ca ba sh re mo fi = 0)) (HR : Hid ((5 ≤ rg ∧ rg ≤ 16) ∧ (0 ≤ lg ∧ lg ≤ 1024))) (PG : Int) (hat : 0 ≤ a ∧ a ≤ 262143) (hPG : a / 256 = PG) (hs : ¬ PG < rg * 20) (hl : ¬ PG < rg * 20 + lg) :
    Calls Try.prog 9 #[.agg #[.int .i64 pg, .int .i64 rg, .int .i64 lg, .int .i64 th, .int .i64 ca, .int .i64 ba, .int .i64 sh, .int .i64 re, .int .i64 mo, .int .i64 fi, .int .u64 key], .int .i64 a] w fun e w' => e = .returned (.tuple #[.int .i64 (-1), .bool false]) ∧ Below w.heap.size w w' := by
  obtain ⟨hr1, hr2⟩ := HR.out
  obtain ⟨hr3, hr4⟩ := hr1
  obtain ⟨hr5, hr6⟩ := hr2
  obtain ⟨a1, a2⟩ := hat
  have hat : 0 ≤ a ∧ a ≤ 262143 := ⟨a1, a2⟩
  have g1 : a.tdiv 256 = PG := by rw [Int.tdiv_eq_ediv_of_nonneg a1]; exact hPG
  have p1 : 0 ≤ PG ∧ PG ≤ 1023 := by omega
  obtain ⟨p1, p2⟩ := p1
  go_enter Try.func9, Try.ntmps9
  go_wp2_with fail
  refine (cchk_is _ _ _ _ _ _ _ _ _ _ _ _ _ HI.out).mono ?_
  rintro e w1 ⟨rfl, hb⟩
  obtain ⟨hc, hf⟩ := bcell hb
  have hw1 := thn (alc0 _ _) hb
  have hz : w.heap.size < w1.heap.size := Nat.lt_of_lt_of_le (by simp) hb.size
  go_wp2_with fail
  refine (btw_is true _ _ _ _ (by first | exact decide_eq_true hat | exact decide_eq_false hat)).mono ?_
  rintro e w' ⟨rfl, rfl⟩
  go_wp2_with fail
  refine (call_is _ _ _ _ _ _ _ _ _ _ _ _ HR.out.1 HR.out.2).mono ?_
  rintro e w2 ⟨rfl, hb2⟩
  go_wp2
  go_ret2
  exact ⟨rfl, thn hw1 hb2⟩
theorem cfit_of (pg rg lg th ca ba sh re mo fi key : Int) (k : Int) (w : World) (HI : Hid (cfI pg rg lg th ca ba sh re mo fi = 0)) :
    Calls Try.prog 11 #[.agg #[.int .i64 pg, .int .i64 rg, .int .i64 lg, .int .i64 th, .int .i64 ca, .int .i64 ba, .int .i64 sh, .int .i64 re, .int .i64 mo, .int .i64 fi, .int .u64 key], .int .i64 k] w fun e w' => e = .returned (.int .i64 (fitI k rg)) ∧ Below w.heap.size w w' := by
  go_enter Try.func11, Try.ntmps11
  go_wp2_with fail
  refine (cchk_is _ _ _ _ _ _ _ _ _ _ _ _ _ HI.out).mono ?_
  rintro e w1 ⟨rfl, hb⟩
  obtain ⟨hc, hf⟩ := bcell hb
  go_wp2_with fail
  refine (fit_any _ _ _).mono ?_
  rintro e w' ⟨rfl, rfl⟩
  go_wp2
  go_ret
  exact ⟨rfl, thn (alc0 _ _) hb⟩
theorem cfit_zero (w : World) :
    Calls Try.prog 11 #[.agg #[.int .i64 0, .int .i64 0, .int .i64 0, .int .i64 0, .int .i64 0, .int .i64 0, .int .i64 0, .int .i64 0, .int .i64 0, .int .i64 0, .int .u64 0], .int .i64 0] w fun e w' => e = .returned (.int .i64 0) ∧ Below w.heap.size w w' := by
  have H : Hid (cfI 0 0 0 0 0 0 0 0 0 0 = 1) := Lib.hid (by decide)
  go_enter Try.func11, Try.ntmps11
  go_wp2_with fail
  refine (cchk_is _ _ _ _ _ _ _ _ _ _ _ _ _ H.out).mono ?_
  rintro e w1 ⟨rfl, hb⟩
  go_wp2
  go_ret
  exact ⟨rfl, thn (alc0 _ _) hb⟩
theorem csmall_of (pg rg lg th ca ba sh re mo fi key : Int) (w : World) (HI : Hid (cfI pg rg lg th ca ba sh re mo fi = 0)) (HR : Hid ((5 ≤ rg ∧ rg ≤ 16) ∧ (0 ≤ lg ∧ lg ≤ 1024))) :
    Calls Try.prog 12 #[.agg #[.int .i64 pg, .int .i64 rg, .int .i64 lg, .int .i64 th, .int .i64 ca, .int .i64 ba, .int .i64 sh, .int .i64 re, .int .i64 mo, .int .i64 fi, .int .u64 key]] w fun e w' => e = .returned (.agg #[.int .i64 0, .int .i64 (rg * 20)]) ∧ Below w.heap.size w w' := by
  obtain ⟨hr1, hr2⟩ := HR.out
  obtain ⟨hr3, hr4⟩ := hr1
  go_enter Try.func12, Try.ntmps12
  go_wp2_with fail
  refine (cchk_is _ _ _ _ _ _ _ _ _ _ _ _ _ HI.out).mono ?_
  rintro e w1 ⟨rfl, hb⟩
  obtain ⟨hc, hf⟩ := bcell hb
  have hz : w.heap.size + 1 < w1.heap.size := Nat.lt_of_lt_of_le (by simp) hb.size
  have hw1 : Below w.heap.size w w1 := thn (alc (alc0 _ _) _) hb
  go_wp2
  refine bodyPost_ret (v := .agg #[.int .i64 0, .int .i64 (rg * 20)]) (by simp [results, Try.results12, go_sem, hc]) rfl ⟨rfl, ?_⟩
  exact (hw1.setCell (by simp) _).setCell (by simp) _
theorem clarge_of (pg rg lg th ca ba sh re mo fi key : Int) (w : World) (HI : Hid (cfI pg rg lg th ca ba sh re mo fi = 0)) (HR : Hid ((5 ≤ rg ∧ rg ≤ 16) ∧ (0 ≤ lg ∧ lg ≤ 1024))) :
    Calls Try.prog 13 #[.agg #[.int .i64 pg, .int .i64 rg, .int .i64 lg, .int .i64 th, .int .i64 ca, .int .i64 ba, .int .i64 sh, .int .i64 re, .int .i64 mo, .int .i64 fi, .int .u64 key]] w fun e w' => e = .returned (.agg #[.int .i64 (rg * 20), .int .i64 lg]) ∧ Below w.heap.size w w' := by
  obtain ⟨hr1, hr2⟩ := HR.out
  obtain ⟨hr3, hr4⟩ := hr1
  go_enter Try.func13, Try.ntmps13
  go_wp2_with fail
  refine (cchk_is _ _ _ _ _ _ _ _ _ _ _ _ _ HI.out).mono ?_
  rintro e w1 ⟨rfl, hb⟩
  obtain ⟨hc, hf⟩ := bcell hb
  have hz : w.heap.size + 1 < w1.heap.size := Nat.lt_of_lt_of_le (by simp) hb.size
  have hw1 : Below w.heap.size w w1 := thn (alc (alc0 _ _) _) hb
  go_wp2
  refine bodyPost_ret (v := .agg #[.int .i64 (rg * 20), .int .i64 lg]) (by simp [results, Try.results13, go_sem, hc]) rfl ⟨rfl, ?_⟩
  exact (hw1.setCell (by simp) _).setCell (by simp) _
end Go.Proofs.Ytapkennnhnajnaa
