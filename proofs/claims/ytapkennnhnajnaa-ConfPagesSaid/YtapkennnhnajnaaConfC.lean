/- The statements' own example of conf. -/
import Derived.Test.YtapkennnhnajnaaConfA
namespace Go.Proofs.Ytapkennnhnajnaa
open Go.RowKit
set_option linter.unusedVariables false
set_option linter.unusedSimpArgs false

theorem csmall_lit (w : World) :
    Calls Try.prog 12 #[.agg #[.int .i64 100, .int .i64 5, .int .i64 10, .int .i64 1, .int .i64 2, .int .i64 2, .int .i64 0, .int .i64 4, .int .i64 100, .int .i64 0, .int .u64 0]] w fun e w' => e = .returned (.agg #[.int .i64 0, .int .i64 100]) ∧ Below w.heap.size w w' := by
  have H : Hid (cfI 100 5 10 1 2 2 0 4 100 0 = 0) := Lib.hid (by decide)
  go_enter Try.func12, Try.ntmps12
  go_wp2_with fail
  refine (cchk_is _ _ _ _ _ _ _ _ _ _ _ _ _ H.out).mono ?_
  rintro e w1 ⟨rfl, hb⟩
  obtain ⟨hc, hf⟩ := bcell hb
  have hz : w.heap.size + 1 < w1.heap.size := Nat.lt_of_lt_of_le (by simp) hb.size
  have hw1 : Below w.heap.size w w1 := thn (alc (alc0 _ _) _) hb
  go_wp2
  refine bodyPost_ret (v := .agg #[.int .i64 0, .int .i64 100]) (by simp [results, Try.results12, go_sem, hc]) rfl ⟨rfl, ?_⟩
  exact (hw1.setCell (by simp) _).setCell (by simp) _
theorem clarge_lit (w : World) :
    Calls Try.prog 13 #[.agg #[.int .i64 100, .int .i64 5, .int .i64 10, .int .i64 1, .int .i64 2, .int .i64 2, .int .i64 0, .int .i64 4, .int .i64 100, .int .i64 0, .int .u64 0]] w fun e w' => e = .returned (.agg #[.int .i64 100, .int .i64 10]) ∧ Below w.heap.size w w' := by
  have H : Hid (cfI 100 5 10 1 2 2 0 4 100 0 = 0) := Lib.hid (by decide)
  go_enter Try.func13, Try.ntmps13
  go_wp2_with fail
  refine (cchk_is _ _ _ _ _ _ _ _ _ _ _ _ _ H.out).mono ?_
  rintro e w1 ⟨rfl, hb⟩
  obtain ⟨hc, hf⟩ := bcell hb
  have hz : w.heap.size + 1 < w1.heap.size := Nat.lt_of_lt_of_le (by simp) hb.size
  have hw1 : Below w.heap.size w w1 := thn (alc (alc0 _ _) _) hb
  go_wp2
  refine bodyPost_ret (v := .agg #[.int .i64 100, .int .i64 10]) (by simp [results, Try.results13, go_sem, hc]) rfl ⟨rfl, ?_⟩
  exact (hw1.setCell (by simp) _).setCell (by simp) _
theorem cfit_lit (w : World) :
    Calls Try.prog 11 #[.agg #[.int .i64 100, .int .i64 5, .int .i64 10, .int .i64 1, .int .i64 2, .int .i64 2, .int .i64 0, .int .i64 4, .int .i64 100, .int .i64 0, .int .u64 0], .int .i64 0] w fun e w' => e = .returned (.int .i64 40) ∧ Below w.heap.size w w' := by
  have H : Hid (cfI 100 5 10 1 2 2 0 4 100 0 = 0) := Lib.hid (by decide)
  go_enter Try.func11, Try.ntmps11
  go_wp2_with fail
  refine (cchk_is _ _ _ _ _ _ _ _ _ _ _ _ _ H.out).mono ?_
  rintro e w1 ⟨rfl, hb⟩
  obtain ⟨hc, hf⟩ := bcell hb
  go_wp2
  go_ret
  exact ⟨rfl, thn (alc0 _ _) hb⟩
theorem area_f0 (a b : Int) (w : World) : (Instr.field 39 (.agg #[.int .i64 a, .int .i64 b]) 0).run Try.prog w = .ok (.int .i64 a) w := by
  have hu := fun w => run_underlying (P := Try.prog) Try.underlying39 w
  simp [Instr.field, hu, part, asAgg, Try.isAgg3, go_sem]
theorem area_f1 (a b : Int) (w : World) : (Instr.field 39 (.agg #[.int .i64 a, .int .i64 b]) 1).run Try.prog w = .ok (.int .i64 b) w := by
  have hu := fun w => run_underlying (P := Try.prog) Try.underlying39 w
  simp [Instr.field, hu, part, asAgg, Try.isAgg3, go_sem]
theorem c38awake_any (w : World) :
    Calls Try.prog 7 #[] w fun e w' => e = .returned (.bool true) ∧ Below w.heap.size w w' := by
  have H : Hid (cfI 100 5 10 1 2 2 0 4 100 0 = 0) := Lib.hid (by decide)
  have HR : Hid (((5 : Int) ≤ 5 ∧ (5 : Int) ≤ 16) ∧ ((0 : Int) ≤ 10 ∧ (10 : Int) ≤ 1024)) := Lib.hid (by decide)
  have F0 := fun w => area_f0 100 10 w
  have F1 := fun w => area_f1 0 100 w
  go_enter Try.func7, Try.ntmps7
  go_wp2_with fail
  refine (cchk_is _ _ _ _ _ _ _ _ _ _ _ _ _ H.out).mono ?_
  rintro e w1 ⟨rfl, hb1⟩
  obtain ⟨hc1, hf1⟩ := bcell hb1
  go_wp2_with fail
  refine (csmall_lit _).mono ?_
  rintro e w2 ⟨rfl, hb2⟩
  have hb12 := thn hb1 hb2
  clear hc1 hf1
  obtain ⟨hc2, hf2⟩ := bcell hb12
  go_wp2_with fail
  refine (clarge_lit _).mono ?_
  rintro e w3 ⟨rfl, hb3⟩
  have hb13 := thn hb12 hb3
  clear hc2 hf2
  obtain ⟨hc3, hf3⟩ := bcell hb13
  go_wp2_with fail
  refine (campl_yes _ _ _ _ _ _ _ _ _ _ _ _ H HR).mono ?_
  rintro e w4 ⟨rfl, hb4⟩
  have hb14 := thn hb13 hb4
  clear hc3 hf3
  obtain ⟨hc4, hf4⟩ := bcell hb14
  go_wp2_with fail
  refine (cfit_lit _).mono ?_
  rintro e w5 ⟨rfl, hb5⟩
  go_wp2
  go_ret
  exact ⟨rfl, thn (alc0 _ _) (thn hb14 hb5)⟩
end Go.Proofs.Ytapkennnhnajnaa
