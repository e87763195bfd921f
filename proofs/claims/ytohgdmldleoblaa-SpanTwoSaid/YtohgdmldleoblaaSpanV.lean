/- The walk of SpanBytes. -/
import Derived.Test.YtohgdmldleoblaaSpanW
namespace Go.Proofs.Ytohgdmldleoblaa
open Go.RowKit
set_option linter.unusedVariables false

theorem sparts_any (b l s : Int) (w : World) (hs : 1 ≤ s) (hs2 : s ≤ 1024) :
    Calls Try.prog 18 #[.agg #[.int .i64 b, .int .i64 l], .int .i64 s] w fun e w' => e = .returned (.tuple #[.int .i64 (spF b l s), .int .i64 (spN b l s)]) ∧ Below w.heap.size w w' := by
  cases h : mayB b l
  · have := sparts_no b l s w h
    simpa [spF, spN, h] using this
  · have := sparts_yes b l s w h hs hs2
    simpa [spF, spN, h] using this

theorem granules_any (b l : Int) (w : World) :
    Calls Try.prog 16 #[.agg #[.int .i64 b, .int .i64 l]] w fun e w' => e = .returned (.tuple #[.int .i64 (spF b l 16), .int .i64 (spN b l 16)]) ∧ Below w.heap.size w w' := by
  go_enter Try.func16, Try.ntmps16
  go_wp2_with (go_at_call 18; refine (sparts_any _ _ _ _ (by omega) (by omega)).mono ?_; rintro e w1 ⟨rfl, hb⟩)
  go_ret2
  exact ⟨rfl, ((Below.refl _ _).alloc (Nat.le_refl _) _).trans (hb.mono (by simp))⟩
theorem pages_any (b l : Int) (w : World) :
    Calls Try.prog 15 #[.agg #[.int .i64 b, .int .i64 l]] w fun e w' => e = .returned (.tuple #[.int .i64 (spF b l 256), .int .i64 (spN b l 256)]) ∧ Below w.heap.size w w' := by
  go_enter Try.func15, Try.ntmps15
  go_wp2_with (go_at_call 18; refine (sparts_any _ _ _ _ (by omega) (by omega)).mono ?_; rintro e w1 ⟨rfl, hb⟩)
  go_ret2
  exact ⟨rfl, ((Below.refl _ _).alloc (Nat.le_refl _) _).trans (hb.mono (by simp))⟩

theorem granules_lit (w : World) :
    Calls Try.prog 16 #[.agg #[.int .i64 8, .int .i64 16]] w fun e w' => e = .returned (.tuple #[.int .i64 0, .int .i64 2]) ∧ Below w.heap.size w w' := by
  have h1 : spF 8 16 16 = 0 := by decide
  have h2 : spN 8 16 16 = 2 := by decide
  have := granules_any 8 16 w
  rwa [h1, h2] at this
theorem meets_is (x : Bool) (a b c d : Int) (w : World) (h : meetsB a b c d = x) :
    Calls Try.prog 13 #[.agg #[.int .i64 a, .int .i64 b], .agg #[.int .i64 c, .int .i64 d]] w fun e w' => e = .returned (.bool x) ∧ Below w.heap.size w w' := by
  subst h
  by_cases h1 : mayB a b = true
  · by_cases h2 : mayB c d = true
    · by_cases h3 : a < c + d
      · exact meets_d a b c d w (Lib.hid h1) (Lib.hid h2) h3
      · exact meets_c a b c d w (Lib.hid h1) (Lib.hid h2) (by simpa using h3)
    · exact meets_b a b c d w (Lib.hid h1) (Lib.hid (by simpa using h2))
  · exact meets_a a b c d w (Lib.hid (by simpa using h1))

theorem awake_any (w : World) :
    Calls Try.prog 7 #[] w fun e w' => e = .returned (.bool true) ∧ Below w.heap.size w w' := by
  go_enter Try.func7, Try.ntmps7
  go_wp2_with fail
  refine (granules_lit _).mono ?_
  rintro e w1 ⟨rfl, hb1⟩
  go_wp2_with fail
  refine (meets_is true 0 2 1 1 _ (by decide)).mono ?_
  rintro e w2 ⟨rfl, hb2⟩
  go_wp2_with fail
  refine (meets_is false 0 1 1 1 _ (by decide)).mono ?_
  rintro e w3 ⟨rfl, hb3⟩
  go_wp2
  go_ret
  exact ⟨rfl, thn (thn hb1 hb2) hb3⟩

theorem endI_lo {b l : Int} (h : mayB b l = false) : endI b l = 0 := by simp [endI, h]

theorem walkSpanBytes_no (b l at_ n : Int) (w : World) (h : mayB b l = false) :
    Calls Try.prog 3 #[.agg #[.int .i64 b, .int .i64 l], .int .i64 at_, .int .i64 n] w fun e w' => e = .returned (.bool true) ∧ Below w.heap.size w w' := by
  have k1 : hasB b l at_ = false := by simp [hasB, h]
  have k2 : insideB b l at_ n = false := by simp [insideB, h]
  have k3 : endI b l = 0 := endI_lo h
  have H := Lib.hid h; clear h
  have K1 := Lib.hid k1; clear k1
  have K2 := Lib.hid k2; clear k2
  have K3 := Lib.hid k3; clear k3
  go_enter Try.func3, Try.ntmps3
  go_wp2_with (first | (go_at_call 6; refine (lmay_is _ _ _ _ H.out).mono ?_; rintro e w9 ⟨rfl, hb⟩; have z := hb.size; (try simp only [World.size_alloc] at z); obtain ⟨hc, hf⟩ := bcell hb; have z2 : w.heap.size < w9.heap.size := by omega) | (go_at_call 7; refine (awake_any _).mono ?_; rintro e w9 ⟨rfl, hb⟩; have z := hb.size; (try simp only [World.size_alloc] at z); obtain ⟨hc, hf⟩ := bcell hb; have z2 : w.heap.size < w9.heap.size := by omega) | (go_at_call 8; refine (may_is _ _ _ _ H.out).mono ?_; rintro e w9 ⟨rfl, hb⟩; have z := hb.size; (try simp only [World.size_alloc] at z); obtain ⟨hc, hf⟩ := bcell hb; have z2 : w.heap.size < w9.heap.size := by omega) | (go_at_call 9; refine (endv_is _ _ _ _ K3.out).mono ?_; rintro e w9 ⟨rfl, hb⟩; have z := hb.size; (try simp only [World.size_alloc] at z); obtain ⟨hc, hf⟩ := bcell hb; have z2 : w.heap.size < w9.heap.size := by omega) | (go_at_call 10; refine (has_is _ _ _ _ _ K1.out).mono ?_; rintro e w9 ⟨rfl, hb⟩; have z := hb.size; (try simp only [World.size_alloc] at z); obtain ⟨hc, hf⟩ := bcell hb; have z2 : w.heap.size < w9.heap.size := by omega) | (go_at_call 11; refine (inside_is _ _ _ _ _ _ K2.out).mono ?_; rintro e w9 ⟨rfl, hb⟩; have z := hb.size; (try simp only [World.size_alloc] at z); obtain ⟨hc, hf⟩ := bcell hb; have z2 : w.heap.size < w9.heap.size := by omega))
  go_ret
  exact ⟨rfl, (by repeat (first | exact alc0 _ _ | assumption | (refine thn ?_ (by assumption))))⟩

set_option maxHeartbeats 1000000 in
theorem walkSpanBytes_yes (b l at_ n : Int) (w : World) (h : mayB b l = true) (x y : Bool) (k1 : hasB b l at_ = x) (k2 : insideB b l at_ n = y)
    (hat : -9223372036854775808 ≤ at_ ∧ at_ ≤ 9223372036854775807) (hn : -9223372036854775808 ≤ n ∧ n ≤ 9223372036854775807) :
    Calls Try.prog 3 #[.agg #[.int .i64 b, .int .i64 l], .int .i64 at_, .int .i64 n] w fun e w' => e = .returned (.bool true) ∧ Below w.heap.size w w' := by
  have k3 : endI b l = b + l := endI_yes h
  obtain ⟨h1, h2, h3, h4⟩ := mayB_iff.1 h
  have H := Lib.hid h; clear h
  have K1 := Lib.hid k1; clear k1
  have K2 := Lib.hid k2; clear k2
  have K3 := Lib.hid k3; clear k3
  go_enter Try.func3, Try.ntmps3
  go_wp2_with (first | (go_at_call 6; refine (lmay_is _ _ _ _ H.out).mono ?_; rintro e w9 ⟨rfl, hb⟩; have z := hb.size; (try simp only [World.size_alloc] at z); obtain ⟨hc, hf⟩ := bcell hb; have z2 : w.heap.size < w9.heap.size := by omega) | (go_at_call 7; refine (awake_any _).mono ?_; rintro e w9 ⟨rfl, hb⟩; have z := hb.size; (try simp only [World.size_alloc] at z); obtain ⟨hc, hf⟩ := bcell hb; have z2 : w.heap.size < w9.heap.size := by omega) | (go_at_call 8; refine (may_is _ _ _ _ H.out).mono ?_; rintro e w9 ⟨rfl, hb⟩; have z := hb.size; (try simp only [World.size_alloc] at z); obtain ⟨hc, hf⟩ := bcell hb; have z2 : w.heap.size < w9.heap.size := by omega) | (go_at_call 9; refine (endv_is _ _ _ _ K3.out).mono ?_; rintro e w9 ⟨rfl, hb⟩; have z := hb.size; (try simp only [World.size_alloc] at z); obtain ⟨hc, hf⟩ := bcell hb; have z2 : w.heap.size < w9.heap.size := by omega) | (go_at_call 10; refine (has_is _ _ _ _ _ K1.out).mono ?_; rintro e w9 ⟨rfl, hb⟩; have z := hb.size; (try simp only [World.size_alloc] at z); obtain ⟨hc, hf⟩ := bcell hb; have z2 : w.heap.size < w9.heap.size := by omega) | (go_at_call 11; refine (inside_is _ _ _ _ _ _ K2.out).mono ?_; rintro e w9 ⟨rfl, hb⟩; have z := hb.size; (try simp only [World.size_alloc] at z); obtain ⟨hc, hf⟩ := bcell hb; have z2 : w.heap.size < w9.heap.size := by omega))
  all_goals
    have e1 : x = decide (b ≤ at_ ∧ at_ < b + l) := by rw [← K1.out, hasB, H.out]; simp
    have e2 : y = decide (0 ≤ n ∧ n ≤ l ∧ b ≤ at_ ∧ at_ ≤ b + l - n) := by rw [← K2.out, insideB, H.out]; simp
    go_ret
    first
      | (exfalso; simp only [e1, decide_eq_decide, decide_eq_true_eq] at *; omega)
      | exact ⟨ret_bool (by rw [e2]; first | (rw [beq_iff_eq, decide_eq_decide]; omega) | (simp <;> omega)), (by repeat (first | exact alc0 _ _ | assumption | (refine thn ?_ (by assumption))))⟩

theorem walkSpanBytes (a0_0 : Int) (a0_1 : Int) (a1 : Int) (a2 : Int) (w : World) (w0_0 : (Lit.int .i64 a0_0).wf = true) (w0_1 : (Lit.int .i64 a0_1).wf = true) (w1 : (Lit.int .i64 a1).wf = true) (w2 : (Lit.int .i64 a2).wf = true) :
    Calls Try.prog 3 #[.agg #[.int .i64 a0_0, .int .i64 a0_1], .int .i64 a1, .int .i64 a2] w fun e w' => e = .returned (.bool true) ∧ Below w.heap.size w w' := by
  cases h : mayB a0_0 a0_1
  · exact walkSpanBytes_no _ _ _ _ w h
  · exact walkSpanBytes_yes _ _ _ _ w h _ _ rfl rfl (bounds_i64 w1) (bounds_i64 w2)
end Go.Proofs.Ytohgdmldleoblaa
