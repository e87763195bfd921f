/- The walk of SpanParts. -/
import Derived.Test.YtmcmlplbdepooaaSpanH
import Derived.Test.YtmcmlplbdepooaaSpanV
namespace Go.Proofs.Ytmcmlplbdepooaa
open Go.RowKit
set_option linter.unusedVariables false

theorem sp_math (b l s : Int) (hs : s = 16 ∨ s = 256) (h : mayB b l = true) :
    spF b l s = b / s ∧ spF b l s + spN b l s - 1 = (b + l - 1) / s ∧ 0 ≤ spF b l s ∧ spF b l s ≤ 262143 ∧ 1 ≤ spN b l s ∧ spN b l s ≤ 262144 ∧ spF b l s * s ≤ b ∧ b + l ≤ (spF b l s + spN b l s) * s := by
  obtain ⟨h1, h2, h3, h4⟩ := mayB_iff.1 h
  rw [spF, spN, if_pos h, if_pos h]
  rcases hs with rfl | rfl
  all_goals
    rw [downI, if_neg (by omega), partsI, if_neg (by omega)]
    omega

theorem of_yes2 (f p : Int) (w : World) (h : 0 ≤ f ∧ f < 1024 ∧ 1 ≤ p ∧ p ≤ 1024 - f) :
    Calls Try.prog 17 #[.int .i64 f, .int .i64 p] w fun e w' => e = .returned (.agg #[.int .i64 (256 * f), .int .i64 (256 * p)]) ∧ Below w.heap.size w w' := by
  have := of_yes f p w h
  rwa [Int.mul_comm f 256, Int.mul_comm p 256] at this

theorem walkSpanParts_no (a0 a1 b l : Int) (w : World) (e0 : bits .and .i64 a0 262143 = b) (e1 : bits .and .i64 a1 2047 = l) (h : mayB b l = false) :
    Calls Try.prog 5 #[.agg #[.int .i64 a0, .int .i64 a1]] w fun e w' => e = .returned (.bool true) ∧ Below w.heap.size w w' := by
  have k1 : spF b l 256 = 0 := by simp [spF, h]
  have k2 : spN b l 256 = 0 := by simp [spN, h]
  have k3 : spF b l 16 = 0 := by simp [spF, h]
  have k4 : spN b l 16 = 0 := by simp [spN, h]
  have H := Lib.hid h; clear h
  go_enter Try.func5, Try.ntmps5
  go_wp2_with (first | (go_at_call 15; refine (pages_any _ _ _).mono ?_; rintro e w9 ⟨rfl, hb⟩; obtain ⟨hc, hf⟩ := bcell hb; have z2 : w.heap.size + 1 < w9.heap.size := Nat.lt_of_lt_of_le (by first | assumption | (simp only [World.size_alloc]; omega)) hb.size; have z3 : w.heap.size < w9.heap.size := Nat.lt_of_succ_lt z2) | (go_at_call 16; refine (granules_any _ _ _).mono ?_; rintro e w9 ⟨rfl, hb⟩; obtain ⟨hc, hf⟩ := bcell hb; have z2 : w.heap.size + 1 < w9.heap.size := Nat.lt_of_lt_of_le (by first | assumption | (simp only [World.size_alloc]; omega)) hb.size; have z3 : w.heap.size < w9.heap.size := Nat.lt_of_succ_lt z2) | (go_at_call 6; refine (lmay_is _ _ _ _ H.out).mono ?_; rintro e w9 ⟨rfl, hb⟩; obtain ⟨hc, hf⟩ := bcell hb; have z2 : w.heap.size + 1 < w9.heap.size := Nat.lt_of_lt_of_le (by first | assumption | (simp only [World.size_alloc]; omega)) hb.size; have z3 : w.heap.size < w9.heap.size := Nat.lt_of_succ_lt z2) | (go_at_call 7; refine (awake_any _).mono ?_; rintro e w9 ⟨rfl, hb⟩; obtain ⟨hc, hf⟩ := bcell hb; have z2 : w.heap.size + 1 < w9.heap.size := Nat.lt_of_lt_of_le (by first | assumption | (simp only [World.size_alloc]; omega)) hb.size; have z3 : w.heap.size < w9.heap.size := Nat.lt_of_succ_lt z2))
  go_ret
  exact ⟨rfl, (by repeat (first | exact alc0 _ _ | assumption | (refine alc ?_ _) | (refine thn ?_ (by assumption))))⟩

set_option maxHeartbeats 400000 in
theorem walkSpanParts_yes (a0 a1 b l : Int) (w : World) (e0 : bits .and .i64 a0 262143 = b) (e1 : bits .and .i64 a1 2047 = l) (h : mayB b l = true) (hl : l ≤ 2047) :
    Calls Try.prog 5 #[.agg #[.int .i64 a0, .int .i64 a1]] w fun e w' => e = .returned (.bool true) ∧ Below w.heap.size w w' := by
  obtain ⟨p1, p2, p3, p4, p5, p6, p7, p8⟩ := sp_math b l 256 (.inr rfl) h
  obtain ⟨q1, q2, q3, q4, q5, q6, q7, q8⟩ := sp_math b l 16 (.inl rfl) h
  obtain ⟨h1, h2, h3, h4⟩ := mayB_iff.1 h
  have hof : 0 ≤ spF b l 256 ∧ spF b l 256 < 1024 ∧ 1 ≤ spN b l 256 ∧ spN b l 256 ≤ 1024 - spF b l 256 := by omega
  have hh : holdsB (256 * spF b l 256) (256 * spN b l 256) b l = true := by
    have : mayB (256 * spF b l 256) (256 * spN b l 256) = true := mayB_iff.2 (by omega)
    simp [holdsB, this, h]
    omega
  have HH := Lib.hid hh; clear hh
  have H := Lib.hid h; clear h
  have P1 : (spF b l 256 == b / 256) = true := by simpa using p1
  have P2 : (spF b l 256 + spN b l 256 - 1 == (b + l - 1) / 256) = true := by simpa using p2
  have Q1 : (spF b l 16 == b / 16) = true := by simpa using q1
  have Q2 : (spF b l 16 + spN b l 16 - 1 == (b + l - 1) / 16) = true := by simpa using q2
  clear p1 p2 q1 q2
  go_enter Try.func5, Try.ntmps5
  go_wp2_with (first | (go_at_call 15; refine (pages_any _ _ _).mono ?_; rintro e w9 ⟨rfl, hb⟩; obtain ⟨hc, hf⟩ := bcell hb; have z2 : w.heap.size + 1 < w9.heap.size := Nat.lt_of_lt_of_le (by first | assumption | (simp only [World.size_alloc]; omega)) hb.size; have z3 : w.heap.size < w9.heap.size := Nat.lt_of_succ_lt z2) | (go_at_call 16; refine (granules_any _ _ _).mono ?_; rintro e w9 ⟨rfl, hb⟩; obtain ⟨hc, hf⟩ := bcell hb; have z2 : w.heap.size + 1 < w9.heap.size := Nat.lt_of_lt_of_le (by first | assumption | (simp only [World.size_alloc]; omega)) hb.size; have z3 : w.heap.size < w9.heap.size := Nat.lt_of_succ_lt z2) | (go_at_call 6; refine (lmay_is _ _ _ _ H.out).mono ?_; rintro e w9 ⟨rfl, hb⟩; obtain ⟨hc, hf⟩ := bcell hb; have z2 : w.heap.size + 1 < w9.heap.size := Nat.lt_of_lt_of_le (by first | assumption | (simp only [World.size_alloc]; omega)) hb.size; have z3 : w.heap.size < w9.heap.size := Nat.lt_of_succ_lt z2) | (go_at_call 7; refine (awake_any _).mono ?_; rintro e w9 ⟨rfl, hb⟩; obtain ⟨hc, hf⟩ := bcell hb; have z2 : w.heap.size + 1 < w9.heap.size := Nat.lt_of_lt_of_le (by first | assumption | (simp only [World.size_alloc]; omega)) hb.size; have z3 : w.heap.size < w9.heap.size := Nat.lt_of_succ_lt z2) | (go_at_call 17; refine (of_yes2 _ _ _ hof).mono ?_; rintro e w9 ⟨rfl, hb⟩; obtain ⟨hc, hf⟩ := bcell hb; have z2 : w.heap.size + 1 < w9.heap.size := Nat.lt_of_lt_of_le (by first | assumption | (simp only [World.size_alloc]; omega)) hb.size; have z3 : w.heap.size < w9.heap.size := Nat.lt_of_succ_lt z2) | (go_at_call 14; refine (holds_is true _ _ _ _ _ HH.out).mono ?_; rintro e w9 ⟨rfl, hb⟩; obtain ⟨hc, hf⟩ := bcell hb; have z2 : w.heap.size + 1 < w9.heap.size := Nat.lt_of_lt_of_le (by first | assumption | (simp only [World.size_alloc]; omega)) hb.size; have z3 : w.heap.size < w9.heap.size := Nat.lt_of_succ_lt z2))
  go_ret
  exact ⟨rfl, (by repeat (first | exact alc0 _ _ | assumption | (refine alc ?_ _) | (refine thn ?_ (by assumption))))⟩

theorem walkSpanParts (a0_0 : Int) (a0_1 : Int) (w : World) (w0_0 : (Lit.int .i64 a0_0).wf = true) (w0_1 : (Lit.int .i64 a0_1).wf = true) :
    Calls Try.prog 5 #[.agg #[.int .i64 a0_0, .int .i64 a0_1]] w fun e w' => e = .returned (.bool true) ∧ Below w.heap.size w w' := by
  cases h : mayB (a0_0 % 262144) (a0_1 % 2048)
  · exact walkSpanParts_no _ _ _ _ w (and262143 _) (and2047 _) h
  · exact walkSpanParts_yes _ _ _ _ w (and262143 _) (and2047 _) h (by have := Int.emod_lt_of_pos a0_1 (b := 2048) (by decide); omega)
end Go.Proofs.Ytmcmlplbdepooaa
