/- strings.CutPrefix. -/
import Derived.Test.YtahggokeelgjdaaTrL
namespace Go.Proofs.Ytahggokeelgjdaa
open Go.RowKit
set_option linter.unusedVariables false
set_option linter.unusedSimpArgs false

theorem hasPre (s p : ByteArray) (B : Bool) (W : World) (hB : decide ((sb s).take p.size = sb p) = B) :
    Calls Try.prog 40 #[.string s, .string p] W fun e w' => e = .returned (.bool B) ∧ ∃ q, w' = W.drewN q := by
  by_cases hl : p.size ≤ s.size
  · have i1 : (p.size : Int) ≤ s.size := by omega
    have i2 : ¬ (s.size : Int) < p.size := by omega
    have htl := tl_eq (s.extract 0 p.size) p
    rw [sb_take, hB] at htl
    clear hB
    go_enter Try.func40, Try.ntmps40
    go_wp2
    go_ret
    exact ⟨by first | rfl | (rw [← htl]) | (simp [htl]), 0, rfl⟩
  · have i1 : ¬ (p.size : Int) ≤ s.size := by omega
    have hBf : B = false := by
      rw [← hB, decide_eq_false_iff_not]
      intro h
      have := congrArg List.length h
      rw [List.length_take, sb_size, sb_size] at this
      omega
    subst hBf
    clear hB
    go_enter Try.func40, Try.ntmps40
    go_wp2
    go_ret
    exact ⟨rfl, 0, rfl⟩
theorem cutLite (s p : ByteArray) (W : World) (h : (sb s).take p.size = sb p) :
    Calls Try.prog 34 #[.string s, .string p] W fun e w' => e = .returned (.tuple #[.string (s.extract p.size s.size), .bool true]) ∧ ∃ q, w' = W.drewN q := by
  have hl : p.size ≤ s.size := by
    have := congrArg List.length h
    rw [List.length_take, sb_size, sb_size] at this
    omega
  have i1 : (p.size : Int) ≤ s.size := by omega
  go_enter Try.func34, Try.ntmps34
  go_wp2_with fail
  refine (hasPre s p true W (decide_eq_true h)).mono ?_
  rintro e w1 ⟨rfl, q, hw⟩
  have HW := Lib.hid hw
  clear hw h
  go_wp2
  refine bodyPost_ret (v := .tuple #[.string (s.extract p.size s.size), .bool true]) (by simp [results, Try.results34, go_sem]) rfl ⟨rfl, q, HW.out⟩
theorem cutPre (s p : ByteArray) (W : World) (h : (sb s).take p.size = sb p) :
    Calls Try.prog 23 #[.string s, .string p] W fun e w' => e = .returned (.tuple #[.string (s.extract p.size s.size), .bool true]) ∧ ∃ q, w' = W.drewN q := by
  have H := Lib.hid h
  clear h
  go_enter Try.func23, Try.ntmps23
  go_wp2_with fail
  refine (cutLite s p W H.out).mono ?_
  rintro e w1 ⟨rfl, q, hw⟩
  have HW := Lib.hid hw
  clear hw
  go_wp2
  refine bodyPost_ret (v := .tuple #[.string (s.extract p.size s.size), .bool true]) (by simp [results, Try.results23, go_sem]) rfl ⟨rfl, q, HW.out⟩
theorem cutPre_no (s p : ByteArray) (W : World) (h : ¬ (sb s).take p.size = sb p) :
    Calls Try.prog 23 #[.string s, .string p] W fun e w' => e = .returned (.tuple #[.string s, .bool false]) ∧ ∃ q, w' = W.drewN q := by
  have H := Lib.hid h
  clear h
  have hlite : Calls Try.prog 34 #[.string s, .string p] W fun e w' => e = .returned (.tuple #[.string s, .bool false]) ∧ ∃ q, w' = W.drewN q := by
    go_enter Try.func34, Try.ntmps34
    go_wp2_with fail
    refine (hasPre s p false W (decide_eq_false H.out)).mono ?_
    rintro e w1 ⟨rfl, q, hw⟩
    have HW := Lib.hid hw
    clear hw
    go_wp2
    refine bodyPost_ret (v := .tuple #[.string s, .bool false]) (by simp [results, Try.results34, go_sem]) rfl ⟨rfl, q, HW.out⟩
  have HL := Lib.hid hlite
  clear hlite
  go_enter Try.func23, Try.ntmps23
  go_wp2_with fail
  refine HL.out.mono ?_
  rintro e w1 ⟨rfl, q, hw⟩
  have HW := Lib.hid hw
  clear hw
  go_wp2
  refine bodyPost_ret (v := .tuple #[.string s, .bool false]) (by simp [results, Try.results23, go_sem]) rfl ⟨rfl, q, HW.out⟩
end Go.Proofs.Ytahggokeelgjdaa
