/- GuardL. -/
import Derived.Test.YtanmmhbnjmglhaaZ05
namespace Go.Proofs.Ytanmmhbnjmglhaa
open Go.RowKit
set_option linter.unusedVariables false
set_option linter.unusedSimpArgs false
theorem gin_yes (f p a : Int) (w : World) (h : malB a = true) (f0 : 0 ≤ f) (f1 : f < 1024) (p0 : 1 ≤ p) (p1 : p ≤ 1024 - f) :
    Calls Try.prog 69 #[.int .i64 f, .int .i64 p, .int .i64 a] w fun e w' => e = .returned (.agg #[.int .i64 (f * 256 + max a 16), .int .i64 f, .int .i64 p, .int .i64 (p * 256 - max a 16)]) ∧ Below w.heap.size w w' := by
  have HM := Lib.hid h
  have hl := pow_list h
  have ha : 1 ≤ a ∧ a ≤ 256 := by omega
  clear h hl
  obtain ⟨ha1, ha2⟩ := ha
  obtain ⟨L, hL⟩ : ∃ L, max a 16 = L := ⟨_, rfl⟩
  have l1 : 16 ≤ L ∧ L ≤ 256 := by omega
  obtain ⟨l1, l2⟩ := l1
  have HL := Lib.hid hL
  rw [hL]
  clear hL
  go_enter Try.func69, Try.ntmps69
  go_wp2_with fail
  refine (mal_is _ _ _ (by omega) HM.out).mono ?_
  rintro e w' ⟨rfl, rfl⟩
  go_wp2_with fail
  refine (lead_yes _ _ HM.out).mono ?_
  rintro e w' ⟨rfl, rfl⟩
  rw [HL.out]
  go_wp2_with fail
  refine (lead_yes _ _ HM.out).mono ?_
  rintro e w' ⟨rfl, rfl⟩
  rw [HL.out]
  go_wp2_with fail
  refine bodyPost_ret (v := .agg #[.int .i64 (f * 256 + L), .int .i64 f, .int .i64 p, .int .i64 (p * 256 - L)]) (by simp [results, Try.results69, go_sem]) rfl ⟨rfl, ?_⟩
  exact alc0 _ _
end Go.Proofs.Ytanmmhbnjmglhaa
