/- Contracts of package guard: In, Lay, Area. -/
import Derived.Test.YtldnaddcmnghkaaGuard
namespace Go.Proofs.Ytldnaddcmnghkaa
open Go.RowKit
set_option linter.unusedVariables false
set_option linter.unusedSimpArgs false

theorem gin_yes (f p a : Int) (w : World) (h : malB a = true) (f0 : 0 ≤ f) (f1 : f < 1024) (p0 : 1 ≤ p) (p1 : p ≤ 1024 - f) :
    Calls Try.prog 45 #[.int .i64 f, .int .i64 p, .int .i64 a] w fun e w' => e = .returned (.agg #[.int .i64 (f * 256 + max a 16), .int .i64 f, .int .i64 p, .int .i64 (p * 256 - max a 16)]) ∧ Below w.heap.size w w' := by
  have HM := Lib.hid h
  have hl := pow_list h
  have ha : 1 ≤ a ∧ a ≤ 256 := by omega
  clear h hl
  obtain ⟨ha1, ha2⟩ := ha
  obtain ⟨L, hL⟩ : ∃ L, max a 16 = L := ⟨_, rfl⟩
  have l1 : 16 ≤ L ∧ L ≤ 256 := by omega
  obtain ⟨l1, l2⟩ := l1
  have HL := Lib.hid hL
  rw [hL]
  clear hL
  go_enter Try.func45, Try.ntmps45
  go_wp2_with fail
  refine (mal_is _ _ _ (by omega) HM.out).mono ?_
  rintro e w' ⟨rfl, rfl⟩
  go_wp2_with fail
  refine (lead_yes _ _ HM.out).mono ?_
  rintro e w' ⟨rfl, rfl⟩
  rw [HL.out]
  go_wp2_with fail
  refine (lead_yes _ _ HM.out).mono ?_
  rintro e w' ⟨rfl, rfl⟩
  rw [HL.out]
  go_wp2_with fail
  refine bodyPost_ret (v := .agg #[.int .i64 (f * 256 + L), .int .i64 f, .int .i64 p, .int .i64 (p * 256 - L)]) (by simp [results, Try.results45, go_sem]) rfl ⟨rfl, ?_⟩
  exact alc0 _ _

theorem garea (a f p r : Int) (w : World) (h : 0 ≤ f ∧ f ≤ 2000 ∧ 0 ≤ p ∧ p ≤ 2000) :
    Calls Try.prog 44 #[.agg #[.int .i64 a, .int .i64 f, .int .i64 p, .int .i64 r]] w fun e w' => e = .returned (.agg #[.int .i64 (f - 1), .int .i64 (p + 2)]) ∧ Below w.heap.size w w' := by
  obtain ⟨h1, h2, h3, h4⟩ := h
  go_enter Try.func44, Try.ntmps44
  go_wp2
  refine bodyPost_ret (v := .agg #[.int .i64 (f - 1), .int .i64 (p + 2)]) (by simp [results, Try.results44, go_sem]) rfl ⟨rfl, ?_⟩
  exact alc (alc0 _ _) _

theorem glay_yes (f n a : Int) (w : World) (h : malB a = true) (h1 : 1 ≤ n) (hn : n ≤ 16384) (f0 : 0 ≤ f) (f1 : f ≤ 1024 - needI n a - 2) :
    Calls Try.prog 43 #[.int .i64 f, .int .i64 n, .int .i64 a] w fun e w' => e = .returned (.tuple #[.agg #[.int .i64 ((f + 1) * 256 + max a 16), .int .i64 (f + 1), .int .i64 (needI n a), .int .i64 (needI n a * 256 - max a 16)], .int .i64 0]) ∧ Below w.heap.size w w' := by
  have HM := Lib.hid h
  obtain ⟨k1, k2, _, _⟩ := needI_bd h h1 hn
  have HN := Lib.hid (fun w => need_yes n a w h h1 hn)
  clear h
  generalize needI n a = k at *
  go_enter Try.func43, Try.ntmps43
  go_wp2_with fail
  refine (HN.out _).mono ?_
  rintro e w' ⟨rfl, rfl⟩
  go_wp2_with fail
  refine (gin_yes _ _ _ _ HM.out (by omega) (by omega) (by omega) (by omega)).mono ?_
  rintro e w1 ⟨rfl, hb⟩
  obtain ⟨hc, hf⟩ := bcell hb
  go_wp2_with fail
  refine bodyPost_ret (v := .tuple #[.agg #[.int .i64 ((f + 1) * 256 + max a 16), .int .i64 (f + 1), .int .i64 k, .int .i64 (k * 256 - max a 16)], .int .i64 0]) (by simp [results, Try.results43, go_sem, hc]) rfl ⟨rfl, ?_⟩
  repeat (first | exact thn (alc0 _ _) hb | (refine Below.setCell ?_ (by first | omega | (simp <;> omega)) _))
theorem glay_no (f n a : Int) (w : World) (h : malB a = true) (h1 : 1 ≤ n) (hn : n ≤ 16384) (hf : f < 0 ∨ 1024 - needI n a - 2 < f) :
    Calls Try.prog 43 #[.int .i64 f, .int .i64 n, .int .i64 a] w fun e w' => e = .returned (.tuple #[.agg #[.int .i64 0, .int .i64 0, .int .i64 0, .int .i64 0], .int .i64 1]) ∧ Below w.heap.size w w' := by
  have HM := Lib.hid h
  obtain ⟨k1, k2, _, _⟩ := needI_bd h h1 hn
  have HN := Lib.hid (fun w => need_yes n a w h h1 hn)
  clear h
  generalize needI n a = k at *
  by_cases hf0 : f < 0
  all_goals
    first
      | (have hf1 : 1024 - k - 2 < f := by omega)
      | skip
    clear hf
    go_enter Try.func43, Try.ntmps43
    go_wp2_with fail
    refine (HN.out _).mono ?_
    rintro e w' ⟨rfl, rfl⟩
    go_wp2_with fail
    refine bodyPost_ret (v := .tuple #[.agg #[.int .i64 0, .int .i64 0, .int .i64 0, .int .i64 0], .int .i64 1]) (by simp [results, Try.results43, go_sem]) rfl ⟨rfl, ?_⟩
    repeat (first | exact alc0 _ _ | (refine Below.setCell ?_ (by first | omega | (simp <;> omega)) _))

theorem g29need (w : World) :
    Calls Try.prog 41 #[.int .i64 241, .int .i64 1] w fun e w' => e = .returned (.tuple #[.int .i64 2, .int .i64 0]) ∧ w = w' := by
  have := need_yes 241 1 w (by decide) (by decide) (by decide)
  have e : needI 241 1 = 2 := by decide
  rwa [e] at this
theorem g29lay (w : World) :
    Calls Try.prog 43 #[.int .i64 3, .int .i64 300, .int .i64 64] w fun e w' => e = .returned (.tuple #[.agg #[.int .i64 1088, .int .i64 4, .int .i64 2, .int .i64 448], .int .i64 0]) ∧ Below w.heap.size w w' :=
  glay_yes 3 300 64 w (by decide) (by decide) (by decide) (by decide) (by decide)
theorem g29awake_any (w : World) :
    Calls Try.prog 42 #[] w fun e w' => e = .returned (.bool true) ∧ Below w.heap.size w w' := by
  go_enter Try.func42, Try.ntmps42
  go_wp2_with fail
  refine (g29need _).mono ?_
  rintro e w' ⟨rfl, rfl⟩
  go_wp2_with fail
  refine (g29lay _).mono ?_
  rintro e w1 ⟨rfl, hb⟩
  go_wp2
  go_ret
  exact ⟨rfl, alc hb _⟩
end Go.Proofs.Ytldnaddcmnghkaa
