/- MoJ. -/
import Derived.Test.YtanmmhbnjmglhaaZ15
import Derived.Deep.RegionHeld3
namespace Go.Proofs.Ytanmmhbnjmglhaa
set_option maxRecDepth 100000
open Go.RowKit Go.ChangeMaps Go.MapKept
set_option linter.unusedVariables false
set_option linter.unusedSimpArgs false
section
variable {m mb r : Nat} {C : Cf} {md : Nat} {ch : List (Int × Nat)} {rs : List Rf} {W : World}
theorem mcal_err (k : Int) (t a b v n mm : Int) (P : Option Addr) (ln cp : Nat) (full : Bool) (he : calE C t n mm full ≠ 0) (h : MO m mb r C md ch rs W) : Calls Try.prog 40 #[.pointer (some ⟨m, 0, none⟩), opv k t a b v n mm P ln cp, .bool full] W fun e w' => e = .returned (.tuple #[z5, rE (calE C t n mm full)]) ∧ Below W.heap.size W w' := by
  by_cases ht : t < 0 ∨ C.th ≤ t
  · have e1 : calE C t n mm full = 1 := by unfold calE; rw [if_pos (by omega)]
    rw [e1]; exact mcal_t k t a b v n mm P ln cp full h ht
  have ht2 : 0 ≤ t ∧ t < C.th := by omega
  by_cases hn : n < 1
  · have e1 : calE C t n mm full = 1 := by unfold calE; rw [if_pos (by omega)]
    rw [e1]; exact mcal_n k t a b v n mm P ln cp full h ht2 hn
  by_cases h1 : mm < 1
  · have e1 : calE C t n mm full = 1 := by unfold calE; rw [if_pos (by omega)]
    rw [e1]; exact mcal_m k t a b v n mm P ln cp full h ht2 hn h1
  by_cases hq : C.mo / n < mm
  · have e1 : calE C t n mm full = 4 := by unfold calE; rw [if_neg (by omega), if_pos hq]
    rw [e1]; exact mcal_b k t a b v n mm P ln cp full h ht2 hn h1 hq
  by_cases hf : full = true
  · have e1 : calE C t n mm full = 13 := by unfold calE; rw [if_neg (by omega), if_neg hq, if_pos hf]
    rw [e1]; exact mcal_g k t a b v n mm P ln cp full h ht2 hn h1 hq hf
  · exact absurd (by unfold calE; rw [if_neg (by omega), if_neg hq, if_neg hf]) he
end
section
variable {m mb r : Nat} {C : Cf} {md : Nat} {rs : List Rf} {W : World}
theorem mcome2 (t a b v n mm : Int) (P : Option Addr) (ln cp : Nat) (full : Bool) (he : calE C t n mm full ≠ 0) (h : MO m mb r C md [] rs W) : Calls Try.prog 24 #[.pointer (some ⟨m, 0, none⟩), opv 2 t a b v n mm P ln cp, .bool full] W fun e w' => e = .returned (.tuple #[z5, rE (calE C t n mm full)]) ∧ Below W.heap.size W w' := by
  have HE := Lib.hid he
  clear he
  have H := Lib.hid h
  have hm := h.lt.1
  clear h
  go_enter Try.func24, Try.ntmps24
  go_wp2_with fail
  refine (mgetd b (H.out.below (alc (alc0 W _) _))).mono ?_
  rintro e w1 ⟨rfl, hb1⟩
  have hoc := (oc_new (k := 2) (t := t) (a := a) (b := b) (v := v) (n := n) (mm := mm) (P := P) (ln := ln) (cp := cp) W 41).block (W' := w1) ((hb1.block _ (by simp <;> omega)).trans ((alc0 _ _).block _ (by simp)))
  have hyc := (yc_new (W.alloc (.cells #[.int .i64 2, .int .i64 t, .int .i64 a, .int .i64 b, .int .i64 v, .int .i64 n, .int .i64 mm, .slice P ln cp] 41)) 52).below (by simp) hb1
  rw [World.size_alloc] at hyc
  have HYC := Lib.hid hyc
  have HB1 := Lib.hid ((alc (alc0 W _) _).trans (hb1.mono (by simp <;> omega)))
  have H1 := Lib.hid (H.out.below HB1.out)
  have hs1 : W.heap.size + 2 ≤ w1.heap.size := by have := hb1.size; simpa using this
  have HOC := Lib.hid hoc
  clear hb1 hyc hoc
  go_upto_region 2 with (fail)
  obtain ⟨wb, hwb⟩ : ∃ wb, w1.alloc (.cells #[.int .i64 0, .int .i64 0, .int .i64 0, .int .i64 0, .int .i64 0] 52) = wb := ⟨_, rfl⟩
  have hbb : Below w1.heap.size w1 wb := by rw [← hwb]; exact alc0 _ _
  have hbc : YC w1.heap.size wb := by rw [← hwb]; exact yc_new _ _
  have hsb : wb.heap.size = w1.heap.size + 1 := by rw [← hwb]; exact World.size_alloc _ _
  rw [hwb]
  obtain ⟨x0, x1, x2, x3, x4, x5, x6, x7⟩ := HOC.out.block (hbb.block W.heap.size (by omega))
  have HYB := Lib.hid (HYC.out.block (hbb.block (W.heap.size + 1) (by omega)))
  have HBB := Lib.hid (thn HB1.out hbb)
  have HMB := Lib.hid (H1.out.below hbb)
  obtain ⟨b0, -⟩ := hbc 0 (by decide)
  obtain ⟨b1, -⟩ := hbc 1 (by decide)
  obtain ⟨b2, -⟩ := hbc 2 (by decide)
  obtain ⟨b3, -⟩ := hbc 3 (by decide)
  obtain ⟨b4, -⟩ := hbc 4 (by decide)
  clear hwb hbb hbc HOC HYC HB1 H1
  go_wp2_with fail
  refine (mcal_err 2 t a b v n mm P ln cp full HE.out HMB.out).mono ?_
  rintro e w3 ⟨rfl, hb3⟩
  have hyc3 := HYB.out.below (W' := w3) (by omega) hb3
  have HB3 := Lib.hid (thn HBB.out hb3)
  obtain ⟨y0, z0⟩ := hyc3 0 (by decide)
  obtain ⟨y1, z1⟩ := hyc3 1 (by decide)
  obtain ⟨y2, z2⟩ := hyc3 2 (by decide)
  obtain ⟨y3, z3⟩ := hyc3 3 (by decide)
  obtain ⟨y4, z4⟩ := hyc3 4 (by decide)
  clear hb3 hyc3
  go_wp2_with fail
  refine bodyPost_ret (v := .tuple #[z5, rE (calE C t n mm full)]) (by simp [results, Try.results24, go_sem, y0, y1, y2, y3, y4]) rfl ⟨rfl, ?_⟩
  exact HB3.out |>.setCell (p := ⟨W.heap.size + 1, 0, none⟩) (show W.heap.size ≤ W.heap.size + 1 by omega) _ |>.setCell (p := ⟨W.heap.size + 1, 1, none⟩) (show W.heap.size ≤ W.heap.size + 1 by omega) _ |>.setCell (p := ⟨W.heap.size + 1, 2, none⟩) (show W.heap.size ≤ W.heap.size + 1 by omega) _ |>.setCell (p := ⟨W.heap.size + 1, 3, none⟩) (show W.heap.size ≤ W.heap.size + 1 by omega) _ |>.setCell (p := ⟨W.heap.size + 1, 4, none⟩) (show W.heap.size ≤ W.heap.size + 1 by omega) _
set_option maxHeartbeats 1000000 in
theorem mcome2_ok (t a b v n mm : Int) (P : Option Addr) (ln cp : Nat) (full : Bool) (p : Nat) (hp : n * mm = (p : Int)) (hmd9 : md < 1000) (he : calE C t n mm full = 0) (hfull : full = false) (h : MO m mb r C md [] rs W) : Calls Try.prog 24 #[.pointer (some ⟨m, 0, none⟩), opv 2 t a b v n mm P ln cp, .bool full] W fun e w' => e = .returned (.tuple #[.agg #[.int .i64 ((md : Int) + 1), .int .i64 0, .int .i64 (p : Int), .int .i64 0, .int .i64 31], rE 0]) ∧ GP m mb r C md [] rs p 0 W w' := by
  have hmm := h.mp.lt
  have hr := h.lt.2.1
  subst hfull
  have HP := Lib.hid hp
  clear hp
  have HE : Hid ((0 ≤ t ∧ t < C.th) ∧ ¬ n < 1 ∧ ¬ mm < 1 ∧ ¬ C.mo / n < mm) := Lib.hid (by
    unfold calE at he
    split at he
    · cases he
    · rename_i h1
      split at he
      · cases he
      · rename_i h2
        exact ⟨by omega, by omega, by omega, h2⟩)
  clear he
  have H := Lib.hid h
  have hm := h.lt.1
  clear h
  go_enter Try.func24, Try.ntmps24
  go_wp2_with fail
  refine (mgetd b (H.out.below (alc (alc0 W _) _))).mono ?_
  rintro e w1 ⟨rfl, hb1⟩
  have hoc := (oc_new (k := 2) (t := t) (a := a) (b := b) (v := v) (n := n) (mm := mm) (P := P) (ln := ln) (cp := cp) W 41).block (W' := w1) ((hb1.block _ (by simp <;> omega)).trans ((alc0 _ _).block _ (by simp)))
  have hyc := (yc_new (W.alloc (.cells #[.int .i64 2, .int .i64 t, .int .i64 a, .int .i64 b, .int .i64 v, .int .i64 n, .int .i64 mm, .slice P ln cp] 41)) 52).below (by simp) hb1
  rw [World.size_alloc] at hyc
  have HYC := Lib.hid hyc
  have HB1 := Lib.hid ((alc (alc0 W _) _).trans (hb1.mono (by simp <;> omega)))
  have H1 := Lib.hid (H.out.below HB1.out)
  have hs1 : W.heap.size + 2 ≤ w1.heap.size := by have := hb1.size; simpa using this
  have HOC := Lib.hid hoc
  clear hb1 hyc hoc
  go_upto_region 2 with (fail)
  obtain ⟨wb, hwb⟩ : ∃ wb, w1.alloc (.cells #[.int .i64 0, .int .i64 0, .int .i64 0, .int .i64 0, .int .i64 0] 52) = wb := ⟨_, rfl⟩
  have hbb : Below w1.heap.size w1 wb := by rw [← hwb]; exact alc0 _ _
  have hbc : YC w1.heap.size wb := by rw [← hwb]; exact yc_new _ _
  have hsb : wb.heap.size = w1.heap.size + 1 := by rw [← hwb]; exact World.size_alloc _ _
  rw [hwb]
  obtain ⟨x0, x1, x2, x3, x4, x5, x6, x7⟩ := HOC.out.block (hbb.block W.heap.size (by omega))
  have HYB := Lib.hid (HYC.out.block (hbb.block (W.heap.size + 1) (by omega)))
  have HBB := Lib.hid (thn HB1.out hbb)
  have HMB := Lib.hid (H1.out.below hbb)
  obtain ⟨b0, -⟩ := hbc 0 (by decide)
  obtain ⟨b1, -⟩ := hbc 1 (by decide)
  obtain ⟨b2, -⟩ := hbc 2 (by decide)
  obtain ⟨b3, -⟩ := hbc 3 (by decide)
  obtain ⟨b4, -⟩ := hbc 4 (by decide)
  clear hwb hbb hbc HOC HYC HB1 H1
  go_wp2_with fail
  have e0 := HE.out
  have e1 : 0 ≤ t ∧ t < C.th := by omega
  have e2 : ¬ n < 1 := by omega
  have e3 : ¬ mm < 1 := by omega
  have e4 : ¬ C.mo / n < mm := by omega
  clear e0
  refine (mcal_ok 2 t a b v n mm P ln cp false p HP.out (by simp) hmd9 HMB.out e1 e2 e3 e4 rfl).mono ?_
  rintro e w3 ⟨rfl, hgp⟩
  obtain ⟨hq9, hs9, hk9, hl9⟩ := hgp
  have hyc3 := HYB.out.block (W' := w3) (hk9 (W.heap.size + 1) (by omega) (by omega) (by omega))
  have HGP := Lib.hid (show GP m mb r C md [] rs p 0 wb w3 from ⟨hq9, hs9, hk9, hl9⟩)
  clear hq9 hs9 hk9 hl9
  obtain ⟨y0, z0⟩ := hyc3 0 (by decide)
  obtain ⟨y1, z1⟩ := hyc3 1 (by decide)
  obtain ⟨y2, z2⟩ := hyc3 2 (by decide)
  obtain ⟨y3, z3⟩ := hyc3 3 (by decide)
  obtain ⟨y4, z4⟩ := hyc3 4 (by decide)
  clear hyc3
  go_wp2_with fail
  obtain ⟨w4, hw4⟩ : ∃ w4, w4 = ((((w3.setCell ⟨W.heap.size + 1, 0, none⟩ (.int .i64 ((md : Int) + 1))).setCell ⟨W.heap.size + 1, 1, none⟩ (.int .i64 0)).setCell ⟨W.heap.size + 1, 2, none⟩ (.int .i64 (p : Int))).setCell ⟨W.heap.size + 1, 3, none⟩ (.int .i64 0)).setCell ⟨W.heap.size + 1, 4, none⟩ (.int .i64 31) := ⟨_, rfl⟩
  obtain ⟨g1, g2, g3⟩ := set5 w3 (W.heap.size + 1) (.int .i64 ((md : Int) + 1)) (.int .i64 0) (.int .i64 (p : Int)) (.int .i64 0) (.int .i64 31) w4 hw4
  rw [← hw4]
  have q0 : w4.cell? ⟨W.heap.size + 1, 0, none⟩ = some (.int .i64 ((md : Int) + 1)) := by rw [hw4]; simp [go_sem, y0, y1, y2, y3, y4]
  have q1 : w4.cell? ⟨W.heap.size + 1, 1, none⟩ = some (.int .i64 0) := by rw [hw4]; simp [go_sem, y0, y1, y2, y3, y4]
  have q2 : w4.cell? ⟨W.heap.size + 1, 2, none⟩ = some (.int .i64 (p : Int)) := by rw [hw4]; simp [go_sem, y0, y1, y2, y3, y4]
  have q3 : w4.cell? ⟨W.heap.size + 1, 3, none⟩ = some (.int .i64 0) := by rw [hw4]; simp [go_sem, y0, y1, y2, y3, y4]
  have q4 : w4.cell? ⟨W.heap.size + 1, 4, none⟩ = some (.int .i64 31) := by rw [hw4]; simp [go_sem, y0, y1, y2, y3, y4]
  clear hw4
  refine bodyPost_ret (v := .tuple #[.agg #[.int .i64 ((md : Int) + 1), .int .i64 0, .int .i64 (p : Int), .int .i64 0, .int .i64 31], rE 0]) (by simp [results, Try.results24, go_sem, q0, q1, q2, q3, q4]) rfl ⟨rfl, ?_⟩
  exact HGP.out.lift HBB.out ⟨hm, hmm, hr⟩ (by omega) (by omega) g1 g2 (g3 _ (by omega))
theorem mcome3_bad (t a b v n mm : Int) (P : Option Addr) (ln cp : Nat) (full : Bool) (hmax : mm ≤ 9223372036854775807) (ha : malB mm = false) (h : MO m mb r C md [] rs W) : Calls Try.prog 24 #[.pointer (some ⟨m, 0, none⟩), opv 3 t a b v n mm P ln cp, .bool full] W fun e w' => e = .returned (.tuple #[z5, rE 1]) ∧ Below W.heap.size W w' := by
  have HA := Lib.hid ha
  clear ha
  have H := Lib.hid h
  have hm := h.lt.1
  clear h
  go_enter Try.func24, Try.ntmps24
  go_wp2_with fail
  refine (mgetd b (H.out.below (alc (alc0 W _) _))).mono ?_
  rintro e w1 ⟨rfl, hb1⟩
  have hoc := (oc_new (k := 3) (t := t) (a := a) (b := b) (v := v) (n := n) (mm := mm) (P := P) (ln := ln) (cp := cp) W 41).block (W' := w1) ((hb1.block _ (by simp <;> omega)).trans ((alc0 _ _).block _ (by simp)))
  have hyc := (yc_new (W.alloc (.cells #[.int .i64 3, .int .i64 t, .int .i64 a, .int .i64 b, .int .i64 v, .int .i64 n, .int .i64 mm, .slice P ln cp] 41)) 52).below (by simp) hb1
  rw [World.size_alloc] at hyc
  have HYC := Lib.hid hyc
  have HB1 := Lib.hid ((alc (alc0 W _) _).trans (hb1.mono (by simp <;> omega)))
  have H1 := Lib.hid (H.out.below HB1.out)
  have hs1 : W.heap.size + 2 ≤ w1.heap.size := by have := hb1.size; simpa using this
  have HOC := Lib.hid hoc
  clear hb1 hyc hoc
  go_upto_region 2 with (fail)
  obtain ⟨wb, hwb⟩ : ∃ wb, w1.alloc (.cells #[.int .i64 0, .int .i64 0, .int .i64 0, .int .i64 0, .int .i64 0] 52) = wb := ⟨_, rfl⟩
  have hbb : Below w1.heap.size w1 wb := by rw [← hwb]; exact alc0 _ _
  have hbc : YC w1.heap.size wb := by rw [← hwb]; exact yc_new _ _
  have hsb : wb.heap.size = w1.heap.size + 1 := by rw [← hwb]; exact World.size_alloc _ _
  rw [hwb]
  obtain ⟨x0, x1, x2, x3, x4, x5, x6, x7⟩ := HOC.out.block (hbb.block W.heap.size (by omega))
  have HYB := Lib.hid (HYC.out.block (hbb.block (W.heap.size + 1) (by omega)))
  have HBB := Lib.hid (thn HB1.out hbb)
  have HMB := Lib.hid (H1.out.below hbb)
  obtain ⟨b0, -⟩ := hbc 0 (by decide)
  obtain ⟨b1, -⟩ := hbc 1 (by decide)
  obtain ⟨b2, -⟩ := hbc 2 (by decide)
  obtain ⟨b3, -⟩ := hbc 3 (by decide)
  obtain ⟨b4, -⟩ := hbc 4 (by decide)
  clear hwb hbb hbc HOC HYC HB1 H1
  go_wp2_with fail
  refine (power_any mm wb hmax).mono ?_
  rintro e wq ⟨rfl, rfl⟩
  have hyc3 := HYB.out
  obtain ⟨y0, z0⟩ := hyc3 0 (by decide)
  obtain ⟨y1, z1⟩ := hyc3 1 (by decide)
  obtain ⟨y2, z2⟩ := hyc3 2 (by decide)
  obtain ⟨y3, z3⟩ := hyc3 3 (by decide)
  obtain ⟨y4, z4⟩ := hyc3 4 (by decide)
  clear hyc3
  by_cases hpw : powB mm = true
  · have hm256 : mm > 256 := by
      have h9 := HA.out
      unfold malB at h9
      simp [hpw] at h9
      omega
    rw [hpw]
    go_wp2_with fail
    refine bodyPost_ret (v := .tuple #[z5, rE 1]) (by simp [results, Try.results24, go_sem, y0, y1, y2, y3, y4]) rfl ⟨rfl, ?_⟩
    exact HBB.out |>.setCell (p := ⟨W.heap.size + 1, 0, none⟩) (show W.heap.size ≤ W.heap.size + 1 by omega) _ |>.setCell (p := ⟨W.heap.size + 1, 1, none⟩) (show W.heap.size ≤ W.heap.size + 1 by omega) _ |>.setCell (p := ⟨W.heap.size + 1, 2, none⟩) (show W.heap.size ≤ W.heap.size + 1 by omega) _ |>.setCell (p := ⟨W.heap.size + 1, 3, none⟩) (show W.heap.size ≤ W.heap.size + 1 by omega) _ |>.setCell (p := ⟨W.heap.size + 1, 4, none⟩) (show W.heap.size ≤ W.heap.size + 1 by omega) _
  · rw [Bool.not_eq_true] at hpw
    rw [hpw]
    go_wp2_with fail
    refine bodyPost_ret (v := .tuple #[z5, rE 1]) (by simp [results, Try.results24, go_sem, y0, y1, y2, y3, y4]) rfl ⟨rfl, ?_⟩
    exact HBB.out |>.setCell (p := ⟨W.heap.size + 1, 0, none⟩) (show W.heap.size ≤ W.heap.size + 1 by omega) _ |>.setCell (p := ⟨W.heap.size + 1, 1, none⟩) (show W.heap.size ≤ W.heap.size + 1 by omega) _ |>.setCell (p := ⟨W.heap.size + 1, 2, none⟩) (show W.heap.size ≤ W.heap.size + 1 by omega) _ |>.setCell (p := ⟨W.heap.size + 1, 3, none⟩) (show W.heap.size ≤ W.heap.size + 1 by omega) _ |>.setCell (p := ⟨W.heap.size + 1, 4, none⟩) (show W.heap.size ≤ W.heap.size + 1 by omega) _
end
end Go.Proofs.Ytanmmhbnjmglhaa
