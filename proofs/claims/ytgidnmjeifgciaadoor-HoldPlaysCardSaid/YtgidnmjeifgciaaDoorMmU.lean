/- Memory: pages are unmapped. -/
import Derived.Test.YtgidnmjeifgciaaDoorMmI
import Derived.Test.YtgidnmjeifgciaaDoorMrA
namespace Go.Proofs.YtgidnmjeifgciaaDoor
set_option maxRecDepth 100000
open Go.RowKit Go.ChangeMaps Go.MapKept
set_option linter.unusedVariables false
set_option linter.unusedSimpArgs false

theorem span_of (f n : Int) (h : thereI f n) (W : World) :
    Calls Tryd.prog 105 #[.int .i64 f, .int .i64 n] W fun e w' => e = .returned (.agg #[.int .i64 (f * 256), .int .i64 (n * 256)]) ∧ Below W.heap.size W w' := by
  obtain ⟨h1, h2, h3, h4⟩ : 0 ≤ f ∧ f < 1024 ∧ 1 ≤ n ∧ n ≤ 1024 - f := h
  go_enter Tryd.func105, Tryd.ntmps105
  go_wp2
  refine bodyPost_ret (results_cell_mid rfl _ _ W.heap.size [.int .i64 (f * 256), .int .i64 (n * 256)] _ rfl (fun j v hv => ?_) Tryd.underlying47 rfl (by kernel_rfl)) rfl ⟨rfl, ?_⟩
  · have hj : j < 2 := (List.getElem?_eq_some_iff.1 hv).1
    have hj2 : j = 0 ∨ j = 1 := by omega
    rcases hj2 with rfl | rfl
    · simp at hv; subst hv; simp
    · simp at hv; subst hv; simp
  · first
      | exact ((alc0 _ _).setCell (Nat.le_refl _) _).setCell (Nat.le_refl _) _
      | exact alc0 _ _
section
variable {B : Nat} {col : Nat → Nat} {M : Nat} {W : World} {σ : MS}
def dropP (c : Nat → Nat) (f j : Nat) : Nat → Nat := fun x => if f ≤ x / 256 ∧ x / 256 < f + j then 0 else c x
theorem dropP_next (c : Nat → Nat) (f j : Nat) : drop (dropP c f j) (f + j) = dropP c f (j + 1) := by
  funext x
  unfold drop dropP
  by_cases e : x / 256 = f + j
  · rw [if_pos e, if_pos (by omega)]
  · rw [if_neg e]
    by_cases e2 : f ≤ x / 256 ∧ x / 256 < f + j
    · rw [if_pos e2, if_pos (by omega)]
    · rw [if_neg e2, if_neg (by omega)]
theorem dropP_zero (c : Nat → Nat) (f : Nat) : dropP c f 0 = c := by
  funext x
  exact if_neg (by omega)
theorem mem_drop (P sg : Nat) (h : MEM B col M W σ) (hsg : W.cell? ⟨M, 1, none⟩ = some (.pointer (some ⟨sg, 0, none⟩))) (hP : P < 1024) :
    Calls Tryd.prog 106 #[.pointer (some ⟨sg, 0, none⟩), .int .i64 (P : Int)] W fun e w' => e = .returned (.tuple #[]) ∧ MStep B col M W { σ with c := drop σ.c P } w' := by
  obtain ⟨P', sg', t, S, kb, hn'⟩ := h.ex
  obtain rfl : sg' = sg := sg_is hn'.1.2.1 hsg
  obtain ⟨b, l, h1, h2, h3, h4, h5⟩ := hn'.2.2.1
  refine (sdropL B sg' b W l σ.c h1 P (by omega)).mono ?_
  rintro e w' ⟨⟨he, l', hs, hf⟩, hz, hb⟩
  refine ⟨he, st_lift h hn' h3 h2 h4 hs hf hb (fun x => ?_)⟩
  unfold drop
  split
  · decide
  · exact h5 x
theorem mem_tset (t g n v : Nat) (h : MEM B col M W σ) (ht : W.cell? ⟨M, 2, none⟩ = some (.pointer (some ⟨t, 0, none⟩))) (hg : g + n ≤ 16384) (hn : 1 ≤ n) (hv : v < 16) :
    Calls Tryd.prog 64 #[.pointer (some ⟨t, 0, none⟩), .int .i64 (g : Int), .int .i64 (n : Int), .int .i64 (v : Int)] W fun e w' => e = .returned (.bool true) ∧ MStep B col M W { σ with f := setF σ.f g n v } w' := by
  obtain ⟨P', sg', t', S, kb, hn'⟩ := h.ex
  obtain rfl : t' = t := by
    have := hn'.1.2.2.1.symm.trans ht
    simpa using this
  refine (tset_yes t' g n v σ.f _ hn'.2.2.2.1.1 hg hn hv).mono ?_
  rintro e w' ⟨he, q1, q2, q3, q4⟩
  have hc := hn'.2.2.2.1.2
  refine ⟨he, h.set_tg hn' (q2.mono (h.own t' (by rw [hc]; decide)).1) (fun i hi hci => ?_) ⟨q1, hc⟩⟩
  rcases Nat.lt_trichotomy i t' with a | a | a
  · exact q2.block i a
  · exact absurd (by rw [a]; exact hc) hci
  · exact q4 i a
/-- Pages that are as new ones. -/
def wipeS (σ : MS) (f n : Nat) : MS := { σ with c := dropP σ.c f n, f := setF σ.f (16 * f) (16 * n) 0, kp := offF σ.kp (16 * f) (16 * n) }
set_option maxHeartbeats 3200000 in
theorem mwipe (f n : Nat) (h : MEM B col M W σ) (ht : thereI f n) :
    Calls Tryd.prog 58 #[.pointer (some ⟨M, 1, none⟩), .int .i64 (f : Int), .int .i64 (n : Int)] W fun e w' => e = .returned (.tuple #[]) ∧ MStep B col M W (wipeS σ f n) w' := by
  have H := Lib.hid h
  have HT := Lib.hid ht
  obtain ⟨h1, h2, h3, h4⟩ : 0 ≤ (f : Int) ∧ (f : Int) < 1024 ∧ 1 ≤ (n : Int) ∧ (n : Int) ≤ 1024 - f := ht
  have hm : mayB ((f : Int) * 256) ((n : Int) * 256) = true := mayB_iff.2 (by omega)
  have HM := Lib.hid hm
  have HG : Hid (grF ((f : Int) * 256) = 16 * f ∧ grN ((f : Int) * 256) ((n : Int) * 256) = 16 * n) := Lib.hid (by unfold grF grN; omega)
  have HSP := Lib.hid (gr_in hm)
  have HFN : Hid (f < 1024 ∧ 1 ≤ n ∧ f + n ≤ 1024) := Lib.hid (by omega)
  have h5 : (n : Int) ≤ 1024 := by omega
  clear h hm h3 h4
  go_enter Tryd.func58, Tryd.ntmps58
  go_wp2_with fail
  refine (span_of (f : Int) (n : Int) HT.out _).mono ?_
  rintro e w1 ⟨rfl, hb1⟩
  have HB1 := Lib.hid hb1
  clear hb1
  go_wp2_with fail
  refine (mforget ((f : Int) * 256) ((n : Int) * 256) (H.out.later (alc HB1.out _)) HM.out).mono ?_
  rintro e w2 ⟨rfl, hs2⟩
  have hs2' : MStep B col M W { σ with kp := offF σ.kp (16 * f) (16 * n) } w2 := by
    have := MStep.before H.out.size (alc HB1.out _) hs2
    rwa [HG.out.1, HG.out.2] at this
  obtain ⟨col2, hm2, hc2, ho2, hb2⟩ := hs2
  have hx : col w1.heap.size = 0 := (H.out.later HB1.out).old (Nat.le_refl _)
  have d0 : w2.cell? ⟨w1.heap.size, 0, none⟩ = some (.int .i64 ((f : Int) * 256)) := by
    rw [World.cell?_of_block (ho2 w1.heap.size (by simp) (by rw [hx]; decide))]
    simp
  have d1 : w2.cell? ⟨w1.heap.size, 1, none⟩ = some (.int .i64 ((n : Int) * 256)) := by
    rw [World.cell?_of_block (ho2 w1.heap.size (by simp) (by rw [hx]; decide))]
    simp
  have HS2 := Lib.hid hs2'
  clear hm2 hc2 ho2 hb2 hs2' hx
  go_wp2_with fail
  refine (granules_any ((f : Int) * 256) ((n : Int) * 256) _).mono ?_
  rintro e w3 ⟨rfl, hb3⟩
  rw [HSP.out.1, HSP.out.2.1, HG.out.1, HG.out.2]
  have HS3 := Lib.hid (HS2.out.after hb3)
  clear hb3 d0 d1 HS2
  obtain ⟨col3, hm3, hc3, ho3, hb3⟩ := HS3.out
  obtain ⟨P, sg, t, S, kb, ⟨-, -, k2, -, -⟩, -⟩ := hm3.ex
  have HM3 := Lib.hid hm3
  have HJ : Hid (∀ σ' w', MStep B col3 M w3 σ' w' → MStep B col M W σ' w') := Lib.hid (fun σ' w' h' => MStep.join hc3 ho3 hb3 hm3.size (Below.refl _ _) h')
  clear hm3 hc3 ho3 hb3
  go_wp2_with fail
  refine (mem_tset t (16 * f) (16 * n) 0 HM3.out k2 (by have := HFN.out; omega) (by have := HFN.out; omega) (by decide)).mono ?_
  rintro e w4 ⟨rfl, hs4⟩
  have HS4 : Hid (MStep B col M W { wipeS σ f n with c := dropP σ.c f 0 } w4) := Lib.hid ((HJ.out _ _ hs4).same (by rw [dropP_zero]; rfl))
  clear hs4 HS3 HM3 HJ k2
  go_wp2_with fail
  go_loopw [9] (fun v9 wr => ∃ j : Nat, j ≤ n ∧ v9 = .int .i64 ((f + j : Nat) : Int) ∧ Hid (MStep B col M W { wipeS σ f n with c := dropP σ.c f j } wr)) (fun v9 _ => f + n - (intOf v9).toNat)
  case atStart => exact ⟨0, by omega, rfl, HS4⟩
  case round =>
    clear HS4
    obtain ⟨j, hj, rfl, HS⟩ := hrel
    obtain ⟨x, hx⟩ : ∃ x, f + j = x := ⟨_, rfl⟩
    rw [hx]
    by_cases hlt : j < n
    · have l1 : (x : Int) < (f : Int) + (n : Int) := by omega
      have q1 : (x : Int) < 1024 := by have := HFN.out; omega
      obtain ⟨colr, hmr, hcr, hor, hbr⟩ := HS.out
      obtain ⟨P, sg, t, S, kb, ⟨-, k1, -, -, -⟩, -⟩ := hmr.ex
      have HMR := Lib.hid hmr
      have HJ : Hid (∀ σ' w', MStep B colr M wr σ' w' → MStep B col M W σ' w') := Lib.hid (fun σ' w' h' => MStep.join hcr hor hbr hmr.size (Below.refl _ _) h')
      have HX := Lib.hid (And.intro hx (And.intro hj hlt))
      clear hmr hcr hor hbr HS hx hj hlt
      go_wp2_with fail
      refine (mem_drop x sg HMR.out k1 (by have := HX.out; have := HFN.out; omega)).mono ?_
      rintro e w5 ⟨rfl, hs5⟩
      have HS5 : Hid (MStep B col M W { wipeS σ f n with c := dropP σ.c f (j + 1) } w5) := Lib.hid ((HJ.out _ _ hs5).same (by
        rw [← dropP_next, HX.out.1]))
      clear hs5 HJ HMR k1
      go_wp2_with fail
      go_roundw
      case rel => exact ⟨j + 1, by have := HX.out; omega, congrArg (Value.int .i64) (by have := HX.out; omega), HS5⟩
      case measure => (have := HX.out; simp [intOf]; omega)
    · have l1 : ¬ (x : Int) < (f : Int) + (n : Int) := by omega
      have HF : Hid (MStep B col M W (wipeS σ f n) wr) := Lib.hid (by
        have := HS.out
        rw [show j = n by omega] at this
        exact this)
      clear HS
      go_wp2
      exact bodyPost_end (v := .tuple #[]) (by simp [results, Tryd.results58, go_sem]) rfl ⟨rfl, HF.out⟩
def offP (pg : Nat → Bool) (f n : Nat) : Nat → Bool := fun y => pg y && !decide (f ≤ y ∧ y < f + n)
theorem munmap_not (f n : Nat) (h : MEM B col M W σ) (ht : thereI f n) (hw : wholeF σ.pg f n = false) :
    Calls Tryd.prog 15 #[.pointer (some ⟨M, 0, none⟩), .int .i64 (f : Int), .int .i64 (n : Int)] W fun e w' => e = .returned (.int .i64 5) ∧ W = w' := by
  obtain ⟨P, sg, t, S, kb, ⟨k0, -, -, -, -⟩, ⟨lo, hi, g, ws, hp, -, hb, -⟩, -⟩ := h.ex
  have HP := Lib.hid hp
  have HT := Lib.hid ht
  have HW : Hid (wholeB ws (f : Int).toNat (n : Int).toNat = false) := Lib.hid (by rw [wholeB_F, show bitB ws = σ.pg from funext hb, Int.toNat_natCast, Int.toNat_natCast]; exact hw)
  clear h hp hb ht hw
  go_enter Tryd.func15, Tryd.ntmps15
  go_wp2_with fail
  refine (punmap_not (f : Int) (n : Int) HP.out HT.out HW.out).mono ?_
  rintro e w' ⟨rfl, rfl⟩
  go_wp2
  go_ret
  exact ⟨rfl, rfl⟩
set_option maxHeartbeats 1600000 in
theorem munmap_ok (f n : Nat) (h : MEM B col M W σ) (ht : thereI f n) (hw : wholeF σ.pg f n = true) :
    Calls Tryd.prog 15 #[.pointer (some ⟨M, 0, none⟩), .int .i64 (f : Int), .int .i64 (n : Int)] W fun e w' => e = .returned (.int .i64 0) ∧ MStep B col M W { wipeS σ f n with pg := offP σ.pg f n } w' := by
  have H := Lib.hid h
  obtain ⟨P, sg, t, S, kb, hall⟩ := h.ex
  have HA := Lib.hid hall
  obtain ⟨⟨k0, -, -, -, -⟩, ⟨lo, hi, g, ws, hp, hl, hb, hc⟩, -⟩ := hall
  have hn2 : 0 ≤ (f : Int) ∧ (f : Int) < 1024 ∧ 1 ≤ (n : Int) ∧ (n : Int) ≤ 1024 - f := ht
  have hbits : ∀ y, bitB (dropN ws f n).1 y = offP σ.pg f n y := fun y => by rw [dropN_bits _ _ _ _ (by omega), hb]; rfl
  have h1 := dropN_cnt ws f n 1024 (by omega) (by omega)
  rw [dropN_count ws _ _ (by omega) (fun y a b => by rw [hb]; exact wholeF_iff.1 hw y a b), cntB_F, cntB_F, show bitB (dropN ws f n).1 = offP σ.pg f n from funext hbits, show bitB ws = σ.pg from funext hb] at h1
  have HCN := Lib.hid h1
  have HP := Lib.hid hp
  have HT := Lib.hid ht
  have HW : Hid (wholeB ws (f : Int).toNat (n : Int).toNat = true) := Lib.hid (by rw [wholeB_F, show bitB ws = σ.pg from funext hb, Int.toNat_natCast, Int.toNat_natCast]; exact hw)
  have HBI := Lib.hid hbits
  have HC := Lib.hid hc
  have HL := Lib.hid hl
  clear h hp hb ht hw hn2 hbits h1 hc hl
  go_enter Tryd.func15, Tryd.ntmps15
  go_wp2_with fail
  refine (punmap_ok (f : Int) (n : Int) HP.out HT.out HW.out (by have := HCN.out; omega)).mono ?_
  rintro e w1 ⟨rfl, hp2, ho⟩
  have hs : MStep B col M W { σ with pg := offP σ.pg f n, peak := σ.peak } w1 := by
    refine H.out.set_pg HA.out (ho.1.mono (H.out.own lo (by rw [HC.out lo (Nat.le_refl _) (by have := HP.out.1.1; have := HP.out.2.1; omega)]; decide)).1) (fun i hi hc => ?_) ⟨lo, hi, g, _, by rw [Int.toNat_natCast, Int.toNat_natCast] at hp2; rw [HCN.out]; exact hp2, by rw [dropN_len]; exact HL.out, HBI.out, HC.out⟩
    have hhi := HP.out.2.1.1
    by_cases hlo : lo ≤ i
    · by_cases hip : i ≤ P
      · exact absurd (HC.out i hlo hip) hc
      · exact ho.2.2 i (by omega)
    · exact ho.1.block i (by omega)
  obtain ⟨col2, hm2, hc2, ho2, hb2⟩ := hs
  have HM2 := Lib.hid hm2
  have HJ : Hid (∀ σ' w', MStep B col2 M w1 σ' w' → MStep B col M W σ' w') := Lib.hid (fun σ' w' h' => MStep.join hc2 ho2 hb2 hm2.size (Below.refl _ _) h')
  clear hm2 hc2 ho2 hb2 hp2 ho
  go_wp2_with fail
  refine (mwipe f n HM2.out HT.out).mono ?_
  rintro e w2 ⟨rfl, hs2⟩
  have HF := Lib.hid (HJ.out _ _ hs2)
  clear hs2
  go_wp2
  go_ret
  exact ⟨rfl, HF.out⟩
end
end Go.Proofs.YtgidnmjeifgciaaDoor
