/- The walk of PagesRaw. -/
import Derived.Test.YtgjahmdfkbdcpaaDoorPagesA
import Derived.Deep.DeepCutAuto
namespace Go.Proofs.YtgjahmdfkbdcpaaDoor
open Go.RowKit
set_option linter.unusedVariables false
set_option linter.unusedSimpArgs false

theorem whole_none {f n : Nat} (h : 1 ≤ n) : wholeB (List.replicate 16 0) f n = false := whole_cut (j := 0) (bitB_none 16 _) (by omega)

set_option maxHeartbeats 4000000 in
set_option maxRecDepth 8000 in
theorem walkPagesRaw (a0 : Int) (a1 : Int) (a2 : Int) (w : World) (w0 : (Lit.int .i64 a0).wf = true) (w1 : (Lit.int .i64 a1).wf = true) (w2 : (Lit.int .i64 a2).wf = true) (ht : TzTab w) :
    Calls Tryd.prog 5 #[.int .i64 a0, .int .i64 a1, .int .i64 a2] w fun e w' => e = .returned (.bool true) ∧ Below w.heap.size w w' := by
  have T := Lib.hid ht; clear ht
  obtain ⟨b1, b2⟩ := bounds_i64 w1
  obtain ⟨b3, b4⟩ := bounds_i64 w2
  obtain ⟨K, hK⟩ : ∃ K, min (max a0 0) 1024 = K := ⟨_, rfl⟩
  have hKc : a0 < 0 ∧ K = 0 ∨ 0 ≤ a0 ∧ a0 ≤ 1024 ∧ K = a0 ∨ 1024 < a0 ∧ K = 1024 := by omega
  have HK := Lib.hid hK; have HKC := Lib.hid hKc
  clear hK hKc
  by_cases hth : thereI a1 a2
  · have HTH := Lib.hid hth
    unfold thereI at hth
    obtain ⟨t1, t2, t3, t4⟩ := hth
    go_enter Tryd.func5, Tryd.ntmps5
    go_wp2_with fail
    refine (pnew_any a0 K _ HK.out).mono ?_
    rintro e v1 ⟨g, p, rfl, hp, hb1⟩
    have HP := Lib.hid hp; clear hp
    go_wp2_with fail
    refine (pmap_free a1 a2 HP.out HTH.out (fun y _ _ => bitB_none 16 y) (T.out.later hb1)).mono ?_
    rintro e v2 (⟨hn, rfl, q2, hw2⟩ | ⟨hn, rfl, hp2, ho2⟩)
    · have HP2 : Hid (PgIs w.heap.size p g p v2 0 K 0 (List.replicate 16 0)) := Lib.hid (by rw [hw2]; exact HP.out)
      have hbel2 : Below w.heap.size w v2 := by rw [hw2]; exact below_drewN hb1 q2
      clear hw2 HP
      rcases HKC.out with ⟨c1, c2⟩ | ⟨c1, c3, c2⟩ | ⟨c1, c2⟩
      rotate_left 2
      · exfalso; omega
      all_goals
        clear HKC
        subst c2
        go_wp2_with fail
        refine (s04awake_any _ (T.out.later hbel2)).mono ?_
        rintro e v3 ⟨rfl, hb3⟩
        have hbel3 := hbel2.trans (hb3.mono hbel2.size)
        have HP3 := Lib.hid (HP2.out.below hb3 HP2.out.2.1.2 hb3.size)
        clear hb3 HP2
        go_wp2_with fail
        refine (pwhole false _ _ HP3.out (by rw [whole_none (by omega), Bool.and_false])).mono ?_
        rintro e w' ⟨rfl, rfl⟩
        go_wp2_with fail
        refine (npmap _).mono ?_
        rintro e w' ⟨rfl, rfl⟩
        go_wp2_with fail
        refine (npunmap _).mono ?_
        rintro e w' ⟨rfl, rfl⟩
        go_wp2_with fail
        refine (npused _).mono ?_
        rintro e w' ⟨rfl, rfl⟩
        go_wp2_with fail
        refine (npmost _).mono ?_
        rintro e w' ⟨rfl, rfl⟩
        go_wp2_with fail
        refine (nppeak _).mono ?_
        rintro e w' ⟨rfl, rfl⟩
        go_wp2_with fail
        refine (nplist _).mono ?_
        rintro e w' ⟨rfl, rfl⟩
        go_wp2_with fail
        refine (npnext _).mono ?_
        rintro e w' ⟨rfl, rfl⟩
        go_wp2_with fail
        refine (nphas _).mono ?_
        rintro e w' ⟨rfl, rfl⟩
        go_wp2_with fail
        refine (npwhole _).mono ?_
        rintro e w' ⟨rfl, rfl⟩
        go_wp2
        go_ret
        exact ⟨rfl, hbel3⟩
    · have hw : wholeB (putN (List.replicate 16 0) a1.toNat a2.toNat).1 a1.toNat a2.toNat = true := whole_bits (fun y h1 h2 => by rw [put_zero_bits _ _ _ (by omega)]; exact decide_eq_true ⟨h1, h2⟩)
      have HW := Lib.hid hw
      have HP2 := Lib.hid hp2
      have hbel2 := below_only hb1 ho2 (Nat.le_refl _)
      clear hp2 hw
      generalize (putN (List.replicate 16 0) a1.toNat a2.toNat).1 = ws at *
      rcases HKC.out with ⟨c1, c2⟩ | ⟨c1, c3, c2⟩ | ⟨c1, c2⟩
      · exfalso; omega
      all_goals
        clear HKC
        subst c2
        go_wp2_with fail
        refine (s04awake_any _ (T.out.later hbel2)).mono ?_
        rintro e v3 ⟨rfl, hb3⟩
        have hbel3 := hbel2.trans (hb3.mono hbel2.size)
        have HP3 := Lib.hid (HP2.out.below hb3 HP2.out.2.1.2 hb3.size)
        clear hb3 HP2
        go_wp2_with fail
        refine (pwhole true _ _ HP3.out (by rw [HW.out, Bool.and_true]; exact decide_eq_true (by omega))).mono ?_
        rintro e w' ⟨rfl, rfl⟩
        go_wp2_with fail
        refine (npmap _).mono ?_
        rintro e w' ⟨rfl, rfl⟩
        go_wp2_with fail
        refine (npunmap _).mono ?_
        rintro e w' ⟨rfl, rfl⟩
        go_wp2_with fail
        refine (npused _).mono ?_
        rintro e w' ⟨rfl, rfl⟩
        go_wp2_with fail
        refine (npmost _).mono ?_
        rintro e w' ⟨rfl, rfl⟩
        go_wp2_with fail
        refine (nppeak _).mono ?_
        rintro e w' ⟨rfl, rfl⟩
        go_wp2_with fail
        refine (nplist _).mono ?_
        rintro e w' ⟨rfl, rfl⟩
        go_wp2_with fail
        refine (npnext _).mono ?_
        rintro e w' ⟨rfl, rfl⟩
        go_wp2_with fail
        refine (nphas _).mono ?_
        rintro e w' ⟨rfl, rfl⟩
        go_wp2_with fail
        refine (npwhole _).mono ?_
        rintro e w' ⟨rfl, rfl⟩
        go_wp2
        go_ret
        exact ⟨rfl, hbel3⟩
  · have hc : a1 < 0 ∨ (0 ≤ a1 ∧ ¬ a1 < 1024) ∨ (0 ≤ a1 ∧ a1 < 1024 ∧ ¬ 1 ≤ a2) ∨ (0 ≤ a1 ∧ a1 < 1024 ∧ 1 ≤ a2 ∧ decide (a2 ≤ 1024 - a1) = false) := by unfold thereI at hth; rw [decide_eq_false_iff_not]; omega
    have hd : decide (1 ≤ a2 ∧ 0 ≤ a1 ∧ a1 ≤ 1024 - a2) = false := decide_eq_false (by unfold thereI at hth; omega)
    have HTH := Lib.hid hth; have HD := Lib.hid hd
    clear hth hd
    go_enter Tryd.func5, Tryd.ntmps5
    go_wp2_with fail
    refine (pnew_any a0 K _ HK.out).mono ?_
    rintro e v1 ⟨g, p, rfl, hp, hbel2⟩
    have HP2 := Lib.hid hp; clear hp
    go_wp2_with fail
    refine (pmap_in a1 a2 HP2.out HTH.out).mono ?_
    rintro e w' ⟨rfl, rfl⟩
    rcases hc with h1 | ⟨h1, h2⟩ | ⟨h1, h2, h3⟩ | ⟨h1, h2, h3, h4⟩
    all_goals
      go_wp2_with fail
      refine (s04awake_any _ (T.out.later hbel2)).mono ?_
      rintro e v3 ⟨rfl, hb3⟩
      have hbel3 := hbel2.trans (hb3.mono hbel2.size)
      have HP3 := Lib.hid (HP2.out.below hb3 HP2.out.2.1.2 hb3.size)
      clear hb3 HP2
      go_wp2_with fail
      refine (pwhole false _ _ HP3.out (by rw [HD.out]; rfl)).mono ?_
      rintro e w' ⟨rfl, rfl⟩
      go_wp2_with fail
      refine (npmap _).mono ?_
      rintro e w' ⟨rfl, rfl⟩
      go_wp2_with fail
      refine (npunmap _).mono ?_
      rintro e w' ⟨rfl, rfl⟩
      go_wp2_with fail
      refine (npused _).mono ?_
      rintro e w' ⟨rfl, rfl⟩
      go_wp2_with fail
      refine (npmost _).mono ?_
      rintro e w' ⟨rfl, rfl⟩
      go_wp2_with fail
      refine (nppeak _).mono ?_
      rintro e w' ⟨rfl, rfl⟩
      go_wp2_with fail
      refine (nplist _).mono ?_
      rintro e w' ⟨rfl, rfl⟩
      go_wp2_with fail
      refine (npnext _).mono ?_
      rintro e w' ⟨rfl, rfl⟩
      go_wp2_with fail
      refine (nphas _).mono ?_
      rintro e w' ⟨rfl, rfl⟩
      go_wp2_with fail
      refine (npwhole _).mono ?_
      rintro e w' ⟨rfl, rfl⟩
      go_wp2
      go_ret
      exact ⟨rfl, hbel3⟩
end Go.Proofs.YtgjahmdfkbdcpaaDoor
