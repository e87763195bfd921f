/- The walk of ConfPages. -/
import Derived.Test.YtapkennnhnajnaaConfD
import Derived.Deep.RegionWith
import Derived.RegionTactic
import Derived.ChangeAlike
import Derived.BigRegion
namespace Go.Proofs.Ytapkennnhnajnaa
open Go.RowKit
set_option linter.unusedVariables false
set_option linter.unusedSimpArgs false

def OfR (rg lg PG q : Int) (b : Bool) : Prop := (PG < rg * 20 ∧ PG / rg = q ∧ b = true) ∨ (¬ PG < rg * 20 ∧ PG < rg * 20 + lg ∧ q = -1 ∧ b = true) ∨ (¬ PG < rg * 20 ∧ ¬ PG < rg * 20 + lg ∧ q = -1 ∧ b = false)
theorem ofr_ex (rg lg PG : Int) (h : 0 ≤ lg) : ∃ q b, OfR rg lg PG q b ∧ b = decide (PG < rg * 20 + lg) := by
  by_cases h1 : PG < rg * 20
  · exact ⟨_, _, .inl ⟨h1, rfl, rfl⟩, (decide_eq_true (by omega)).symm⟩
  · by_cases h2 : PG < rg * 20 + lg
    · exact ⟨_, _, .inr (.inl ⟨h1, h2, rfl, rfl⟩), (decide_eq_true (by omega)).symm⟩
    · exact ⟨_, _, .inr (.inr ⟨h1, h2, rfl, rfl⟩), (decide_eq_false (by omega)).symm⟩
theorem cof_is (pg rg lg th ca ba sh re mo fi key : Int) (a PG q : Int) (b : Bool) (w : World) (HI : Hid (cfI pg rg lg th ca ba sh re mo fi = 0)) (HR : Hid ((5 ≤ rg ∧ rg ≤ 16) ∧ (0 ≤ lg ∧ lg ≤ 1024))) (hat : 0 ≤ a ∧ a ≤ 262143) (hPG : a / 256 = PG) (h : OfR rg lg PG q b) :
    Calls Try.prog 9 #[.agg #[.int .i64 pg, .int .i64 rg, .int .i64 lg, .int .i64 th, .int .i64 ca, .int .i64 ba, .int .i64 sh, .int .i64 re, .int .i64 mo, .int .i64 fi, .int .u64 key], .int .i64 a] w fun e w' => e = .returned (.tuple #[.int .i64 q, .bool b]) ∧ Below w.heap.size w w' := by
  rcases h with ⟨h1, h2, rfl⟩ | ⟨h1, h2, rfl, rfl⟩ | ⟨h1, h2, rfl, rfl⟩
  · exact cof_small pg rg lg th ca ba sh re mo fi key a w HI HR PG q hat hPG h1 h2
  · exact cof_large pg rg lg th ca ba sh re mo fi key a w HI HR PG hat hPG h1 h2
  · exact cof_none pg rg lg th ca ba sh re mo fi key a w HI HR PG hat hPG h1 h2
set_option maxRecDepth 8000 in
set_option maxHeartbeats 8000000 in
theorem walkConfPagesX (n0 n1 n2 n3 a k : Int) (w : World) :
    Calls Try.prog 4 #[.agg #[.int .i64 n0, .int .i64 n1, .int .i64 n2, .int .i64 n3], .int .i64 a, .int .i64 k] w fun e w' => e = .returned (.bool true) ∧ Below w.heap.size w w' := by
  have e0 := and262143 a
  obtain ⟨X, hX⟩ : ∃ X, a % 262144 = X := ⟨_, rfl⟩
  have hX2 : 0 ≤ X ∧ X < 262144 := by omega
  rw [hX] at e0
  obtain ⟨PG, hPG⟩ : ∃ PG, X / 256 = PG := ⟨_, rfl⟩
  have g1 : X.tdiv 256 = PG := by rw [Int.tdiv_eq_ediv_of_nonneg hX2.1]; exact hPG
  have hp2 : 0 ≤ PG ∧ PG ≤ 1023 := by omega
  have HX := Lib.hid hX2
  have HPG := Lib.hid hPG
  obtain ⟨x1, x2⟩ := hX2
  obtain ⟨p1, p2⟩ := hp2
  clear hX
  go_enter Try.func4, Try.ntmps4
  go_wp2_with fail
  refine (crconf _ _ _ _ true _).mono ?_
  rintro e w1 ⟨pg, rg, lg, th, ca, ba, sh, re, mo, fi, key, rfl, hcf, hb1⟩
  obtain ⟨hok, hsum⟩ := hcf.ok
  have HI0 : Hid (cfI pg rg lg th ca ba sh re mo fi = 0) := Lib.hid (by unfold cfI; rw [if_pos hok, if_neg (by omega)])
  have HR : Hid ((5 ≤ rg ∧ rg ≤ 16) ∧ (0 ≤ lg ∧ lg ≤ 1024)) := Lib.hid (by unfold CfOk at hok; omega)
  clear hok hcf hsum
  go_upto_region 2 with (fail)
  obtain ⟨W1, hW1⟩ : ∃ W1, w1.alloc (.cells #[.int .i64 pg, .int .i64 rg, .int .i64 lg, .int .i64 th, .int .i64 ca, .int .i64 ba, .int .i64 sh, .int .i64 re, .int .i64 mo, .int .i64 fi, .int .u64 key] 25) = W1 := ⟨_, rfl⟩
  have HC1 : Hid (ConfAt w1.heap.size W1 pg rg lg th ca ba sh re mo fi key) := Lib.hid (by rw [← hW1]; exact ConfAt.new _ _ _ _ _ _ _ _ _ _ _ _ _)
  have HB1 : Hid (Below w.heap.size w W1) := Lib.hid (by rw [← hW1]; exact alc (thn (alc0 _ _) hb1) _)
  have hwx : w.heap.size ≤ w1.heap.size := Nat.le_trans (by simp) hb1.size
  rw [hW1]
  obtain ⟨p, hp⟩ : ∃ p, w1.heap.size = p := ⟨_, rfl⟩
  rw [hp] at HC1 hwx ⊢
  clear hW1 hb1 hp
  obtain ⟨q, b, hq, hb⟩ := ofr_ex rg lg PG HR.out.2.1
  have HQ := Lib.hid hq
  obtain ⟨r1, r2⟩ := HR.out.1
  obtain ⟨r3, r4⟩ := HR.out.2
  have hb2 : decide (PG < 20 * rg + lg) = b := by rw [hb, decide_eq_decide]; omega
  have HB2 := Lib.hid hb2
  clear hq hb hb2
  obtain ⟨_, k0, k1, k2, k3, k4, k5, k6, k7, k8, k9, k10, kf⟩ := HC1.out
  go_upto_region 4 with (fail)
  go_cut [10, 11] (fun v10 v11 wx => v10 = .int .i64 (-1) ∧ v11 = .bool b ∧ Hid (ConfAt p wx pg rg lg th ca ba sh re mo fi key) ∧ Hid (Below w.heap.size w wx))
  case first =>
    have hb2 := HB2.out
    cases b
    all_goals
      go_quiet (fail)
      go_wp2
      go_meet
      exact ⟨rfl, rfl, Lib.hid (HC1.out.below (below_drewN (Below.refl _ _) _)), Lib.hid (below_drewN HB1.out _)⟩
  case rest =>
    obtain ⟨rfl, rfl, HC3, HB3⟩ := hcut
    clear k0 k1 k2 k3 k4 k5 k6 k7 k8 k9 k10 kf HC1 HB1
    obtain ⟨_, k0, k1, k2, k3, k4, k5, k6, k7, k8, k9, k10, kf⟩ := HC3.out
    obtain ⟨wa, rfl⟩ : ∃ wa : World, wa = wc := ⟨_, rfl⟩
    go_upto_region 5 with (fail)
    go_cut [37] (fun v37 wx => v37 = .bool (decide (PG < rg * 20)) ∧ wa = wx)
    case first =>
      by_cases h : PG < 20 * rg
      · go_wp2_with fail
        go_meet
        exact ⟨by rw [decide_eq_true (by omega)] <;> simp [h], rfl⟩
      · go_wp2_with fail
        go_meet
        exact ⟨by rw [decide_eq_false (by omega)] <;> simp [h], rfl⟩
    case rest =>
      obtain ⟨rfl, rfl⟩ := hcut
      go_upto_if 37 with (fail)
      go_cut [10] (fun v10 wx => v10 = .int .i64 q ∧ wa = wx)
      case first =>
        rcases HQ.out with ⟨h1, h2, rfl⟩ | ⟨h1, h2, rfl, rfl⟩ | ⟨h1, h2, rfl, rfl⟩
        · have g3 : PG.tdiv rg = q := by rw [Int.tdiv_eq_ediv_of_nonneg p1]; exact h2
          have hne : ¬ rg = 0 := by omega
          have hQ2 : 0 ≤ q ∧ q ≤ 1023 := by
            rw [← h2]
            exact ⟨Int.ediv_nonneg p1 (by omega), Int.le_trans (Int.ediv_le_self _ p1) p2⟩
          obtain ⟨hQ3, hQ4⟩ := hQ2
          rw [decide_eq_true h1]
          clear h1
          go_wp2_with fail
          go_meet
          exact ⟨rfl, rfl⟩
        all_goals
          rw [decide_eq_false h1]
          clear h1 h2
          go_wp2_with fail
          go_meet
          exact ⟨rfl, rfl⟩
      case rest =>
        obtain ⟨rfl, rfl⟩ := hcut
        go_wp2_with fail
        refine (cof_is _ _ _ _ _ _ _ _ _ _ _ _ PG q b _ HI0 HR ⟨HX.out.1, by have := HX.out; omega⟩ HPG.out HQ.out).mono ?_
        rintro e w4 ⟨rfl, hb⟩
        have HC4 := Lib.hid (HC3.out.below hb)
        have HB4 := Lib.hid (thn HB3.out hb)
        clear k0 k1 k2 k3 k4 k5 k6 k7 k8 k9 k10 kf hb HC3 HB3
        obtain ⟨_, k0, k1, k2, k3, k4, k5, k6, k7, k8, k9, k10, kf⟩ := HC4.out
        go_wp2_with fail
        refine (cof_out _ _ _ _ _ _ _ _ _ _ _ _ _ HI0 HR (by omega)).mono ?_
        rintro e w5 ⟨rfl, hb⟩
        have HC5 := Lib.hid (HC4.out.below hb)
        have HB5 := Lib.hid (thn HB4.out hb)
        clear k0 k1 k2 k3 k4 k5 k6 k7 k8 k9 k10 kf hb HC4 HB4
        obtain ⟨_, k0, k1, k2, k3, k4, k5, k6, k7, k8, k9, k10, kf⟩ := HC5.out
        go_wp2_with fail
        refine (cof_out _ _ _ _ _ _ _ _ _ _ _ _ _ HI0 HR (by omega)).mono ?_
        rintro e w6 ⟨rfl, hb⟩
        have HC6 := Lib.hid (HC5.out.below hb)
        have HB6 := Lib.hid (thn HB5.out hb)
        clear k0 k1 k2 k3 k4 k5 k6 k7 k8 k9 k10 kf hb HC5 HB5
        obtain ⟨hpz, k0, k1, k2, k3, k4, k5, k6, k7, k8, k9, k10, kf⟩ := HC6.out
        go_upto_region 11 with (fail)
        go_cut [67] (fun v67 wx => v67 = .bool (decide (0 ≤ k ∧ k < 20)) ∧ w6 = wx)
        case first =>
          by_cases h1 : 0 ≤ k
          · by_cases h2 : k < 20
            · go_wp2_with fail
              go_meet
              exact ⟨by rw [decide_eq_true (And.intro h1 h2)], rfl⟩
            · go_wp2_with fail
              go_meet
              exact ⟨by rw [decide_eq_false (by omega)], rfl⟩
          · go_wp2_with fail
            go_meet
            exact ⟨by rw [decide_eq_false (by omega)], rfl⟩
        case rest =>
          obtain ⟨rfl, rfl⟩ := hcut
          go_upto_if 67 with (fail)
          go_cut [18] (fun v18 wx => v18 = .int .i64 (fitI k rg) ∧ Hid (ConfAt p wx pg rg lg th ca ba sh re mo fi key) ∧ Hid (Below w.heap.size w wx))
          case first =>
            by_cases hk : 0 ≤ k ∧ k < 20
            · rw [decide_eq_true hk]
              obtain ⟨kn, rfl⟩ : ∃ kn : Nat, k = kn := ⟨k.toNat, by omega⟩
              have hkn : kn < 20 := by omega
              have hO1 := ofI_pos hkn
              have hO2 := (ofI_bd kn).2
              obtain ⟨O, hO⟩ : ∃ O, ofI kn = O := ⟨_, rfl⟩
              rw [hO] at hO1 hO2
              have hcell : ∀ W : World, (W.alloc sizesO).cell? ⟨W.heap.size, kn, none⟩ = some (.int .i64 O) := fun W => by rw [sizes_cell W kn hkn, hO]
              obtain ⟨E, hE⟩ : ∃ E, rg * 256 / (O + 16) = E := ⟨_, rfl⟩
              have g3 : (rg * 256).tdiv (O + 16) = E := by rw [Int.tdiv_eq_ediv_of_nonneg (by omega)]; exact hE
              have hne : ¬ O + 16 = 0 := by omega
              have hE2 : 0 ≤ E ∧ E ≤ 4096 := by
                rw [← hE]
                exact ⟨Int.ediv_nonneg (by omega) (by omega), Int.le_trans (Int.ediv_le_self _ (by omega)) (by omega)⟩
              have HFI : Hid (E = fitI kn rg) := Lib.hid (by
                rw [fitI, if_neg (by rw [hO]; omega), blockI, if_neg (by rw [hO]; omega), hO]; exact hE.symm)
              obtain ⟨hE3, hE4⟩ := hE2
              obtain ⟨hk1, hk2⟩ := hk
              have hk3 : (kn : Int).toNat = kn := Int.toNat_natCast kn
              have hw1 : IntKind.i64.wrap (O + 16) = O + 16 := IntWalk.i64_in _ (by omega)
              have hw2 : IntKind.i64.wrap (rg * 256) = rg * 256 := IntWalk.i64_in _ (by omega)
              have hw3 : IntKind.i64.wrap E = E := IntWalk.i64_in _ (by omega)
              clear hO
              go_upto_region 12 with (fail)
              go_region_with (go_at_call 10; refine (sizes_any _).mono ?_; rintro e w' ⟨rfl, rfl⟩)
              all_goals go_wp2
              all_goals go_meet
              all_goals exact ⟨congrArg (Value.int .i64) HFI.out, Lib.hid (HC6.out.below (by first | exact alc0 _ _ | exact (alc0 _ _).drew | exact (Below.refl _ _).drew.alloc (Nat.le_refl _) _)), Lib.hid (by first | exact alc HB6.out _ | exact (alc HB6.out _).drew | exact alc HB6.out.drew _)⟩
            · rw [decide_eq_false hk]
              have hz : (0 : Int) = fitI k rg := by rw [fitI, if_pos (Or.inl (by unfold ofI; rw [if_pos (by omega)]))]
              have HZ := Lib.hid hz
              clear hz
              go_wp2_with fail
              go_meet
              exact ⟨congrArg (Value.int .i64) HZ.out, HC6, HB6⟩
          case rest =>
            obtain ⟨rfl, HCf, HBf⟩ := hcut
            clear k0 k1 k2 k3 k4 k5 k6 k7 k8 k9 k10 kf hpz HC6 HB6
            obtain ⟨hpf, k0, k1, k2, k3, k4, k5, k6, k7, k8, k9, k10, kf⟩ := HCf.out
            have BS := (show p + 1 ≤ wc.heap.size from hpf)
            have hA : 20 * rg = rg * 20 := Int.mul_comm _ _
            have hA3 : IntKind.i64.wrap (rg * 20) = rg * 20 := IntWalk.i64_in _ (by omega)
            as_aux_lemma =>
              go_wp2_with fail
              refine wp_region_held_drew (S := (fun w' => w'.cell? ⟨p, 0, none⟩ = some (.int .i64 pg) ∧ w'.cell? ⟨p, 1, none⟩ = some (.int .i64 rg) ∧ w'.cell? ⟨p, 2, none⟩ = some (.int .i64 lg) ∧ w'.cell? ⟨p, 3, none⟩ = some (.int .i64 th) ∧ w'.cell? ⟨p, 4, none⟩ = some (.int .i64 ca) ∧ w'.cell? ⟨p, 5, none⟩ = some (.int .i64 ba) ∧ w'.cell? ⟨p, 6, none⟩ = some (.int .i64 sh) ∧ w'.cell? ⟨p, 7, none⟩ = some (.int .i64 re) ∧ w'.cell? ⟨p, 8, none⟩ = some (.int .i64 mo) ∧ w'.cell? ⟨p, 9, none⟩ = some (.int .i64 fi) ∧ w'.cell? ⟨p, 10, none⟩ = some (.int .u64 key) ∧ Below w.heap.size w w' ∧ p + 1 ≤ w'.heap.size)) (by kernel_rfl) ?_ (fun hHeld => ?_)
              · (refine ⟨?_, ?_, ?_, ?_, ?_, ?_, ?_, ?_, ?_, ?_, ?_, ?_, ?_⟩ <;> first | exact HBf.out.drew | exact BS | (go_keep; done))
              refine wpAnyH_ready (rs := [0]) (by kernel_rfl) (by simp) ?_
              refine AllReadyH.cons rfl (fun K2 hK2 => ?_) AllReadyH.nil
              go_simp
              refine (c38awake_any _).mono ?_
              rintro e w9 ⟨rfl, hb⟩
              refine hK2.out _ _ ?_ (fun hHeld2 => ?_)
              · go_split_ands
                refine ⟨?_, ?_, ?_, ?_, ?_, ?_, ?_, ?_, ?_, ?_, ?_, ?_, ?_⟩
                · (rw [hb.cell (by first | omega | (simp <;> omega))]; assumption)
                · (rw [hb.cell (by first | omega | (simp <;> omega))]; assumption)
                · (rw [hb.cell (by first | omega | (simp <;> omega))]; assumption)
                · (rw [hb.cell (by first | omega | (simp <;> omega))]; assumption)
                · (rw [hb.cell (by first | omega | (simp <;> omega))]; assumption)
                · (rw [hb.cell (by first | omega | (simp <;> omega))]; assumption)
                · (rw [hb.cell (by first | omega | (simp <;> omega))]; assumption)
                · (rw [hb.cell (by first | omega | (simp <;> omega))]; assumption)
                · (rw [hb.cell (by first | omega | (simp <;> omega))]; assumption)
                · (rw [hb.cell (by first | omega | (simp <;> omega))]; assumption)
                · (rw [hb.cell (by first | omega | (simp <;> omega))]; assumption)
                · exact Below.trans (by assumption) (hb.mono (by first | omega | (simp <;> omega)))
                · (have := hb.size; omega)
              clear hK2 K2 hHeld
              have hHeld := hHeld2
              clear hHeld2
              try simp (maxSteps := 4000000) only [Act.put, List.setIfInBounds_toArray, List.set_cons_zero, List.set_cons_succ, List.getElem_toArray, List.getElem_cons_zero, List.getElem_cons_succ]
              refine wpAnyH_take (i := 1) (v := ?_) rfl (by kernel_rfl) (by kernel_rfl) (by kernel_rfl) (fun _ _ _ h => h) (Or.inl ⟨by kernel_rfl, ?_⟩) (by assumption) ?_
              rotate_left
              · (intro w hSw; (try dsimp only at hSw); go_simp)
                try (with_reducible rfl)
              rotate_left
              try simp (maxSteps := 4000000) only [Act.put, List.setIfInBounds_toArray, List.set_cons_zero, List.set_cons_succ, List.getElem_toArray, List.getElem_cons_zero, List.getElem_cons_succ]
              refine wpAnyH_take (i := 2) (v := ?_) rfl (by kernel_rfl) (by kernel_rfl) (by kernel_rfl) (fun _ _ _ h => h) (Or.inl ⟨by kernel_rfl, ?_⟩) (by assumption) ?_
              rotate_left
              · (intro w hSw; (try dsimp only at hSw); go_simp)
                try (with_reducible rfl)
              rotate_left
              try simp (maxSteps := 4000000) only [Act.put, List.setIfInBounds_toArray, List.set_cons_zero, List.set_cons_succ, List.getElem_toArray, List.getElem_cons_zero, List.getElem_cons_succ]
              refine wpAnyH_take (i := 3) (v := ?_) rfl (by kernel_rfl) (by kernel_rfl) (by kernel_rfl) (fun _ _ _ h => h) (Or.inl ⟨by kernel_rfl, ?_⟩) (by assumption) ?_
              rotate_left
              · (intro w hSw; (try dsimp only at hSw); go_simp)
                try (with_reducible rfl)
              rotate_left
              try simp (maxSteps := 4000000) only [Act.put, List.setIfInBounds_toArray, List.set_cons_zero, List.set_cons_succ, List.getElem_toArray, List.getElem_cons_zero, List.getElem_cons_succ]
              refine wpAnyH_take (i := 4) (v := ?_) rfl (by kernel_rfl) (by kernel_rfl) (by kernel_rfl) (fun _ _ _ h => h) (Or.inl ⟨by kernel_rfl, ?_⟩) (by assumption) ?_
              rotate_left
              · (intro w hSw; (try dsimp only at hSw); go_simp)
                try (with_reducible rfl)
              rotate_left
              try simp (maxSteps := 4000000) only [Act.put, List.setIfInBounds_toArray, List.set_cons_zero, List.set_cons_succ, List.getElem_toArray, List.getElem_cons_zero, List.getElem_cons_succ]
              refine wpAnyH_take (i := 5) (v := ?_) rfl (by kernel_rfl) (by kernel_rfl) (by kernel_rfl) (fun _ _ _ h => h) (Or.inl ⟨by kernel_rfl, ?_⟩) (by assumption) ?_
              rotate_left
              · (intro w hSw; (try dsimp only at hSw); go_simp)
                try (with_reducible rfl)
              rotate_left
              try simp (maxSteps := 4000000) only [Act.put, List.setIfInBounds_toArray, List.set_cons_zero, List.set_cons_succ, List.getElem_toArray, List.getElem_cons_zero, List.getElem_cons_succ]
              refine wpAnyH_take (i := 6) (v := ?_) rfl (by kernel_rfl) (by kernel_rfl) (by kernel_rfl) (fun _ _ _ h => h) (Or.inl ⟨by kernel_rfl, ?_⟩) (by assumption) ?_
              rotate_left
              · (intro w hSw; (try dsimp only at hSw); go_simp)
                try (with_reducible rfl)
              rotate_left
              try simp (maxSteps := 4000000) only [Act.put, List.setIfInBounds_toArray, List.set_cons_zero, List.set_cons_succ, List.getElem_toArray, List.getElem_cons_zero, List.getElem_cons_succ]
              refine wpAnyH_take (i := 7) (v := ?_) rfl (by kernel_rfl) (by kernel_rfl) (by kernel_rfl) (fun _ _ _ h => h) (Or.inl ⟨by kernel_rfl, ?_⟩) (by assumption) ?_
              rotate_left
              · (intro w hSw; (try dsimp only at hSw); go_simp)
                try (with_reducible rfl)
              rotate_left
              try simp (maxSteps := 4000000) only [Act.put, List.setIfInBounds_toArray, List.set_cons_zero, List.set_cons_succ, List.getElem_toArray, List.getElem_cons_zero, List.getElem_cons_succ]
              refine wpAnyH_take (i := 8) (v := ?_) rfl (by kernel_rfl) (by kernel_rfl) (by kernel_rfl) (fun _ _ _ h => h) (Or.inl ⟨by kernel_rfl, ?_⟩) (by assumption) ?_
              rotate_left
              · (intro w hSw; (try dsimp only at hSw); go_simp)
                try (with_reducible rfl)
              rotate_left
              try simp (maxSteps := 4000000) only [Act.put, List.setIfInBounds_toArray, List.set_cons_zero, List.set_cons_succ, List.getElem_toArray, List.getElem_cons_zero, List.getElem_cons_succ]
              refine wpAnyH_take (i := 9) (v := ?_) rfl (by kernel_rfl) (by kernel_rfl) (by kernel_rfl) (fun _ _ _ h => h) (Or.inl ⟨by kernel_rfl, ?_⟩) (by assumption) ?_
              rotate_left
              · (intro w hSw; (try dsimp only at hSw); go_simp)
                try (with_reducible rfl)
              rotate_left
              try simp (maxSteps := 4000000) only [Act.put, List.setIfInBounds_toArray, List.set_cons_zero, List.set_cons_succ, List.getElem_toArray, List.getElem_cons_zero, List.getElem_cons_succ]
              refine wpAnyH_take (i := 10) (v := ?_) rfl (by kernel_rfl) (by kernel_rfl) (by kernel_rfl) (fun _ _ _ h => h) (Or.inl ⟨by kernel_rfl, ?_⟩) (by assumption) ?_
              rotate_left
              · (intro w hSw; (try dsimp only at hSw); go_simp)
                try (with_reducible rfl)
              rotate_left
              try simp (maxSteps := 4000000) only [Act.put, List.setIfInBounds_toArray, List.set_cons_zero, List.set_cons_succ, List.getElem_toArray, List.getElem_cons_zero, List.getElem_cons_succ]
              refine wpAnyH_take (i := 11) (v := ?_) rfl (by kernel_rfl) (by kernel_rfl) (by kernel_rfl) (fun _ _ _ h => h) (Or.inl ⟨by kernel_rfl, ?_⟩) (by assumption) ?_
              rotate_left
              · (intro w hSw; (try dsimp only at hSw); go_simp)
                try (with_reducible rfl)
              rotate_left
              try simp (maxSteps := 4000000) only [Act.put, List.setIfInBounds_toArray, List.set_cons_zero, List.set_cons_succ, List.getElem_toArray, List.getElem_cons_zero, List.getElem_cons_succ]
              refine wpAnyH_take (i := 12) (v := ?_) rfl (by kernel_rfl) (by kernel_rfl) (by kernel_rfl) (fun _ _ _ h => h) (Or.inl ⟨by kernel_rfl, ?_⟩) (by assumption) ?_
              rotate_left
              · (intro w hSw; (try dsimp only at hSw); go_simp)
                try (with_reducible rfl)
              rotate_left
              try simp (maxSteps := 4000000) only [Act.put, List.setIfInBounds_toArray, List.set_cons_zero, List.set_cons_succ, List.getElem_toArray, List.getElem_cons_zero, List.getElem_cons_succ]
              refine wpAnyH_take (i := 13) (v := ?_) rfl (by kernel_rfl) (by kernel_rfl) (by kernel_rfl) (fun _ _ _ h => h) (Or.inl ⟨by kernel_rfl, ?_⟩) (by assumption) ?_
              rotate_left
              · (intro w hSw; (try dsimp only at hSw); go_simp)
                try (with_reducible rfl)
              rotate_left
              try simp (maxSteps := 4000000) only [Act.put, List.setIfInBounds_toArray, List.set_cons_zero, List.set_cons_succ, List.getElem_toArray, List.getElem_cons_zero, List.getElem_cons_succ]
              refine wpAnyH_take (i := 14) (v := ?_) rfl (by kernel_rfl) (by kernel_rfl) (by kernel_rfl) (fun _ _ _ h => h) (Or.inl ⟨by kernel_rfl, ?_⟩) (by assumption) ?_
              rotate_left
              · (intro w hSw; (try dsimp only at hSw); go_simp)
                try (with_reducible rfl)
              rotate_left
              try simp (maxSteps := 4000000) only [Act.put, List.setIfInBounds_toArray, List.set_cons_zero, List.set_cons_succ, List.getElem_toArray, List.getElem_cons_zero, List.getElem_cons_succ]
              refine wpAnyH_take (i := 15) (v := ?_) rfl (by kernel_rfl) (by kernel_rfl) (by kernel_rfl) (fun _ _ _ h => h) (Or.inl ⟨by kernel_rfl, ?_⟩) (by assumption) ?_
              rotate_left
              · (intro w hSw; (try dsimp only at hSw); go_simp)
                try (with_reducible rfl)
              rotate_left
              try simp (maxSteps := 4000000) only [Act.put, List.setIfInBounds_toArray, List.set_cons_zero, List.set_cons_succ, List.getElem_toArray, List.getElem_cons_zero, List.getElem_cons_succ]
              refine wpAnyH_take (i := 16) (v := ?_) rfl (by kernel_rfl) (by kernel_rfl) (by kernel_rfl) (fun _ _ _ h => h) (Or.inl ⟨by kernel_rfl, ?_⟩) (by assumption) ?_
              rotate_left
              · (intro w hSw; (try dsimp only at hSw); go_simp)
                try (with_reducible rfl)
              rotate_left
              try simp (maxSteps := 4000000) only [Act.put, List.setIfInBounds_toArray, List.set_cons_zero, List.set_cons_succ, List.getElem_toArray, List.getElem_cons_zero, List.getElem_cons_succ]
              refine wpAnyH_take (i := 17) (v := ?_) rfl (by kernel_rfl) (by kernel_rfl) (by kernel_rfl) (fun _ _ _ h => h) (Or.inl ⟨by kernel_rfl, ?_⟩) (by assumption) ?_
              rotate_left
              · (intro w hSw; (try dsimp only at hSw); go_simp)
                try (with_reducible rfl)
              rotate_left
              try simp (maxSteps := 4000000) only [Act.put, List.setIfInBounds_toArray, List.set_cons_zero, List.set_cons_succ, List.getElem_toArray, List.getElem_cons_zero, List.getElem_cons_succ]
              refine wpAnyH_take (i := 18) (v := ?_) rfl (by kernel_rfl) (by kernel_rfl) (by kernel_rfl) (fun _ _ _ h => h) (Or.inl ⟨by kernel_rfl, ?_⟩) (by assumption) ?_
              rotate_left
              · (intro w hSw; (try dsimp only at hSw); go_simp)
                try (with_reducible rfl)
              rotate_left
              try simp (maxSteps := 4000000) only [Act.put, List.setIfInBounds_toArray, List.set_cons_zero, List.set_cons_succ, List.getElem_toArray, List.getElem_cons_zero, List.getElem_cons_succ]
              refine wpAnyH_take (i := 19) (v := ?_) rfl (by kernel_rfl) (by kernel_rfl) (by kernel_rfl) (fun _ _ _ h => h) (Or.inl ⟨by kernel_rfl, ?_⟩) (by assumption) ?_
              rotate_left
              · (intro w hSw; (try dsimp only at hSw); go_simp)
                try (with_reducible rfl)
              rotate_left
              try simp (maxSteps := 4000000) only [Act.put, List.setIfInBounds_toArray, List.set_cons_zero, List.set_cons_succ, List.getElem_toArray, List.getElem_cons_zero, List.getElem_cons_succ]
              refine wpAnyH_take (i := 20) (v := ?_) rfl (by kernel_rfl) (by kernel_rfl) (by kernel_rfl) (fun _ _ _ h => h) (Or.inl ⟨by kernel_rfl, ?_⟩) (by assumption) ?_
              rotate_left
              · (intro w hSw; (try dsimp only at hSw); go_simp)
                try (with_reducible rfl)
              rotate_left
              try simp (maxSteps := 4000000) only [Act.put, List.setIfInBounds_toArray, List.set_cons_zero, List.set_cons_succ, List.getElem_toArray, List.getElem_cons_zero, List.getElem_cons_succ]
              refine wpAnyH_take (i := 21) (v := ?_) rfl (by kernel_rfl) (by kernel_rfl) (by kernel_rfl) (fun _ _ _ h => h) (Or.inl ⟨by kernel_rfl, ?_⟩) (by assumption) ?_
              rotate_left
              · (intro w hSw; (try dsimp only at hSw); go_simp)
                try (with_reducible rfl)
              rotate_left
              try simp (maxSteps := 4000000) only [Act.put, List.setIfInBounds_toArray, List.set_cons_zero, List.set_cons_succ, List.getElem_toArray, List.getElem_cons_zero, List.getElem_cons_succ]
              refine wpAnyH_take (i := 22) (v := ?_) rfl (by kernel_rfl) (by kernel_rfl) (by kernel_rfl) (fun _ _ _ h => h) (Or.inl ⟨by kernel_rfl, ?_⟩) (by assumption) ?_
              rotate_left
              · (intro w hSw; (try dsimp only at hSw); go_simp)
                try (with_reducible rfl)
              rotate_left
              try simp (maxSteps := 4000000) only [Act.put, List.setIfInBounds_toArray, List.set_cons_zero, List.set_cons_succ, List.getElem_toArray, List.getElem_cons_zero, List.getElem_cons_succ]
              refine wpAnyH_take (i := 23) (v := ?_) rfl (by kernel_rfl) (by kernel_rfl) (by kernel_rfl) (fun _ _ _ h => h) (Or.inl ⟨by kernel_rfl, ?_⟩) (by assumption) ?_
              rotate_left
              · (intro w hSw; (try dsimp only at hSw); go_simp)
                try (with_reducible rfl)
              rotate_left
              try simp (maxSteps := 4000000) only [Act.put, List.setIfInBounds_toArray, List.set_cons_zero, List.set_cons_succ, List.getElem_toArray, List.getElem_cons_zero, List.getElem_cons_succ]
              refine wpAnyH_take (i := 24) (v := ?_) rfl (by kernel_rfl) (by kernel_rfl) (by kernel_rfl) (fun _ _ _ h => h) (Or.inl ⟨by kernel_rfl, ?_⟩) (by assumption) ?_
              rotate_left
              · (intro w hSw; (try dsimp only at hSw); go_simp)
                try (with_reducible rfl)
              rotate_left
              try simp (maxSteps := 4000000) only [Act.put, List.setIfInBounds_toArray, List.set_cons_zero, List.set_cons_succ, List.getElem_toArray, List.getElem_cons_zero, List.getElem_cons_succ]
              refine wpAnyH_take (i := 25) (v := ?_) rfl (by kernel_rfl) (by kernel_rfl) (by kernel_rfl) (fun _ _ _ h => h) (Or.inl ⟨by kernel_rfl, ?_⟩) (by assumption) ?_
              rotate_left
              · (intro w hSw; (try dsimp only at hSw); go_simp)
                try (with_reducible rfl)
              rotate_left
              try simp (maxSteps := 4000000) only [Act.put, List.setIfInBounds_toArray, List.set_cons_zero, List.set_cons_succ, List.getElem_toArray, List.getElem_cons_zero, List.getElem_cons_succ]
              refine wpAnyH_take (i := 26) (v := ?_) rfl (by kernel_rfl) (by kernel_rfl) (by kernel_rfl) (fun _ _ _ h => h) (Or.inl ⟨by kernel_rfl, ?_⟩) (by assumption) ?_
              rotate_left
              · (intro w hSw; (try dsimp only at hSw); go_simp)
                try (with_reducible rfl)
              rotate_left
              try simp (maxSteps := 4000000) only [Act.put, List.setIfInBounds_toArray, List.set_cons_zero, List.set_cons_succ, List.getElem_toArray, List.getElem_cons_zero, List.getElem_cons_succ]
              refine wpAnyH_take (i := 27) (v := ?_) rfl (by kernel_rfl) (by kernel_rfl) (by kernel_rfl) (fun _ _ _ h => h) (Or.inl ⟨by kernel_rfl, ?_⟩) (by assumption) ?_
              rotate_left
              · (intro w hSw; (try dsimp only at hSw); go_simp)
                try (with_reducible rfl)
              rotate_left
              try simp (maxSteps := 4000000) only [Act.put, List.setIfInBounds_toArray, List.set_cons_zero, List.set_cons_succ, List.getElem_toArray, List.getElem_cons_zero, List.getElem_cons_succ]
              refine wpAnyH_take (i := 28) (v := ?_) rfl (by kernel_rfl) (by kernel_rfl) (by kernel_rfl) (fun _ _ _ h => h) (Or.inl ⟨by kernel_rfl, ?_⟩) (by assumption) ?_
              rotate_left
              · (intro w hSw; (try dsimp only at hSw); go_simp)
                try (with_reducible rfl)
              rotate_left
              try simp (maxSteps := 4000000) only [Act.put, List.setIfInBounds_toArray, List.set_cons_zero, List.set_cons_succ, List.getElem_toArray, List.getElem_cons_zero, List.getElem_cons_succ]
              refine wpAnyH_take (i := 29) (v := ?_) rfl (by kernel_rfl) (by kernel_rfl) (by kernel_rfl) (fun _ _ _ h => h) (Or.inl ⟨by kernel_rfl, ?_⟩) (by assumption) ?_
              rotate_left
              · (intro w hSw; (try dsimp only at hSw); go_simp)
                try (with_reducible rfl)
              rotate_left
              try simp (maxSteps := 4000000) only [Act.put, List.setIfInBounds_toArray, List.set_cons_zero, List.set_cons_succ, List.getElem_toArray, List.getElem_cons_zero, List.getElem_cons_succ]
              refine wpAnyH_take (i := 31) (v := ?_) rfl (by kernel_rfl) (by kernel_rfl) (by kernel_rfl) (fun _ _ _ h => h) (Or.inl ⟨by kernel_rfl, ?_⟩) (by assumption) ?_
              rotate_left
              · (intro w hSw; (try dsimp only at hSw); go_simp)
                try (with_reducible rfl)
              rotate_left
              try simp (maxSteps := 4000000) only [Act.put, List.setIfInBounds_toArray, List.set_cons_zero, List.set_cons_succ, List.getElem_toArray, List.getElem_cons_zero, List.getElem_cons_succ]
              refine wpAnyH_ready (rs := [30]) (by kernel_rfl) (by simp) ?_
              refine AllReadyH.cons rfl (fun K2 hK2 => ?_) AllReadyH.nil
              go_simp
              refine (cfit_of _ _ _ _ _ _ _ _ _ _ _ _ _ HI0).mono ?_
              rintro e w9 ⟨rfl, hb⟩
              refine hK2.out _ _ ?_ (fun hHeld2 => ?_)
              · go_split_ands
                refine ⟨?_, ?_, ?_, ?_, ?_, ?_, ?_, ?_, ?_, ?_, ?_, ?_, ?_⟩
                · (rw [hb.cell (by first | omega | (simp <;> omega))]; assumption)
                · (rw [hb.cell (by first | omega | (simp <;> omega))]; assumption)
                · (rw [hb.cell (by first | omega | (simp <;> omega))]; assumption)
                · (rw [hb.cell (by first | omega | (simp <;> omega))]; assumption)
                · (rw [hb.cell (by first | omega | (simp <;> omega))]; assumption)
                · (rw [hb.cell (by first | omega | (simp <;> omega))]; assumption)
                · (rw [hb.cell (by first | omega | (simp <;> omega))]; assumption)
                · (rw [hb.cell (by first | omega | (simp <;> omega))]; assumption)
                · (rw [hb.cell (by first | omega | (simp <;> omega))]; assumption)
                · (rw [hb.cell (by first | omega | (simp <;> omega))]; assumption)
                · (rw [hb.cell (by first | omega | (simp <;> omega))]; assumption)
                · exact Below.trans (by assumption) (hb.mono (by first | omega | (simp <;> omega)))
                · (have := hb.size; omega)
              clear hK2 K2 hHeld
              have hHeld := hHeld2
              clear hHeld2
              try simp (maxSteps := 4000000) only [Act.put, List.setIfInBounds_toArray, List.set_cons_zero, List.set_cons_succ, List.getElem_toArray, List.getElem_cons_zero, List.getElem_cons_succ]
              refine wpAnyH_take (i := 32) (v := ?_) rfl (by kernel_rfl) (by kernel_rfl) (by kernel_rfl) (fun _ _ _ h => h) (Or.inl ⟨by kernel_rfl, ?_⟩) (by assumption) ?_
              rotate_left
              · (intro w hSw; (try dsimp only at hSw); go_simp)
                try (with_reducible rfl)
              rotate_left
              try simp (maxSteps := 4000000) only [Act.put, List.setIfInBounds_toArray, List.set_cons_zero, List.set_cons_succ, List.getElem_toArray, List.getElem_cons_zero, List.getElem_cons_succ]
              refine wpAnyH_take (i := 33) (v := ?_) rfl (by kernel_rfl) (by kernel_rfl) (by kernel_rfl) (fun _ _ _ h => h) (Or.inl ⟨by kernel_rfl, ?_⟩) (by assumption) ?_
              rotate_left
              · (intro w hSw; (try dsimp only at hSw); go_simp)
                try (with_reducible rfl)
              rotate_left
              try simp (maxSteps := 4000000) only [Act.put, List.setIfInBounds_toArray, List.set_cons_zero, List.set_cons_succ, List.getElem_toArray, List.getElem_cons_zero, List.getElem_cons_succ]
              refine wpAnyH_take (i := 34) (v := ?_) rfl (by kernel_rfl) (by kernel_rfl) (by kernel_rfl) (fun _ _ _ h => h) (Or.inl ⟨by kernel_rfl, ?_⟩) (by assumption) ?_
              rotate_left
              · (intro w hSw; (try dsimp only at hSw); go_simp)
                try (with_reducible rfl)
              rotate_left
              try simp (maxSteps := 4000000) only [Act.put, List.setIfInBounds_toArray, List.set_cons_zero, List.set_cons_succ, List.getElem_toArray, List.getElem_cons_zero, List.getElem_cons_succ]
              refine wpAnyH_take (i := 35) (v := ?_) rfl (by kernel_rfl) (by kernel_rfl) (by kernel_rfl) (fun _ _ _ h => h) (Or.inl ⟨by kernel_rfl, ?_⟩) (by assumption) ?_
              rotate_left
              · (intro w hSw; (try dsimp only at hSw); go_simp)
                try (with_reducible rfl)
              rotate_left
              try simp (maxSteps := 4000000) only [Act.put, List.setIfInBounds_toArray, List.set_cons_zero, List.set_cons_succ, List.getElem_toArray, List.getElem_cons_zero, List.getElem_cons_succ]
              refine wpAnyH_ready (rs := [36]) (by kernel_rfl) (by simp) ?_
              refine AllReadyH.cons rfl (fun K2 hK2 => ?_) AllReadyH.nil
              go_simp
              refine (cfit_zero _).mono ?_
              rintro e w9 ⟨rfl, hb⟩
              refine hK2.out _ _ ?_ (fun hHeld2 => ?_)
              · go_split_ands
                refine ⟨?_, ?_, ?_, ?_, ?_, ?_, ?_, ?_, ?_, ?_, ?_, ?_, ?_⟩
                · (rw [hb.cell (by first | omega | (simp <;> omega))]; assumption)
                · (rw [hb.cell (by first | omega | (simp <;> omega))]; assumption)
                · (rw [hb.cell (by first | omega | (simp <;> omega))]; assumption)
                · (rw [hb.cell (by first | omega | (simp <;> omega))]; assumption)
                · (rw [hb.cell (by first | omega | (simp <;> omega))]; assumption)
                · (rw [hb.cell (by first | omega | (simp <;> omega))]; assumption)
                · (rw [hb.cell (by first | omega | (simp <;> omega))]; assumption)
                · (rw [hb.cell (by first | omega | (simp <;> omega))]; assumption)
                · (rw [hb.cell (by first | omega | (simp <;> omega))]; assumption)
                · (rw [hb.cell (by first | omega | (simp <;> omega))]; assumption)
                · (rw [hb.cell (by first | omega | (simp <;> omega))]; assumption)
                · exact Below.trans (by assumption) (hb.mono (by first | omega | (simp <;> omega)))
                · (have := hb.size; omega)
              clear hK2 K2 hHeld
              have hHeld := hHeld2
              clear hHeld2
              try simp (maxSteps := 4000000) only [Act.put, List.setIfInBounds_toArray, List.set_cons_zero, List.set_cons_succ, List.getElem_toArray, List.getElem_cons_zero, List.getElem_cons_succ]
              refine wpAnyH_take (i := 37) (v := ?_) rfl (by kernel_rfl) (by kernel_rfl) (by kernel_rfl) (fun _ _ _ h => h) (Or.inl ⟨by kernel_rfl, ?_⟩) (by assumption) ?_
              rotate_left
              · (intro w hSw; (try dsimp only at hSw); go_simp)
                try (with_reducible rfl)
              rotate_left
              try simp (maxSteps := 4000000) only [Act.put, List.setIfInBounds_toArray, List.set_cons_zero, List.set_cons_succ, List.getElem_toArray, List.getElem_cons_zero, List.getElem_cons_succ]
              refine wpAnyH_take (i := 38) (v := ?_) rfl (by kernel_rfl) (by kernel_rfl) (by kernel_rfl) (fun _ _ _ h => h) (Or.inl ⟨by kernel_rfl, ?_⟩) (by assumption) ?_
              rotate_left
              · (intro w hSw; (try dsimp only at hSw); go_simp)
                try (with_reducible rfl)
              rotate_left
              try simp (maxSteps := 4000000) only [Act.put, List.setIfInBounds_toArray, List.set_cons_zero, List.set_cons_succ, List.getElem_toArray, List.getElem_cons_zero, List.getElem_cons_succ]
              refine wpAnyH_take (i := 39) (v := ?_) rfl (by kernel_rfl) (by kernel_rfl) (by kernel_rfl) (fun _ _ _ h => h) (Or.inl ⟨by kernel_rfl, ?_⟩) (by assumption) ?_
              rotate_left
              · (intro w hSw; (try dsimp only at hSw); go_simp)
                try (with_reducible rfl)
              rotate_left
              try simp (maxSteps := 4000000) only [Act.put, List.setIfInBounds_toArray, List.set_cons_zero, List.set_cons_succ, List.getElem_toArray, List.getElem_cons_zero, List.getElem_cons_succ]
              refine wpAnyH_take (i := 40) (v := ?_) rfl (by kernel_rfl) (by kernel_rfl) (by kernel_rfl) (fun _ _ _ h => h) (Or.inl ⟨by kernel_rfl, ?_⟩) (by assumption) ?_
              rotate_left
              · (intro w hSw; (try dsimp only at hSw); go_simp)
                try (with_reducible rfl)
              rotate_left
              try simp (maxSteps := 4000000) only [Act.put, List.setIfInBounds_toArray, List.set_cons_zero, List.set_cons_succ, List.getElem_toArray, List.getElem_cons_zero, List.getElem_cons_succ]
              refine wpAnyH_take (i := 42) (v := ?_) rfl (by kernel_rfl) (by kernel_rfl) (by kernel_rfl) (fun _ _ _ h => h) (Or.inl ⟨by kernel_rfl, ?_⟩) (by assumption) ?_
              rotate_left
              · (intro w hSw; (try dsimp only at hSw); go_simp)
                try (with_reducible rfl)
              rotate_left
              try simp (maxSteps := 4000000) only [Act.put, List.setIfInBounds_toArray, List.set_cons_zero, List.set_cons_succ, List.getElem_toArray, List.getElem_cons_zero, List.getElem_cons_succ]
              refine wpAnyH_take (i := 43) (v := ?_) rfl (by kernel_rfl) (by kernel_rfl) (by kernel_rfl) (fun _ _ _ h => h) (Or.inl ⟨by kernel_rfl, ?_⟩) (by assumption) ?_
              rotate_left
              · (intro w hSw; (try dsimp only at hSw); go_simp)
                try (with_reducible rfl)
              rotate_left
              try simp (maxSteps := 4000000) only [Act.put, List.setIfInBounds_toArray, List.set_cons_zero, List.set_cons_succ, List.getElem_toArray, List.getElem_cons_zero, List.getElem_cons_succ]
              refine wpAnyH_take (i := 44) (v := ?_) rfl (by kernel_rfl) (by kernel_rfl) (by kernel_rfl) (fun _ _ _ h => h) (Or.inl ⟨by kernel_rfl, ?_⟩) (by assumption) ?_
              rotate_left
              · (intro w hSw; (try dsimp only at hSw); go_simp)
                try (with_reducible rfl)
              rotate_left
              try simp (maxSteps := 4000000) only [Act.put, List.setIfInBounds_toArray, List.set_cons_zero, List.set_cons_succ, List.getElem_toArray, List.getElem_cons_zero, List.getElem_cons_succ]
              refine wpAnyH_take (i := 45) (v := ?_) rfl (by kernel_rfl) (by kernel_rfl) (by kernel_rfl) (fun _ _ _ h => h) (Or.inl ⟨by kernel_rfl, ?_⟩) (by assumption) ?_
              rotate_left
              · (intro w hSw; (try dsimp only at hSw); go_simp)
                try (with_reducible rfl)
              rotate_left
              try simp (maxSteps := 4000000) only [Act.put, List.setIfInBounds_toArray, List.set_cons_zero, List.set_cons_succ, List.getElem_toArray, List.getElem_cons_zero, List.getElem_cons_succ]
              refine wpAnyH_ready (rs := [41]) (by kernel_rfl) (by simp) ?_
              refine AllReadyH.cons rfl (fun K2 hK2 => ?_) AllReadyH.nil
              go_simp
              refine (csmall_of _ _ _ _ _ _ _ _ _ _ _ _ HI0 HR).mono ?_
              rintro e w9 ⟨rfl, hb⟩
              refine hK2.out _ _ ?_ (fun hHeld2 => ?_)
              · go_split_ands
                refine ⟨?_, ?_, ?_, ?_, ?_, ?_, ?_, ?_, ?_, ?_, ?_, ?_, ?_⟩
                · (rw [hb.cell (by first | omega | (simp <;> omega))]; assumption)
                · (rw [hb.cell (by first | omega | (simp <;> omega))]; assumption)
                · (rw [hb.cell (by first | omega | (simp <;> omega))]; assumption)
                · (rw [hb.cell (by first | omega | (simp <;> omega))]; assumption)
                · (rw [hb.cell (by first | omega | (simp <;> omega))]; assumption)
                · (rw [hb.cell (by first | omega | (simp <;> omega))]; assumption)
                · (rw [hb.cell (by first | omega | (simp <;> omega))]; assumption)
                · (rw [hb.cell (by first | omega | (simp <;> omega))]; assumption)
                · (rw [hb.cell (by first | omega | (simp <;> omega))]; assumption)
                · (rw [hb.cell (by first | omega | (simp <;> omega))]; assumption)
                · (rw [hb.cell (by first | omega | (simp <;> omega))]; assumption)
                · exact Below.trans (by assumption) (hb.mono (by first | omega | (simp <;> omega)))
                · (have := hb.size; omega)
              clear hK2 K2 hHeld
              have hHeld := hHeld2
              clear hHeld2
              try simp (maxSteps := 4000000) only [Act.put, List.setIfInBounds_toArray, List.set_cons_zero, List.set_cons_succ, List.getElem_toArray, List.getElem_cons_zero, List.getElem_cons_succ]
              refine wpAnyH_take (i := 46) (v := ?_) rfl (by kernel_rfl) (by kernel_rfl) (by kernel_rfl) (fun _ _ _ h => h) (Or.inl ⟨by kernel_rfl, ?_⟩) (by assumption) ?_
              rotate_left
              · (intro w hSw; (try dsimp only at hSw); go_simp)
                try (with_reducible rfl)
              rotate_left
              try simp (maxSteps := 4000000) only [Act.put, List.setIfInBounds_toArray, List.set_cons_zero, List.set_cons_succ, List.getElem_toArray, List.getElem_cons_zero, List.getElem_cons_succ]
              refine wpAnyH_take (i := 47) (v := ?_) rfl (by kernel_rfl) (by kernel_rfl) (by kernel_rfl) (fun _ _ _ h => h) (Or.inl ⟨by kernel_rfl, ?_⟩) (by assumption) ?_
              rotate_left
              · (intro w hSw; (try dsimp only at hSw); go_simp)
                try (with_reducible rfl)
              rotate_left
              try simp (maxSteps := 4000000) only [Act.put, List.setIfInBounds_toArray, List.set_cons_zero, List.set_cons_succ, List.getElem_toArray, List.getElem_cons_zero, List.getElem_cons_succ]
              refine wpAnyH_take (i := 48) (v := ?_) rfl (by kernel_rfl) (by kernel_rfl) (by kernel_rfl) (fun _ _ _ h => h) (Or.inl ⟨by kernel_rfl, ?_⟩) (by assumption) ?_
              rotate_left
              · (intro w hSw; (try dsimp only at hSw); go_simp)
                try (with_reducible rfl)
              rotate_left
              try simp (maxSteps := 4000000) only [Act.put, List.setIfInBounds_toArray, List.set_cons_zero, List.set_cons_succ, List.getElem_toArray, List.getElem_cons_zero, List.getElem_cons_succ]
              refine wpAnyH_take (i := 49) (v := ?_) rfl (by kernel_rfl) (by kernel_rfl) (by kernel_rfl) (fun _ _ _ h => h) (Or.inl ⟨by kernel_rfl, ?_⟩) (by assumption) ?_
              rotate_left
              · (intro w hSw; (try dsimp only at hSw); go_simp)
                try (with_reducible rfl)
              rotate_left
              try simp (maxSteps := 4000000) only [Act.put, List.setIfInBounds_toArray, List.set_cons_zero, List.set_cons_succ, List.getElem_toArray, List.getElem_cons_zero, List.getElem_cons_succ]
              refine wpAnyH_take (i := 51) (v := ?_) rfl (by kernel_rfl) (by kernel_rfl) (by kernel_rfl) (fun _ _ _ h => h) (Or.inl ⟨by kernel_rfl, ?_⟩) (by assumption) ?_
              rotate_left
              · (intro w hSw; (try dsimp only at hSw); go_simp)
                try (with_reducible rfl)
              rotate_left
              try simp (maxSteps := 4000000) only [Act.put, List.setIfInBounds_toArray, List.set_cons_zero, List.set_cons_succ, List.getElem_toArray, List.getElem_cons_zero, List.getElem_cons_succ]
              refine wpAnyH_take (i := 52) (v := ?_) rfl (by kernel_rfl) (by kernel_rfl) (by kernel_rfl) (fun _ _ _ h => h) (Or.inl ⟨by kernel_rfl, ?_⟩) (by assumption) ?_
              rotate_left
              · (intro w hSw; (try dsimp only at hSw); go_simp)
                try (with_reducible rfl)
              rotate_left
              try simp (maxSteps := 4000000) only [Act.put, List.setIfInBounds_toArray, List.set_cons_zero, List.set_cons_succ, List.getElem_toArray, List.getElem_cons_zero, List.getElem_cons_succ]
              refine wpAnyH_take (i := 53) (v := ?_) rfl (by kernel_rfl) (by kernel_rfl) (by kernel_rfl) (fun _ _ _ h => h) (Or.inl ⟨by kernel_rfl, ?_⟩) (by assumption) ?_
              rotate_left
              · (intro w hSw; (try dsimp only at hSw); go_simp)
                try (with_reducible rfl)
              rotate_left
              try simp (maxSteps := 4000000) only [Act.put, List.setIfInBounds_toArray, List.set_cons_zero, List.set_cons_succ, List.getElem_toArray, List.getElem_cons_zero, List.getElem_cons_succ]
              refine wpAnyH_take (i := 54) (v := ?_) rfl (by kernel_rfl) (by kernel_rfl) (by kernel_rfl) (fun _ _ _ h => h) (Or.inl ⟨by kernel_rfl, ?_⟩) (by assumption) ?_
              rotate_left
              · (intro w hSw; (try dsimp only at hSw); go_simp)
                try (with_reducible rfl)
              rotate_left
              try simp (maxSteps := 4000000) only [Act.put, List.setIfInBounds_toArray, List.set_cons_zero, List.set_cons_succ, List.getElem_toArray, List.getElem_cons_zero, List.getElem_cons_succ]
              refine wpAnyH_take (i := 55) (v := ?_) rfl (by kernel_rfl) (by kernel_rfl) (by kernel_rfl) (fun _ _ _ h => h) (Or.inl ⟨by kernel_rfl, ?_⟩) (by assumption) ?_
              rotate_left
              · (intro w hSw; (try dsimp only at hSw); go_simp)
                try (with_reducible rfl)
              rotate_left
              try simp (maxSteps := 4000000) only [Act.put, List.setIfInBounds_toArray, List.set_cons_zero, List.set_cons_succ, List.getElem_toArray, List.getElem_cons_zero, List.getElem_cons_succ]
              refine wpAnyH_take (i := 56) (v := ?_) rfl (by kernel_rfl) (by kernel_rfl) (by kernel_rfl) (fun _ _ _ h => h) (Or.inl ⟨by kernel_rfl, ?_⟩) (by assumption) ?_
              rotate_left
              · (intro w hSw; (try dsimp only at hSw); go_simp)
                try (with_reducible rfl)
              rotate_left
              try simp (maxSteps := 4000000) only [Act.put, List.setIfInBounds_toArray, List.set_cons_zero, List.set_cons_succ, List.getElem_toArray, List.getElem_cons_zero, List.getElem_cons_succ]
              refine wpAnyH_ready (rs := [50]) (by kernel_rfl) (by simp) ?_
              refine AllReadyH.cons rfl (fun K2 hK2 => ?_) AllReadyH.nil
              go_simp
              refine (clarge_of _ _ _ _ _ _ _ _ _ _ _ _ HI0 HR).mono ?_
              rintro e w9 ⟨rfl, hb⟩
              refine hK2.out _ _ ?_ (fun hHeld2 => ?_)
              · go_split_ands
                refine ⟨?_, ?_, ?_, ?_, ?_, ?_, ?_, ?_, ?_, ?_, ?_, ?_, ?_⟩
                · (rw [hb.cell (by first | omega | (simp <;> omega))]; assumption)
                · (rw [hb.cell (by first | omega | (simp <;> omega))]; assumption)
                · (rw [hb.cell (by first | omega | (simp <;> omega))]; assumption)
                · (rw [hb.cell (by first | omega | (simp <;> omega))]; assumption)
                · (rw [hb.cell (by first | omega | (simp <;> omega))]; assumption)
                · (rw [hb.cell (by first | omega | (simp <;> omega))]; assumption)
                · (rw [hb.cell (by first | omega | (simp <;> omega))]; assumption)
                · (rw [hb.cell (by first | omega | (simp <;> omega))]; assumption)
                · (rw [hb.cell (by first | omega | (simp <;> omega))]; assumption)
                · (rw [hb.cell (by first | omega | (simp <;> omega))]; assumption)
                · (rw [hb.cell (by first | omega | (simp <;> omega))]; assumption)
                · exact Below.trans (by assumption) (hb.mono (by first | omega | (simp <;> omega)))
                · (have := hb.size; omega)
              clear hK2 K2 hHeld
              have hHeld := hHeld2
              clear hHeld2
              try simp (maxSteps := 4000000) only [Act.put, List.setIfInBounds_toArray, List.set_cons_zero, List.set_cons_succ, List.getElem_toArray, List.getElem_cons_zero, List.getElem_cons_succ]
              refine wpAnyH_take (i := 57) (v := ?_) rfl (by kernel_rfl) (by kernel_rfl) (by kernel_rfl) (fun _ _ _ h => h) (Or.inl ⟨by kernel_rfl, ?_⟩) (by assumption) ?_
              rotate_left
              · (intro w hSw; (try dsimp only at hSw); go_simp)
                try (with_reducible rfl)
              rotate_left
              try simp (maxSteps := 4000000) only [Act.put, List.setIfInBounds_toArray, List.set_cons_zero, List.set_cons_succ, List.getElem_toArray, List.getElem_cons_zero, List.getElem_cons_succ]
              refine wpAnyH_take (i := 58) (v := ?_) rfl (by kernel_rfl) (by kernel_rfl) (by kernel_rfl) (fun _ _ _ h => h) (Or.inl ⟨by kernel_rfl, ?_⟩) (by assumption) ?_
              rotate_left
              · (intro w hSw; (try dsimp only at hSw); go_simp)
                try (with_reducible rfl)
              rotate_left
              try simp (maxSteps := 4000000) only [Act.put, List.setIfInBounds_toArray, List.set_cons_zero, List.set_cons_succ, List.getElem_toArray, List.getElem_cons_zero, List.getElem_cons_succ]
              refine wpAnyH_take (i := 59) (v := ?_) rfl (by kernel_rfl) (by kernel_rfl) (by kernel_rfl) (fun _ _ _ h => h) (Or.inl ⟨by kernel_rfl, ?_⟩) (by assumption) ?_
              rotate_left
              · (intro w hSw; (try dsimp only at hSw); go_simp)
                try (with_reducible rfl)
              rotate_left
              try simp (maxSteps := 4000000) only [Act.put, List.setIfInBounds_toArray, List.set_cons_zero, List.set_cons_succ, List.getElem_toArray, List.getElem_cons_zero, List.getElem_cons_succ]
              refine wpAnyH_done (by kernel_rfl) ?_ _
              go_wp2
              go_ret
              exact ⟨ret_bool (by simp), hHeld.2.2.2.2.2.2.2.2.2.2.2.1⟩
theorem walkConfPages (a0_0 : Int) (a0_1 : Int) (a0_2 : Int) (a0_3 : Int) (a1 : Int) (a2 : Int) (w : World) (w0_0 : (Lit.int .i64 a0_0).wf = true) (w0_1 : (Lit.int .i64 a0_1).wf = true) (w0_2 : (Lit.int .i64 a0_2).wf = true) (w0_3 : (Lit.int .i64 a0_3).wf = true) (w1 : (Lit.int .i64 a1).wf = true) (w2 : (Lit.int .i64 a2).wf = true) :
    Calls Try.prog 4 #[.agg #[.int .i64 a0_0, .int .i64 a0_1, .int .i64 a0_2, .int .i64 a0_3], .int .i64 a1, .int .i64 a2] w fun e w' => e = .returned (.bool true) ∧ Below w.heap.size w w' :=
  walkConfPagesX _ _ _ _ _ _ w
end Go.Proofs.Ytapkennnhnajnaa
