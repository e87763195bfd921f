/- The walk of RegsPlays. -/
import Derived.Test.YtpciigahikciiaaRegT
import Derived.Deep.RegionHeld3
namespace Go.Proofs.Ytpciigahikciiaa
open Go.RowKit
set_option linter.unusedVariables false
set_option linter.unusedSimpArgs false

set_option maxRecDepth 100000 in
set_option maxHeartbeats 20000000 in
theorem rplays (n : Int) (A : Option Addr) (l : List AC) (cp : Nat) (s0 s1 : Int) (W : World) (hl : l.length ≤ 9223372036854775807) (hA : ACS W A l) : Calls Try.prog 3 #[.int .i64 n, .slice A l.length cp, .agg #[.int .i64 s0, .int .i64 s1]] W fun e w' => e = .returned (.bool true) ∧ Below W.heap.size W w' := by
  have HA := Lib.hid hA
  obtain ⟨L, hL⟩ : ∃ L, l.length = L := ⟨_, rfl⟩
  rw [hL] at hl ⊢
  have HL := Lib.hid hL
  clear hA hL
  have fn := and15 n
  obtain ⟨k, hk, hk9⟩ : ∃ k : Nat, n % 16 = (k : Int) ∧ k < 16 := ⟨(n % 16).toNat, by omega, by omega⟩
  rw [hk] at fn
  clear hk
  go_enter Try.func3, Try.ntmps3
  go_wp2_with fail
  with_reducible refine Calls.mono (rnew (k : Int) k (by omega) _) ?_
  rintro e w1 ⟨p, g, rfl, hr, hb, hp, hg⟩
  obtain ⟨wB, hwB⟩ : ∃ wB, W.alloc (.cells #[.int .i64 s0, .int .i64 s1] 24) = wB := ⟨_, rfl⟩
  obtain ⟨x5, hx5⟩ : ∃ x5, W.heap.size = x5 := ⟨_, rfl⟩
  have HSP : Hid (wB.cell? ⟨x5, 0, none⟩ = some (.int .i64 s0) ∧ wB.cell? ⟨x5, 1, none⟩ = some (.int .i64 s1) ∧ x5 < wB.heap.size ∧ Below W.heap.size W wB) := Lib.hid (by rw [← hwB, ← hx5]; exact ⟨by simp, by simp, by simp, alc0 _ _⟩)
  try simp only [hwB] at hb hp hg ⊢
  try simp only [hx5] at hb hp hg ⊢
  have HX5 := Lib.hid hx5
  clear hwB hx5
  rw [CV_zero] at hr
  have HR := Lib.hid hr
  have HB := Lib.hid hb
  have HPG := Lib.hid (And.intro hp hg)
  clear hr hb hp hg
  go_wp2_with fail
  simp only [zeroZ, Result.andThen]
  rw [Oper.upon_value]
  go_wp2_with fail
  simp only [zeroZ, Result.andThen]
  rw [Oper.upon_value]
  go_wp2_with fail
  simp only [storeZ, Value.cells, Result.andThen, ↓reduceIte]
  rw [Oper.upon_skip]
  obtain ⟨M, hM⟩ : ∃ M, w1.heap.size = M := ⟨_, rfl⟩
  obtain ⟨wa, hwa⟩ : ∃ wa, w1.alloc (.cells ZC 29) = wa := ⟨_, rfl⟩
  have HRS : Hid (RS p g M k wB.heap.size wB wa (fun _ => cap0) (fun _ => cap0)) := Lib.hid (by
    have h := HR.out
    have h1 := h.1
    have h2 := h.2.1
    rw [← hwa, ← hM]
    exact ⟨h.below (alc0 _ _), CB.new _ _, ⟨by omega, by omega, HPG.out.1, HPG.out.2, HB.out.size⟩, alc HB.out _⟩)
  try rw [hwa]
  try rw [hM]
  clear hwa hM HR HB HPG
  go_wp2_with fail
  go_loopw [10, 11, 12, 13, 14] (fun v10 v11 v12 v13 v14 wr => ∃ i : Nat, i ≤ L ∧ i ≤ 40 ∧ v10 = .int .i64 i ∧ ∃ f, Hid (RS p g M k wB.heap.size wB wr f f) ∧ Hid (NoV f)) (fun v10 _ _ _ _ _ => L - (intOf v10).toNat)
  case atStart => exact ⟨0, by omega, by omega, rfl, _, HRS, Lib.hid (fun _ _ => rfl)⟩
  case round =>
    obtain ⟨i, hi, hi40, rfl, f, HP, HV⟩ := hrel
    clear HRS
    by_cases hgo : i < L ∧ i < 40
    · obtain ⟨g1, g2⟩ := hgo
      have g1I : (i : Int) < (L : Int) := by omega
      have g2I : (i : Int) < 40 := by omega
      obtain ⟨q, hq⟩ : ∃ q, l[i]? = some q := ⟨l[i]'(by have := HL.out; omega), List.getElem?_eq_getElem _⟩
      obtain h0 | ⟨ab, ao, rfl, hab0, hcells⟩ := HA.out
      · have h9 := HL.out
        subst h0
        simp at h9
        omega
      have HC0 : Hid (∀ w, Below wB.heap.size wB w → ACAt w ab (ao + i * 8) q ∧ ab < w.heap.size) := Lib.hid (fun w hw => ⟨(hcells i q hq).keep hab0 (thn HSP.out.2.2.2 hw), Nat.lt_of_lt_of_le hab0 (thn HSP.out.2.2.2 hw).size⟩)
      obtain ⟨⟨c0, c1, c2, c3, c4, c5, c6, c7⟩, -⟩ := (HC0.out wr HP.out.wb).1
      have hab := (HC0.out wr HP.out.wb).2
      clear hcells hq
      have fh := and31 q.h
      obtain ⟨hh, hhh, hh1, hh2⟩ : ∃ hh : Int, q.h % 32 = hh ∧ 0 ≤ hh ∧ hh ≤ 31 := ⟨_, rfl, by omega, by omega⟩
      rw [hhh] at fh
      have fw := and3 q.w
      obtain ⟨ww, hww, hw1, hw2⟩ : ∃ ww : Int, q.w % 4 = ww ∧ 0 ≤ ww ∧ ww ≤ 3 := ⟨_, rfl, by omega, by omega⟩
      rw [hww] at fw
      clear hhh hww
      obtain ⟨H, hH⟩ : ∃ H : Int, hh - 4 = H := ⟨_, rfl⟩
      have hHb : -4 ≤ H ∧ H ≤ 27 := by omega
      obtain ⟨inn, hin⟩ : ∃ inn : Bool, decide (0 ≤ H ∧ H < (k : Int)) = inn := ⟨_, rfl⟩
      have HIN := Lib.hid hin
      go_upto_region 7 with (fail)
      go_cut [12] (fun v12 wx => v12 = .bool inn ∧ wr = wx)
      case first =>
        by_cases j0 : 0 ≤ H
        · by_cases j1 : H < (k : Int)
          · obtain rfl : true = inn := by rw [← hin]; simp [j0, j1]
            clear hin
            go_wp2_with fail
            go_meet
            exact ⟨rfl, rfl⟩
          · obtain rfl : false = inn := by rw [← hin]; simp [j1]
            clear hin
            go_wp2_with fail
            go_meet
            exact ⟨rfl, rfl⟩
        · obtain rfl : false = inn := by rw [← hin]; simp [j0]
          clear hin
          go_wp2_with fail
          go_meet
          exact ⟨rfl, rfl⟩
      case rest =>
      obtain ⟨rfl, rfl⟩ := hcut
      clear hin hH fh
      by_cases hw3 : ww = 3
      · subst hw3
        cases inn with
        | false =>
          go_wp2_with fail
          with_reducible refine Calls.mono (rclear_out p g k H wr _ HP.out.reg HIN.out) ?_
          rintro e w2 ⟨rfl, rfl⟩
          go_wp2_with fail
          go_roundw
          case rel => exact ⟨i + 1, by omega, by omega, by go_num, f, HP, HV⟩
          case measure => simp [intOf] <;> omega
        | true =>
          have hHin := HIN.out
          simp at hHin
          obtain ⟨h, rfl⟩ := Int.eq_ofNat_of_zero_le hHin.1
          have hhk : h < k := by omega
          clear hHin HIN hHb
          cases hv : (f h).v with
          | false =>
            have HVV := Lib.hid hv
            clear hv
            have hh15 : ¬ (15 : Int) < (h : Int) := by omega
            have hh16 : (h : Int) < 16 := by omega
            have hh15n : h < 15 ∨ h = 15 := by omega
            obtain ⟨m0, m1, m2, m3, m4, m5⟩ := HP.out.cb.at_ h (by omega)
            obtain ⟨z0, z1, z2, z3, z4, z5⟩ := HP.out.cb.fz h (by omega)
            rw [HVV.out] at m5
            have hMr : M < wr.heap.size := HP.out.lt.2.2
            obtain ⟨ws, hws, hcb, hkp, hsz⟩ := CB.store HP.out.cb (show h < 16 by omega) cap0
            have HS : Hid (RS p g M k wB.heap.size wB ws f f) := Lib.hid (by
              have h1 := HP.out.st hcb hkp
              rw [upd_no HV.out h HVV.out] at h1
              exact h1)
            simp only [cap0] at hws
            clear hcb hkp hsz
            go_wp2_with fail
            with_reducible refine Calls.mono (rclear_no p g k h wr _ HP.out.reg hhk (by rw [CV_5, HVV.out])) ?_
            rintro e w2 ⟨rfl, rfl⟩
            go_wp2_with fail
            go_roundw
            case rel => exact ⟨i + 1, by omega, by omega, by go_num, f, HS, HV⟩
            case measure => simp [intOf] <;> omega
          | true =>
            have HVV := Lib.hid hv
            clear hv
            have hh15 : ¬ (15 : Int) < (h : Int) := by omega
            have hh16 : (h : Int) < 16 := by omega
            have hMr : M < wr.heap.size := HP.out.lt.2.2
            go_wp2_with fail
            with_reducible refine Calls.mono (cclear_yes p g k h wr _ HP.out.reg hhk HVV.out) ?_
            rintro e w2 ⟨rfl, hr2, hk2⟩
            have HP2 := Lib.hid (HP.out.put hr2 hk2)
            clear hr2 hk2 hMr c0 c1 c2 c3 c4 c5 c6 c7
            have hMr : M < w2.heap.size := HP2.out.lt.2.2
            obtain ⟨m0, m1, m2, m3, m4, m5⟩ := HP2.out.cb.at_ h (by omega)
            obtain ⟨z0, z1, z2, z3, z4, z5⟩ := HP2.out.cb.fz h (by omega)
            rw [HVV.out] at m5
            obtain ⟨ws, hws, hcb, hkp, hsz⟩ := CB.store HP2.out.cb (show h < 16 by omega) cap0
            have HS : Hid (RS p g M k wB.heap.size wB ws (updC f h cap0) (updC f h cap0)) := Lib.hid (HP2.out.st hcb hkp)
            have HV2 : Hid (NoV (updC f h cap0)) := Lib.hid (HV.out.upd h cap0 (fun _ => rfl))
            simp only [cap0] at hws
            clear hcb hkp hsz
            go_wp2_with fail
            go_roundw
            case rel => exact ⟨i + 1, by omega, by omega, by go_num, _, HS, HV2⟩
            case measure => simp [intOf] <;> omega
      · have hw3b : (ww == 3) = false := by simpa using hw3
        go_upto_region 13 with (fail)
        go_cut [13, 14] (fun v13 v14 wx => ∃ z b' l' c' p' t' v', v13 = .pointer (some ⟨z, 0, none⟩) ∧ v14 = .int .i64 0 ∧ Hid (CapAt z wx b' l' c' p' t' v' ∧ z ≠ p ∧ z ≠ g ∧ z ≠ M) ∧ Hid (RS p g M k wB.heap.size wB wx f f))
        case first =>
          have HSS : Hid (∀ w', RS p g M k wB.heap.size wB w' f f → (w'.cell? ⟨ab, ao + i * 8, none⟩ = some (.int .i64 q.w) ∧ w'.cell? ⟨ab, ao + i * 8 + 2, none⟩ = some (.int .i64 q.b) ∧ w'.cell? ⟨ab, ao + i * 8 + 3, none⟩ = some (.int .i64 q.l) ∧ w'.cell? ⟨ab, ao + i * 8 + 4, none⟩ = some (.int .i64 q.c) ∧ w'.cell? ⟨ab, ao + i * 8 + 5, none⟩ = some (.int .i64 q.p) ∧ w'.cell? ⟨ab, ao + i * 8 + 6, none⟩ = some (.int .i64 q.t) ∧ w'.cell? ⟨ab, ao + i * 8 + 7, none⟩ = some (.bool q.v)) ∧ Hid (RS p g M k wB.heap.size wB w' f f)) := Lib.hid (fun w' h => by
            obtain ⟨⟨⟨c0, c1, c2, c3, c4, c5, c6, c7⟩, -⟩, -⟩ := HC0.out w' h.wb
            exact ⟨⟨c0, c2, c3, c4, c5, c6, c7⟩, Lib.hid h⟩)
          refine wp_region_held_drew (S := fun w' => (w'.cell? ⟨ab, ao + i * 8, none⟩ = some (.int .i64 q.w) ∧ w'.cell? ⟨ab, ao + i * 8 + 2, none⟩ = some (.int .i64 q.b) ∧ w'.cell? ⟨ab, ao + i * 8 + 3, none⟩ = some (.int .i64 q.l) ∧ w'.cell? ⟨ab, ao + i * 8 + 4, none⟩ = some (.int .i64 q.c) ∧ w'.cell? ⟨ab, ao + i * 8 + 5, none⟩ = some (.int .i64 q.p) ∧ w'.cell? ⟨ab, ao + i * 8 + 6, none⟩ = some (.int .i64 q.t) ∧ w'.cell? ⟨ab, ao + i * 8 + 7, none⟩ = some (.bool q.v)) ∧ Hid (RS p g M k wB.heap.size wB w' f f)) (by kernel_rfl) ?_ (fun hHeld => ?_)
          · exact HSS.out _ (HP.out.below (Below.refl _ _).drew)
          have hlt := HP.out.lt
          clear c0 c1 c2 c3 c4 c5 c6 c7
          refine wpAnyH_take (i := 0) (v := ?_) rfl (by kernel_rfl) (by kernel_rfl) (by kernel_rfl) (fun _ _ _ h => h) (Or.inl ⟨by kernel_rfl, ?_⟩) (by assumption) ?_
          rotate_left
          · (intro w hSw; (try dsimp only at hSw); go_simp)
            try (with_reducible rfl)
          rotate_left
          try simp (maxSteps := 4000000) only [Act.put, List.setIfInBounds_toArray, List.set_cons_zero, List.set_cons_succ, List.getElem_toArray, List.getElem_cons_zero, List.getElem_cons_succ]
          refine wpAnyH_take (i := 1) (v := ?_) rfl (by kernel_rfl) (by kernel_rfl) (by kernel_rfl) (fun _ _ _ h => h) (Or.inl ⟨by kernel_rfl, ?_⟩) (by assumption) ?_
          rotate_left
          · (intro w hSw; (try dsimp only at hSw); go_simp)
            try (with_reducible rfl)
          rotate_left
          try simp (maxSteps := 4000000) only [Act.put, List.setIfInBounds_toArray, List.set_cons_zero, List.set_cons_succ, List.getElem_toArray, List.getElem_cons_zero, List.getElem_cons_succ]
          refine wpAnyH_take (i := 2) (v := ?_) rfl (by kernel_rfl) (by kernel_rfl) (by kernel_rfl) (fun _ _ _ h => h) (Or.inl ⟨by kernel_rfl, ?_⟩) (by assumption) ?_
          rotate_left
          · (intro w hSw; (try dsimp only at hSw); go_simp)
            try (with_reducible rfl)
          rotate_left
          try simp (maxSteps := 4000000) only [Act.put, List.setIfInBounds_toArray, List.set_cons_zero, List.set_cons_succ, List.getElem_toArray, List.getElem_cons_zero, List.getElem_cons_succ]
          refine wpAnyH_take (i := 3) (v := ?_) rfl (by kernel_rfl) (by kernel_rfl) (by kernel_rfl) (fun _ _ _ h => h) (Or.inl ⟨by kernel_rfl, ?_⟩) (by assumption) ?_
          rotate_left
          · (intro w hSw; (try dsimp only at hSw); go_simp)
            try (with_reducible rfl)
          rotate_left
          try simp (maxSteps := 4000000) only [Act.put, List.setIfInBounds_toArray, List.set_cons_zero, List.set_cons_succ, List.getElem_toArray, List.getElem_cons_zero, List.getElem_cons_succ]
          refine wpAnyH_take (i := 4) (v := ?_) rfl (by kernel_rfl) (by kernel_rfl) (by kernel_rfl) (fun _ _ _ h => h) (Or.inl ⟨by kernel_rfl, ?_⟩) (by assumption) ?_
          rotate_left
          · (intro w hSw; (try dsimp only at hSw); go_simp)
            try (with_reducible rfl)
          rotate_left
          try simp (maxSteps := 4000000) only [Act.put, List.setIfInBounds_toArray, List.set_cons_zero, List.set_cons_succ, List.getElem_toArray, List.getElem_cons_zero, List.getElem_cons_succ]
          refine wpAnyH_take (i := 5) (v := ?_) rfl (by kernel_rfl) (by kernel_rfl) (by kernel_rfl) (fun _ _ _ h => h) (Or.inl ⟨by kernel_rfl, ?_⟩) (by assumption) ?_
          rotate_left
          · (intro w hSw; (try dsimp only at hSw); go_simp)
            try (with_reducible rfl)
          rotate_left
          try simp (maxSteps := 4000000) only [Act.put, List.setIfInBounds_toArray, List.set_cons_zero, List.set_cons_succ, List.getElem_toArray, List.getElem_cons_zero, List.getElem_cons_succ]
          refine wpAnyH_take (i := 6) (v := ?_) rfl (by kernel_rfl) (by kernel_rfl) (by kernel_rfl) (fun _ _ _ h => h) (Or.inl ⟨by kernel_rfl, ?_⟩) (by assumption) ?_
          rotate_left
          · (intro w hSw; (try dsimp only at hSw); go_simp)
            try (with_reducible rfl)
          rotate_left
          try simp (maxSteps := 4000000) only [Act.put, List.setIfInBounds_toArray, List.set_cons_zero, List.set_cons_succ, List.getElem_toArray, List.getElem_cons_zero, List.getElem_cons_succ]
          refine wpAnyH_take (i := 7) (v := ?_) rfl (by kernel_rfl) (by kernel_rfl) (by kernel_rfl) (fun _ _ _ h => h) (Or.inl ⟨by kernel_rfl, ?_⟩) (by assumption) ?_
          rotate_left
          · (intro w hSw; (try dsimp only at hSw); go_simp)
            try (with_reducible rfl)
          rotate_left
          try simp (maxSteps := 4000000) only [Act.put, List.setIfInBounds_toArray, List.set_cons_zero, List.set_cons_succ, List.getElem_toArray, List.getElem_cons_zero, List.getElem_cons_succ]
          refine wpAnyH_take (i := 8) (v := ?_) rfl (by kernel_rfl) (by kernel_rfl) (by kernel_rfl) (fun _ _ _ h => h) (Or.inl ⟨by kernel_rfl, ?_⟩) (by assumption) ?_
          rotate_left
          · (intro w hSw; (try dsimp only at hSw); go_simp)
            try (with_reducible rfl)
          rotate_left
          try simp (maxSteps := 4000000) only [Act.put, List.setIfInBounds_toArray, List.set_cons_zero, List.set_cons_succ, List.getElem_toArray, List.getElem_cons_zero, List.getElem_cons_succ]
          refine wpAnyH_take (i := 9) (v := ?_) rfl (by kernel_rfl) (by kernel_rfl) (by kernel_rfl) (fun _ _ _ h => h) (Or.inl ⟨by kernel_rfl, ?_⟩) (by assumption) ?_
          rotate_left
          · (intro w hSw; (try dsimp only at hSw); go_simp)
            try (with_reducible rfl)
          rotate_left
          try simp (maxSteps := 4000000) only [Act.put, List.setIfInBounds_toArray, List.set_cons_zero, List.set_cons_succ, List.getElem_toArray, List.getElem_cons_zero, List.getElem_cons_succ]
          refine wpAnyH_take (i := 10) (v := ?_) rfl (by kernel_rfl) (by kernel_rfl) (by kernel_rfl) (fun _ _ _ h => h) (Or.inl ⟨by kernel_rfl, ?_⟩) (by assumption) ?_
          rotate_left
          · (intro w hSw; (try dsimp only at hSw); go_simp)
            try (with_reducible rfl)
          rotate_left
          try simp (maxSteps := 4000000) only [Act.put, List.setIfInBounds_toArray, List.set_cons_zero, List.set_cons_succ, List.getElem_toArray, List.getElem_cons_zero, List.getElem_cons_succ]
          refine wpAnyH_ready (rs := [11, 12]) (by kernel_rfl) (by simp) ?_
          refine AllReadyH.cons rfl (fun K2 hK2 => ?_) (AllReadyH.cons rfl (fun K2 hK2 => ?_) AllReadyH.nil)
          all_goals go_simp
          · with_reducible refine Calls.mono (rcap_any _ _ _ _ _ _ _ _) ?_
            rintro e w2 ⟨b', l', c', p', t', v', rfl, -, hb⟩
            have hlt2 : wr.heap.size ≤ w2.heap.size := hb.size
            refine hK2.out _ _ ?_ (fun hHeld2 => ?_)
            · exact HSS.out _ (hHeld.2.out.below hb)
            clear hb
            clear hK2 K2 hHeld
            have hHeld := hHeld2
            clear hHeld2
            try simp (maxSteps := 4000000) only [Act.put, List.setIfInBounds_toArray, List.set_cons_zero, List.set_cons_succ]
            refine wpAnyH_ready (rs := [12]) (by kernel_rfl) (by simp) ?_
            refine AllReadyH.cons rfl (fun K2 hK2 => ?_) AllReadyH.nil
            go_simp
            refine hK2.out _ _ ?_ (fun hHeld2 => ?_)
            · exact HSS.out _ (hHeld.2.out.below (alc0 _ _))
            have hRS2 := Lib.hid hHeld.2.out
            clear hK2 K2 hHeld
            have hHeld := hHeld2
            clear hHeld2
            try simp (maxSteps := 4000000) only [Act.put, List.setIfInBounds_toArray, List.set_cons_zero, List.set_cons_succ]
            refine wpAnyH_ready (rs := [13]) (by kernel_rfl) (by simp) ?_
            refine AllReadyH.cons rfl (fun K2 hK2 => ?_) AllReadyH.nil
            go_simp
            refine hK2.out _ _ ?_ (fun hHeld2 => ?_)
            · exact HSS.out _ (hRS2.out.below (alc0 _ _))
            clear hK2 K2 hHeld
            have hHeld := hHeld2
            clear hHeld2
            try simp (maxSteps := 4000000) only [Act.put, List.setIfInBounds_toArray, List.set_cons_zero, List.set_cons_succ]
            refine wpAnyH_take (i := 14) (v := ?_) rfl (by kernel_rfl) (by kernel_rfl) (by kernel_rfl) (fun _ _ _ h => h) (Or.inl ⟨by kernel_rfl, ?_⟩) (by assumption) ?_
            rotate_left
            · (intro w hSw; (try dsimp only at hSw); go_simp)
              try (with_reducible rfl)
            rotate_left
            try simp (maxSteps := 4000000) only [Act.put, List.setIfInBounds_toArray, List.set_cons_zero, List.set_cons_succ, List.getElem_toArray, List.getElem_cons_zero, List.getElem_cons_succ]
            refine wpAnyH_done (by kernel_rfl) ?_ _
            go_wp2_with fail
            go_meet
            exact ⟨w2.heap.size, b', l', c', p', t', v', rfl, rfl, Lib.hid ⟨CapAt.new _ _ _ _ _ _ _ _, by omega, by omega, by omega⟩, hHeld.2⟩
          · have hz0 : Hid (CapAt wr.heap.size (wr.alloc (.cells #[.int .i64 0, .int .i64 0, .int .i64 0, .int .i64 0, .int .i64 0, .bool false] 28)).drew 0 0 0 0 0 false) := Lib.hid ((CapAt.new wr 0 0 0 0 0 false 28).below (Below.refl _ _).drew)
            obtain ⟨w1', hw1'⟩ : ∃ w1', (wr.alloc (.cells #[.int .i64 0, .int .i64 0, .int .i64 0, .int .i64 0, .int .i64 0, .bool false] 28)).drew = w1' := ⟨_, rfl⟩
            have hRS1 : Hid (RS p g M k wB.heap.size wB w1' f f) := Lib.hid (by rw [← hw1']; exact HP.out.below ((alc0 _ _).drew))
            obtain ⟨z, hz⟩ : ∃ z, wr.heap.size = z := ⟨_, rfl⟩
            rw [hw1'] at hz0 ⊢
            rw [hz] at hz0 hlt ⊢
            clear hw1' hz
            refine hK2.out _ _ ?_ (fun hHeld2 => ?_)
            · exact HSS.out _ hRS1.out
            clear hK2 K2 hHeld
            have hHeld := hHeld2
            clear hHeld2
            try simp (maxSteps := 4000000) only [Act.put, List.setIfInBounds_toArray, List.set_cons_zero, List.set_cons_succ]
            refine wpAnyH_ready (rs := [11]) (by kernel_rfl) (by simp) ?_
            refine AllReadyH.cons rfl (fun K2 hK2 => ?_) AllReadyH.nil
            go_simp
            with_reducible refine Calls.mono (rcap_any _ _ _ _ _ _ _ _) ?_
            rintro e w2 ⟨b', l', c', p', t', v', rfl, -, hb⟩
            have hz2 := Lib.hid (hz0.out.below hb)
            refine hK2.out _ _ ?_ (fun hHeld2 => ?_)
            · exact HSS.out _ (hHeld.2.out.below hb)
            clear hb hz0 hRS1
            clear hK2 K2 hHeld
            have hHeld := hHeld2
            clear hHeld2
            try simp (maxSteps := 4000000) only [Act.put, List.setIfInBounds_toArray, List.set_cons_zero, List.set_cons_succ]
            obtain ⟨_, k0, k1, k2, k3, k4, k5, kf⟩ := hz2.out
            have kf0 := kf 0 (by decide)
            have kf1 := kf 1 (by decide)
            have kf2 := kf 2 (by decide)
            have kf3 := kf 3 (by decide)
            have kf4 := kf 4 (by decide)
            have kf5 := kf 5 (by decide)
            have hzw : z < w2.heap.size := hz2.out.1
            clear kf
            refine wpAnyH_ready (rs := [13]) (by kernel_rfl) (by simp) ?_
            refine AllReadyH.cons rfl (fun K2 hK2 => ?_) AllReadyH.nil
            go_simp
            obtain ⟨ws, hws, hzs, hbs⟩ := cap_store hz2.out b' l' c' p' t' v'
            have hRS2 : Hid (RS p g M k wB.heap.size wB ws f f) := Lib.hid (hHeld.2.out.low (z := z) (by omega) (by omega) (by omega) hbs)
            have hzs2 := Lib.hid hzs
            rw [hws]
            clear hzs hbs hws
            refine hK2.out _ _ ?_ (fun hHeld2 => ?_)
            · exact HSS.out _ hRS2.out
            clear k0 k1 k2 k3 k4 k5 kf0 kf1 kf2 kf3 kf4 kf5
            clear hK2 K2 hHeld
            have hHeld := hHeld2
            clear hHeld2
            try simp (maxSteps := 4000000) only [Act.put, List.setIfInBounds_toArray, List.set_cons_zero, List.set_cons_succ]
            refine wpAnyH_take (i := 14) (v := ?_) rfl (by kernel_rfl) (by kernel_rfl) (by kernel_rfl) (fun _ _ _ h => h) (Or.inl ⟨by kernel_rfl, ?_⟩) (by assumption) ?_
            rotate_left
            · (intro w hSw; (try dsimp only at hSw); go_simp)
              try (with_reducible rfl)
            rotate_left
            try simp (maxSteps := 4000000) only [Act.put, List.setIfInBounds_toArray, List.set_cons_zero, List.set_cons_succ, List.getElem_toArray, List.getElem_cons_zero, List.getElem_cons_succ]
            refine wpAnyH_done (by kernel_rfl) ?_ _
            go_wp2_with fail
            go_meet
            exact ⟨z, b', l', c', p', t', v', rfl, rfl, Lib.hid ⟨hzs2.out, by omega, by omega, by omega⟩, hHeld.2⟩
        case rest =>
        obtain ⟨z, b', l', c', p', t', v', rfl, rfl, HZ, HP2⟩ := hcut
        clear c0 c1 c2 c3 c4 c5 c6 c7 HP hab
        cases inn with
        | false =>
          obtain ⟨_, k0, k1, k2, k3, k4, k5, kf⟩ := HZ.out.1
          have hzw : z < wc.heap.size := HZ.out.1.1
          go_wp2_with fail
          with_reducible refine Calls.mono (rput_out p g k H b' l' c' p' t' v' wc _ HP2.out.reg HIN.out) ?_
          rintro e w2 ⟨rfl, hb⟩
          have HP3 := Lib.hid (HP2.out.below hb)
          clear hb HP2
          go_wp2_with fail
          go_roundw
          case rel => exact ⟨i + 1, by omega, by omega, by go_num, f, HP3, HV⟩
          case measure => simp [intOf] <;> omega
        | true =>
          have hHin := HIN.out
          simp at hHin
          obtain ⟨h, rfl⟩ := Int.eq_ofNat_of_zero_le hHin.1
          have hhk : h < k := by omega
          clear hHin HIN hHb
          obtain ⟨mm, hmm⟩ : ∃ mm, capMayB b' l' c' p' t' v' = mm := ⟨_, rfl⟩
          have HMM := Lib.hid hmm
          clear hmm
          have hzw : z < wc.heap.size := HZ.out.1.1
          obtain ⟨_, k0, k1, k2, k3, k4, k5, kf⟩ := HZ.out.1
          go_wp2_with fail
          with_reducible refine Calls.mono (rmay_is mm _ _ _ _ _ _ _ HMM.out) ?_
          rintro e w2 ⟨rfl, hb⟩
          have HP3 := Lib.hid (HP2.out.below hb)
          have HZ3 := Lib.hid (HZ.out.1.below hb)
          clear hb HP2 k0 k1 k2 k3 k4 k5 kf hzw
          obtain ⟨_, k0, k1, k2, k3, k4, k5, kf⟩ := HZ3.out
          have hzw : z < w2.heap.size := HZ3.out.1
          cases mm with
          | false =>
            go_wp2_with fail
            with_reducible refine Calls.mono (rput_bad p g k h b' l' c' p' t' v' w2 _ HP3.out.reg hhk HMM.out) ?_
            rintro e w3 ⟨rfl, hb⟩
            have HP4 := Lib.hid (HP3.out.below hb)
            clear hb HP3
            go_wp2_with fail
            go_roundw
            case rel => exact ⟨i + 1, by omega, by omega, by go_num, f, HP4, HV⟩
            case measure => simp [intOf] <;> omega
          | true =>
            have hh16 : (h : Int) < 16 := by omega
            have hMr : M < w2.heap.size := HP3.out.lt.2.2
            obtain ⟨m0, m1, m2, m3, m4, m5⟩ := HP3.out.cb.at_ h (by omega)
            obtain ⟨z0, z1, z2, z3, z4, z5⟩ := HP3.out.cb.fz h (by omega)
            obtain ⟨ws, hws, hcb, hkp, hsz⟩ := CB.store HP3.out.cb (show h < 16 by omega) ⟨b', l', c', p', t', v'⟩
            dsimp only at hws
            have HP4 := Lib.hid (HP3.out.st hcb hkp)
            have HZ4 := Lib.hid (HZ3.out.keepM HZ.out.2.2.2 hkp)
            have hpu := cput p g k h ⟨b', l', c', p', t', v'⟩ ws f HP4.out.reg hhk HMM.out
            dsimp only at hpu
            have HPU := Lib.hid hpu
            have HV2 : Hid (NoV (updC f h ⟨b', l', c', p', t', v'⟩)) := Lib.hid (HV.out.upd h _ (fun e => may_no (x := ⟨b', l', c', p', t', v'⟩) HMM.out e))
            clear hcb hkp hsz hpu HP3 HZ3
            obtain ⟨_, j0, j1, j2, j3, j4, j5, jf⟩ := HZ4.out
            have hzs : z < ws.heap.size := HZ4.out.1
            go_wp2_with fail
            with_reducible refine Calls.mono HPU.out ?_
            rintro e w3 ⟨rfl, hr2, hk2⟩
            have HP5 := Lib.hid (HP4.out.put hr2 hk2)
            clear hr2 hk2 HPU HP4
            go_wp2_with fail
            go_roundw
            case rel => exact ⟨i + 1, by omega, by omega, by go_num, _, HP5, HV2⟩
            case measure => simp [intOf] <;> omega
    ·
      clear HA HL
      have hstop : ¬ ((i : Int) < (L : Int)) ∨ ((i : Int) < (L : Int) ∧ ¬ ((i : Int) < 40)) := by omega
      clear hgo
      have fs0 := and2047 s0
      have fs1 := and255 s1
      obtain ⟨b0, hb0, hb1, hb2⟩ : ∃ b0 : Int, s0 % 2048 = b0 ∧ 0 ≤ b0 ∧ b0 ≤ 2047 := ⟨_, rfl, by omega, by omega⟩
      obtain ⟨n0, hn0, hn1, hn2⟩ : ∃ n0 : Int, s1 % 256 = n0 ∧ 0 ≤ n0 ∧ n0 ≤ 255 := ⟨_, rfl, by omega, by omega⟩
      rw [hb0] at fs0
      rw [hn0] at fs1
      clear hb0 hn0
      have hsp := HSP.out
      have s0c : wr.cell? ⟨x5, 0, none⟩ = some (.int .i64 s0) := (HP.out.wb.cell (p := ⟨x5, 0, none⟩) hsp.2.2.1).trans hsp.1
      have s1c : wr.cell? ⟨x5, 1, none⟩ = some (.int .i64 s1) := (HP.out.wb.cell (p := ⟨x5, 1, none⟩) hsp.2.2.1).trans hsp.2.1
      have hx5r : x5 < wr.heap.size := Nat.lt_of_lt_of_le hsp.2.2.1 HP.out.wb.size
      clear hsp
      go_upto_region 4 with (fail)
      go_cut [39] (fun v39 wx => v39 = .bool false ∧ wr = wx)
      case first =>
        rcases hstop with h | ⟨h, h'⟩
        all_goals
          go_wp2_with fail
          go_meet
          exact ⟨rfl, rfl⟩
      case rest =>
      obtain ⟨rfl, rfl⟩ := hcut
      clear hstop
      have HPA := Lib.hid (HP.out.below (alc0 wr (.cells #[.int .i64 b0, .int .i64 (n0 + 1)] 24)))
      have hxs : Hid ((wr.alloc (.cells #[.int .i64 b0, .int .i64 (n0 + 1)] 24)).cell? ⟨wr.heap.size, 0, none⟩ = some (.int .i64 b0) ∧ (wr.alloc (.cells #[.int .i64 b0, .int .i64 (n0 + 1)] 24)).cell? ⟨wr.heap.size, 1, none⟩ = some (.int .i64 (n0 + 1)) ∧ wr.heap.size < (wr.alloc (.cells #[.int .i64 b0, .int .i64 (n0 + 1)] 24)).heap.size) := Lib.hid ⟨by simp, by simp, by simp⟩
      go_upto_region 22 with (fail)
      obtain ⟨N0, hN0⟩ : ∃ N0, n0 + 1 = N0 := ⟨_, rfl⟩
      obtain ⟨w1', hw1'⟩ : ∃ w1', wr.alloc (.cells #[.int .i64 b0, .int .i64 N0] 24) = w1' := ⟨_, rfl⟩
      obtain ⟨x, hx⟩ : ∃ x, wr.heap.size = x := ⟨_, rfl⟩
      rw [hN0] at HPA hxs ⊢
      rw [hw1'] at HPA hxs ⊢
      rw [hx] at hxs ⊢
      clear hw1' hx hN0 s0c s1c hx5r HP
      obtain ⟨x0, x1, x2⟩ := hxs.out
      go_wp2_with fail
      with_reducible refine Calls.mono (cmeetsL p g k _ _ _ f HPA.out.reg) ?_
      rintro e w2 ⟨vm, bm, rfl, hz, hbm, hb⟩
      have hz9 := hz
      obtain ⟨Am, nm, cm, em, -⟩ := hz9
      subst em
      have HZ := Lib.hid hz
      have HP2 := Lib.hid (HPA.out.below hb)
      have hx2 : x < w2.heap.size := Nat.lt_of_lt_of_le x2 hb.size
      have y0 := (hb.cell (p := ⟨x, 0, none⟩) x2).trans x0
      have y1 := (hb.cell (p := ⟨x, 1, none⟩) x2).trans x1
      clear hz hb hbm x0 x1 x2 hxs HPA
      go_wp2_with fail
      with_reducible refine Calls.mono (rlist p g k _ _ HP2.out.reg (CV_one f)) ?_
      rintro e w3 ⟨ga, ca, rfl, hc, hk, hb⟩
      have HA := Lib.hid hc
      have HZ3 := Lib.hid (HZ.out.below hb)
      have HP3 := Lib.hid (HP2.out.below hb)
      have HXS : Hid (w3.cell? ⟨x, 0, none⟩ = some (.int .i64 b0) ∧ w3.cell? ⟨x, 1, none⟩ = some (.int .i64 N0) ∧ x < w3.heap.size) := Lib.hid ⟨(hb.cell (p := ⟨x, 0, none⟩) hx2).trans y0, (hb.cell (p := ⟨x, 1, none⟩) hx2).trans y1, Nat.lt_of_lt_of_le hx2 hb.size⟩
      clear hc hb y0 y1 hx2 HZ HP2
      go_wp2_with fail
      with_reducible refine Calls.mono (rlen_any p g k _ _ HP3.out.reg) ?_
      rintro e w4 ⟨rfl, rfl⟩
      have hmle := meetL_le f b0 N0 k
      have hcle := cntC_le f k
      go_wp2_with fail
      go_loopw [16, 19, 20, 21, 22] (fun v16 v19 v20 v21 v22 wl => ∃ h : Nat, h ≤ k ∧ v20 = .int .i64 h ∧ v16 = .int .i64 (cntC f h : Nat) ∧ v19 = .int .i64 ((meetL f b0 N0 h).length : Nat) ∧ Hid (Below w3.heap.size w3 wl)) (fun _ _ v20 _ _ _ => k - (intOf v20).toNat)
      case atStart => exact ⟨0, by omega, rfl, rfl, rfl, Lib.hid (Below.refl _ _)⟩
      case round =>
        rename World => wl
        obtain ⟨h, hh, rfl, rfl, rfl, HW⟩ := hrel
        by_cases hhk : h < k
        ·
          have hhI : (h : Int) < (k : Int) := by omega
          have hh16 : (h : Int) < 16 := by omega
          have hch := cntC_le f h
          have hmh := meetL_le f b0 N0 h
          have HPL := Lib.hid (HP3.out.below HW.out)
          go_wp2_with fail
          with_reducible refine Calls.mono (cget p g k h _ f HPL.out.reg hhk) ?_
          rintro e w5 ⟨rfl, hb⟩
          have HP5 := Lib.hid (HPL.out.below hb)
          have HW5 := Lib.hid (thn HW.out hb)
          clear hb HPL HW
          obtain ⟨y, hy⟩ : ∃ y, f h = y := ⟨_, rfl⟩
          have HY := Lib.hid hy
          try rw [hy]
          clear hy
          go_upto_region 30 with (fail)
          obtain ⟨z, hz⟩ : ∃ z, w5.heap.size = z := ⟨_, rfl⟩
          obtain ⟨w6, hw6⟩ : ∃ w6, w5.alloc (.cells #[.int .i64 y.b, .int .i64 y.l, .int .i64 y.c, .int .i64 y.p, .int .i64 y.t, .bool y.v] 28) = w6 := ⟨_, rfl⟩
          have HCZ : Hid (CapAt z w6 y.b y.l y.c y.p y.t y.v) := Lib.hid (by rw [← hw6, ← hz]; exact CapAt.new _ _ _ _ _ _ _ _)
          have HP6 : Hid (RS p g M k wB.heap.size wB w6 f f) := Lib.hid (by rw [← hw6]; exact HP5.out.below (alc0 _ _))
          have HW6 : Hid (Below w3.heap.size w3 w6) := Lib.hid (by rw [← hw6]; exact alc HW5.out _)
          rw [hw6]
          rw [hz]
          clear hw6 hz HP5 HW5
          have hga : ga < w3.heap.size := World.block_lt_of_cell? w3 _ (HA.out 0 (by omega))
          have rr : ∀ j, j < 6 → w6.cell? ⟨ga, h * 6 + j, none⟩ = some (y.vs[j]!) := fun j hj => (HW6.out.cell (p := ⟨ga, h * 6 + j, none⟩) hga).trans ((HA.out (h * 6 + j) (by omega)).trans (by rw [CV_at f h j hj, HY.out]))
          have a0 : w6.cell? ⟨ga, h * 6, none⟩ = some (.int .i64 y.b) := rr 0 (by decide)
          have a1 : w6.cell? ⟨ga, h * 6 + 1, none⟩ = some (.int .i64 y.l) := rr 1 (by decide)
          have a2 : w6.cell? ⟨ga, h * 6 + 2, none⟩ = some (.int .i64 y.c) := rr 2 (by decide)
          have a3 : w6.cell? ⟨ga, h * 6 + 3, none⟩ = some (.int .i64 y.p) := rr 3 (by decide)
          have a4 : w6.cell? ⟨ga, h * 6 + 4, none⟩ = some (.int .i64 y.t) := rr 4 (by decide)
          have a5 : w6.cell? ⟨ga, h * 6 + 5, none⟩ = some (.bool y.v) := rr 5 (by decide)
          obtain ⟨m0, m1, m2, m3, m4, m5⟩ := HP6.out.cb.at_ h (by omega)
          rw [HY.out] at m0 m1 m2 m3 m4 m5
          obtain ⟨_, k0, k1, k2, k3, k4, k5, kf⟩ := HCZ.out
          refine wp_region_held_drew (S := fun w' => (w'.cell? ⟨z, 0, none⟩ = some (.int .i64 y.b) ∧ w'.cell? ⟨z, 1, none⟩ = some (.int .i64 y.l) ∧ w'.cell? ⟨z, 2, none⟩ = some (.int .i64 y.c) ∧ w'.cell? ⟨z, 3, none⟩ = some (.int .i64 y.p) ∧ w'.cell? ⟨z, 4, none⟩ = some (.int .i64 y.t) ∧ w'.cell? ⟨z, 5, none⟩ = some (.bool y.v)) ∧ (w'.cell? ⟨ga, h * 6, none⟩ = some (.int .i64 y.b) ∧ w'.cell? ⟨ga, h * 6 + 1, none⟩ = some (.int .i64 y.l) ∧ w'.cell? ⟨ga, h * 6 + 2, none⟩ = some (.int .i64 y.c) ∧ w'.cell? ⟨ga, h * 6 + 3, none⟩ = some (.int .i64 y.p) ∧ w'.cell? ⟨ga, h * 6 + 4, none⟩ = some (.int .i64 y.t) ∧ w'.cell? ⟨ga, h * 6 + 5, none⟩ = some (.bool y.v)) ∧ (w'.cell? ⟨M, h * 6, none⟩ = some (.int .i64 y.b) ∧ w'.cell? ⟨M, h * 6 + 1, none⟩ = some (.int .i64 y.l) ∧ w'.cell? ⟨M, h * 6 + 2, none⟩ = some (.int .i64 y.c) ∧ w'.cell? ⟨M, h * 6 + 3, none⟩ = some (.int .i64 y.p) ∧ w'.cell? ⟨M, h * 6 + 4, none⟩ = some (.int .i64 y.t) ∧ w'.cell? ⟨M, h * 6 + 5, none⟩ = some (.bool y.v))) (by kernel_rfl) ?_ (fun hHeld => ?_)
          · exact ⟨⟨k0, k1, k2, k3, k4, k5⟩, ⟨a0, a1, a2, a3, a4, a5⟩, ⟨m0, m1, m2, m3, m4, m5⟩⟩
          clear a0 a1 a2 a3 a4 a5 m0 m1 m2 m3 m4 m5 rr k0 k1 k2 k3 k4 k5 kf
          refine wpAnyH_take (i := 0) (v := ?_) rfl (by kernel_rfl) (by kernel_rfl) (by kernel_rfl) (fun _ _ _ h => h) (Or.inl ⟨by kernel_rfl, ?_⟩) (by assumption) ?_
          rotate_left
          · (intro w hSw; (try dsimp only at hSw); go_simp)
            try (with_reducible rfl)
          rotate_left
          try simp (maxSteps := 4000000) only [Act.put, List.setIfInBounds_toArray, List.set_cons_zero, List.set_cons_succ, List.getElem_toArray, List.getElem_cons_zero, List.getElem_cons_succ]
          refine wpAnyH_take (i := 1) (v := ?_) rfl (by kernel_rfl) (by kernel_rfl) (by kernel_rfl) (fun _ _ _ h => h) (Or.inl ⟨by kernel_rfl, ?_⟩) (by assumption) ?_
          rotate_left
          · (intro w hSw; (try dsimp only at hSw); go_simp)
            try (with_reducible rfl)
          rotate_left
          try simp (maxSteps := 4000000) only [Act.put, List.setIfInBounds_toArray, List.set_cons_zero, List.set_cons_succ, List.getElem_toArray, List.getElem_cons_zero, List.getElem_cons_succ]
          refine wpAnyH_take (i := 2) (v := ?_) rfl (by kernel_rfl) (by kernel_rfl) (by kernel_rfl) (fun _ _ _ h => h) (Or.inl ⟨by kernel_rfl, ?_⟩) (by assumption) ?_
          rotate_left
          · (intro w hSw; (try dsimp only at hSw); go_simp)
            try (with_reducible rfl)
          rotate_left
          try simp (maxSteps := 4000000) only [Act.put, List.setIfInBounds_toArray, List.set_cons_zero, List.set_cons_succ, List.getElem_toArray, List.getElem_cons_zero, List.getElem_cons_succ]
          refine wpAnyH_take (i := 3) (v := ?_) rfl (by kernel_rfl) (by kernel_rfl) (by kernel_rfl) (fun _ _ _ h => h) (Or.inl ⟨by kernel_rfl, ?_⟩) (by assumption) ?_
          rotate_left
          · (intro w hSw; (try dsimp only at hSw); go_simp)
            try (with_reducible rfl)
          rotate_left
          try simp (maxSteps := 4000000) only [Act.put, List.setIfInBounds_toArray, List.set_cons_zero, List.set_cons_succ, List.getElem_toArray, List.getElem_cons_zero, List.getElem_cons_succ]
          refine wpAnyH_take (i := 4) (v := ?_) rfl (by kernel_rfl) (by kernel_rfl) (by kernel_rfl) (fun _ _ _ h => h) (Or.inl ⟨by kernel_rfl, ?_⟩) (by assumption) ?_
          rotate_left
          · (intro w hSw; (try dsimp only at hSw); go_simp)
            try (with_reducible rfl)
          rotate_left
          try simp (maxSteps := 4000000) only [Act.put, List.setIfInBounds_toArray, List.set_cons_zero, List.set_cons_succ, List.getElem_toArray, List.getElem_cons_zero, List.getElem_cons_succ]
          refine wpAnyH_take (i := 5) (v := ?_) rfl (by kernel_rfl) (by kernel_rfl) (by kernel_rfl) (fun _ _ _ h => h) (Or.inl ⟨by kernel_rfl, ?_⟩) (by assumption) ?_
          rotate_left
          · (intro w hSw; (try dsimp only at hSw); go_simp)
            try (with_reducible rfl)
          rotate_left
          try simp (maxSteps := 4000000) only [Act.put, List.setIfInBounds_toArray, List.set_cons_zero, List.set_cons_succ, List.getElem_toArray, List.getElem_cons_zero, List.getElem_cons_succ]
          refine wpAnyH_take (i := 6) (v := ?_) rfl (by kernel_rfl) (by kernel_rfl) (by kernel_rfl) (fun _ _ _ h => h) (Or.inl ⟨by kernel_rfl, ?_⟩) (by assumption) ?_
          rotate_left
          · (intro w hSw; (try dsimp only at hSw); go_simp)
            try (with_reducible rfl)
          rotate_left
          try simp (maxSteps := 4000000) only [Act.put, List.setIfInBounds_toArray, List.set_cons_zero, List.set_cons_succ, List.getElem_toArray, List.getElem_cons_zero, List.getElem_cons_succ]
          refine wpAnyH_take (i := 7) (v := ?_) rfl (by kernel_rfl) (by kernel_rfl) (by kernel_rfl) (fun _ _ _ h => h) (Or.inl ⟨by kernel_rfl, ?_⟩) (by assumption) ?_
          rotate_left
          · (intro w hSw; (try dsimp only at hSw); go_simp)
            try (with_reducible rfl)
          rotate_left
          try simp (maxSteps := 4000000) only [Act.put, List.setIfInBounds_toArray, List.set_cons_zero, List.set_cons_succ, List.getElem_toArray, List.getElem_cons_zero, List.getElem_cons_succ]
          refine wpAnyH_take (i := 8) (v := ?_) rfl (by kernel_rfl) (by kernel_rfl) (by kernel_rfl) (fun _ _ _ h => h) (Or.inl ⟨by kernel_rfl, ?_⟩) (by assumption) ?_
          rotate_left
          · (intro w hSw; (try dsimp only at hSw); go_simp)
            try (with_reducible rfl)
          rotate_left
          try simp (maxSteps := 4000000) only [Act.put, List.setIfInBounds_toArray, List.set_cons_zero, List.set_cons_succ, List.getElem_toArray, List.getElem_cons_zero, List.getElem_cons_succ]
          refine wpAnyH_take (i := 9) (v := ?_) rfl (by kernel_rfl) (by kernel_rfl) (by kernel_rfl) (fun _ _ _ h => h) (Or.inl ⟨by kernel_rfl, ?_⟩) (by assumption) ?_
          rotate_left
          · (intro w hSw; (try dsimp only at hSw); go_simp)
            try (with_reducible rfl)
          rotate_left
          try simp (maxSteps := 4000000) only [Act.put, List.setIfInBounds_toArray, List.set_cons_zero, List.set_cons_succ, List.getElem_toArray, List.getElem_cons_zero, List.getElem_cons_succ]
          refine wpAnyH_take (i := 10) (v := ?_) rfl (by kernel_rfl) (by kernel_rfl) (by kernel_rfl) (fun _ _ _ h => h) (Or.inl ⟨by kernel_rfl, ?_⟩) (by assumption) ?_
          rotate_left
          · (intro w hSw; (try dsimp only at hSw); go_simp)
            try (with_reducible rfl)
          rotate_left
          try simp (maxSteps := 4000000) only [Act.put, List.setIfInBounds_toArray, List.set_cons_zero, List.set_cons_succ, List.getElem_toArray, List.getElem_cons_zero, List.getElem_cons_succ]
          refine wpAnyH_take (i := 11) (v := ?_) rfl (by kernel_rfl) (by kernel_rfl) (by kernel_rfl) (fun _ _ _ h => h) (Or.inl ⟨by kernel_rfl, ?_⟩) (by assumption) ?_
          rotate_left
          · (intro w hSw; (try dsimp only at hSw); go_simp)
            try (with_reducible rfl)
          rotate_left
          try simp (maxSteps := 4000000) only [Act.put, List.setIfInBounds_toArray, List.set_cons_zero, List.set_cons_succ, List.getElem_toArray, List.getElem_cons_zero, List.getElem_cons_succ]
          refine wpAnyH_take (i := 12) (v := ?_) rfl (by kernel_rfl) (by kernel_rfl) (by kernel_rfl) (fun _ _ _ h => h) (Or.inl ⟨by kernel_rfl, ?_⟩) (by assumption) ?_
          rotate_left
          · (intro w hSw; (try dsimp only at hSw); go_simp)
            try (with_reducible rfl)
          rotate_left
          try simp (maxSteps := 4000000) only [Act.put, List.setIfInBounds_toArray, List.set_cons_zero, List.set_cons_succ, List.getElem_toArray, List.getElem_cons_zero, List.getElem_cons_succ]
          refine wpAnyH_take (i := 13) (v := ?_) rfl (by kernel_rfl) (by kernel_rfl) (by kernel_rfl) (fun _ _ _ h => h) (Or.inl ⟨by kernel_rfl, ?_⟩) (by assumption) ?_
          rotate_left
          · (intro w hSw; (try dsimp only at hSw); go_simp)
            try (with_reducible rfl)
          rotate_left
          try simp (maxSteps := 4000000) only [Act.put, List.setIfInBounds_toArray, List.set_cons_zero, List.set_cons_succ, List.getElem_toArray, List.getElem_cons_zero, List.getElem_cons_succ]
          refine wpAnyH_take (i := 14) (v := ?_) rfl (by kernel_rfl) (by kernel_rfl) (by kernel_rfl) (fun _ _ _ h => h) (Or.inl ⟨by kernel_rfl, ?_⟩) (by assumption) ?_
          rotate_left
          · (intro w hSw; (try dsimp only at hSw); go_simp)
            try (with_reducible rfl)
          rotate_left
          try simp (maxSteps := 4000000) only [Act.put, List.setIfInBounds_toArray, List.set_cons_zero, List.set_cons_succ, List.getElem_toArray, List.getElem_cons_zero, List.getElem_cons_succ]
          refine wpAnyH_take (i := 15) (v := ?_) rfl (by kernel_rfl) (by kernel_rfl) (by kernel_rfl) (fun _ _ _ h => h) (Or.inl ⟨by kernel_rfl, ?_⟩) (by assumption) ?_
          rotate_left
          · (intro w hSw; (try dsimp only at hSw); go_simp)
            try (with_reducible rfl)
          rotate_left
          try simp (maxSteps := 4000000) only [Act.put, List.setIfInBounds_toArray, List.set_cons_zero, List.set_cons_succ, List.getElem_toArray, List.getElem_cons_zero, List.getElem_cons_succ]
          refine wpAnyH_take (i := 16) (v := ?_) rfl (by kernel_rfl) (by kernel_rfl) (by kernel_rfl) (fun _ _ _ h => h) (Or.inl ⟨by kernel_rfl, ?_⟩) (by assumption) ?_
          rotate_left
          · (intro w hSw; (try dsimp only at hSw); go_simp)
            try (with_reducible rfl)
          rotate_left
          try simp (maxSteps := 4000000) only [Act.put, List.setIfInBounds_toArray, List.set_cons_zero, List.set_cons_succ, List.getElem_toArray, List.getElem_cons_zero, List.getElem_cons_succ]
          refine wpAnyH_take (i := 17) (v := ?_) rfl (by kernel_rfl) (by kernel_rfl) (by kernel_rfl) (fun _ _ _ h => h) (Or.inl ⟨by kernel_rfl, ?_⟩) (by assumption) ?_
          rotate_left
          · (intro w hSw; (try dsimp only at hSw); go_simp)
            try (with_reducible rfl)
          rotate_left
          try simp (maxSteps := 4000000) only [Act.put, List.setIfInBounds_toArray, List.set_cons_zero, List.set_cons_succ, List.getElem_toArray, List.getElem_cons_zero, List.getElem_cons_succ]
          refine wpAnyH_take (i := 18) (v := ?_) rfl (by kernel_rfl) (by kernel_rfl) (by kernel_rfl) (fun _ _ _ h => h) (Or.inl ⟨by kernel_rfl, ?_⟩) (by assumption) ?_
          rotate_left
          · (intro w hSw; (try dsimp only at hSw); go_simp)
            try (with_reducible rfl)
          rotate_left
          try simp (maxSteps := 4000000) only [Act.put, List.setIfInBounds_toArray, List.set_cons_zero, List.set_cons_succ, List.getElem_toArray, List.getElem_cons_zero, List.getElem_cons_succ]
          refine wpAnyH_done (by kernel_rfl) ?_ _
          obtain ⟨w7, hw7⟩ : ∃ w7, w6.drew = w7 := ⟨_, rfl⟩
          have hb67 : Below w6.heap.size w6 w7 := by rw [← hw7]; exact (Below.refl _ _).drew
          have HCZ7 := Lib.hid (HCZ.out.below hb67)
          have HP7 := Lib.hid (HP6.out.below hb67)
          have HW7 := Lib.hid (thn HW6.out hb67)
          rw [hw7]
          clear hw7 hb67 HCZ HP6 HW6 hHeld
          obtain ⟨_, k0, k1, k2, k3, k4, k5, kf⟩ := HCZ7.out
          have hzw : z < w7.heap.size := HCZ7.out.1
          have x0 : w7.cell? ⟨x, 0, none⟩ = some (.int .i64 b0) := (HW7.out.cell (p := ⟨x, 0, none⟩) HXS.out.2.2).trans HXS.out.1
          have x1 : w7.cell? ⟨x, 1, none⟩ = some (.int .i64 N0) := (HW7.out.cell (p := ⟨x, 1, none⟩) HXS.out.2.2).trans HXS.out.2.1
          have hxw : x < w7.heap.size := Nat.lt_of_lt_of_le HXS.out.2.2 HW7.out.size
          have hcs := cntC_succ f h
          rw [HY.out] at hcs
          obtain ⟨X, hX⟩ : ∃ X, y.v = X := ⟨_, rfl⟩
          rw [hX] at hcs k5
          obtain ⟨Y, hY⟩ : ∃ Y, meetsC y b0 N0 = Y := ⟨_, rfl⟩
          have HYY := Lib.hid hY
          have HYM : Hid ((X && meetsB y.b y.l b0 N0) = Y) := Lib.hid (by rw [← hX]; exact hY)
          have HCS := Lib.hid hcs
          obtain ⟨C0, hC0⟩ : ∃ C0, cntC f h = C0 := ⟨_, rfl⟩
          obtain ⟨M0, hM0⟩ : ∃ M0, (meetL f b0 N0 h).length = M0 := ⟨_, rfl⟩
          have HC0' := Lib.hid hC0
          have HM0 := Lib.hid hM0
          rw [hC0] at hch ⊢
          rw [hM0] at hmh ⊢
          clear hX hY hcs kf hC0 hM0
          cases X with
          | true =>
            go_wp2_with fail
            with_reducible refine Calls.mono (cmeets Y _ _ _ _ _ _ _ _ _ HYM.out) ?_
            rintro e w8 ⟨rfl, hb⟩
            have HW8 := Lib.hid (thn HW7.out hb)
            clear hb k0 k1 k2 k3 k4 k5 x0 x1 hxw hzw HP7
            have HCN : Hid (cntC f (h + 1) = C0 + 1) := Lib.hid (by rw [HCS.out, HC0'.out]; rfl)
            cases Y with
            | true =>
              obtain ⟨g1, g2, g3⟩ := meet_get f b0 N0 h k hhk (by rw [HY.out]; exact HYY.out)
              rw [HM0.out] at g1 g2 g3
              obtain ⟨_, _, _, e9, hl9, _, _, h9⟩ := HZ3.out.below HW8.out
              injection e9 with e9 e10 e11
              subst e9; subst e10; subst e11
              have hMn : M0 < nm := by omega
              have hMnI : (M0 : Int) < (nm : Int) := by omega
              have hMd : decide ((nm : Int) ≤ (M0 : Int)) = false := by simp; omega
              have hMd2 : decide (nm ≤ M0) = false := by simp; omega
              have HG3 := Lib.hid g3
              rcases h9 with ⟨_, h9, _⟩ | ⟨off9, rfl, hb9, hc9, _⟩
              · omega
              have cm9 := hc9 M0 hMn
              rw [g2] at cm9
              clear hc9 g1 g2 g3 hl9
              go_wp2_with fail
              go_roundw
              case rel => exact ⟨h + 1, by omega, by go_num, by rw [HCN.out] <;> go_num, by rw [HG3.out] <;> go_num, HW8⟩
              case measure => simp [intOf] <;> omega
            | false =>
              have HG3 : Hid ((meetL f b0 N0 (h + 1)).length = M0) := Lib.hid (by rw [meet_not f b0 N0 h (by rw [HY.out]; exact HYY.out), HM0.out])
              go_wp2_with fail
              go_roundw
              case rel => exact ⟨h + 1, by omega, by go_num, by rw [HCN.out] <;> go_num, by rw [HG3.out], HW8⟩
              case measure => simp [intOf] <;> omega
          | false =>
            go_wp2_with fail
            with_reducible refine Calls.mono (cmeets Y _ _ _ _ _ _ _ _ _ HYM.out) ?_
            rintro e w8 ⟨rfl, hb⟩
            have HW8 := Lib.hid (thn HW7.out hb)
            clear hb k0 k1 k2 k3 k4 k5 x0 x1 hxw hzw HP7
            have HCN : Hid (cntC f (h + 1) = C0) := Lib.hid (by rw [HCS.out, HC0'.out]; rfl)
            cases Y with
            | true =>
              obtain ⟨g1, g2, g3⟩ := meet_get f b0 N0 h k hhk (by rw [HY.out]; exact HYY.out)
              rw [HM0.out] at g1 g2 g3
              obtain ⟨_, _, _, e9, hl9, _, _, h9⟩ := HZ3.out.below HW8.out
              injection e9 with e9 e10 e11
              subst e9; subst e10; subst e11
              have hMn : M0 < nm := by omega
              have hMnI : (M0 : Int) < (nm : Int) := by omega
              have hMd : decide ((nm : Int) ≤ (M0 : Int)) = false := by simp; omega
              have hMd2 : decide (nm ≤ M0) = false := by simp; omega
              have HG3 := Lib.hid g3
              rcases h9 with ⟨_, h9, _⟩ | ⟨off9, rfl, hb9, hc9, _⟩
              · omega
              have cm9 := hc9 M0 hMn
              rw [g2] at cm9
              clear hc9 g1 g2 g3 hl9
              go_wp2_with fail
              go_roundw
              case rel => exact ⟨h + 1, by omega, by go_num, by rw [HCN.out] <;> go_num, by rw [HG3.out] <;> go_num, HW8⟩
              case measure => simp [intOf] <;> omega
            | false =>
              have HG3 : Hid ((meetL f b0 N0 (h + 1)).length = M0) := Lib.hid (by rw [meet_not f b0 N0 h (by rw [HY.out]; exact HYY.out), HM0.out])
              go_wp2_with fail
              go_roundw
              case rel => exact ⟨h + 1, by omega, by go_num, by rw [HCN.out] <;> go_num, by rw [HG3.out], HW8⟩
              case measure => simp [intOf] <;> omega
        · obtain rfl : h = k := by omega
          have HPL := Lib.hid (HP3.out.below HW.out)
          obtain ⟨C0, hC0⟩ : ∃ C0, cntC f h = C0 := ⟨_, rfl⟩
          obtain ⟨M0, hM0⟩ : ∃ M0, (meetL f b0 N0 h).length = M0 := ⟨_, rfl⟩
          have HC0 := Lib.hid hC0
          have hnm : nm = M0 := by
            obtain ⟨_, _, _, e9, hl9, _⟩ := HZ3.out
            injection e9 with _ e10 _
            omega
          subst hnm
          rw [hC0] at hcle ⊢
          rw [hM0] at hmle ⊢
          clear hC0 hM0
          have hko : decide (0 ≤ (h : Int) ∧ (h : Int) < (h : Int)) = false := by simp
          have hkm : decide (0 ≤ (-1 : Int) ∧ (-1 : Int) < (h : Int)) = false := by simp
          have HKO := Lib.hid hko
          have HKM := Lib.hid hkm
          clear hko hkm
          go_wp2_with fail
          with_reducible refine Calls.mono (rget_out p g h (h : Int) _ _ HPL.out.reg HKO.out) ?_
          rintro e w5 ⟨rfl, hb⟩
          have HP5 := Lib.hid ((HPL.out.below hb).below (alc0 _ (.cells #[.int .i64 0, .int .i64 0, .int .i64 0, .int .i64 0, .int .i64 0, .bool false] 28)))
          have HW5 := Lib.hid (alc (thn HW.out hb) (.cells #[.int .i64 0, .int .i64 0, .int .i64 0, .int .i64 0, .int .i64 0, .bool false] 28))
          clear hb HPL HW
          go_wp2_with fail
          with_reducible refine Calls.mono (rget_out p g h (-1 : Int) _ _ HP5.out.reg HKM.out) ?_
          rintro e w6 ⟨rfl, hb⟩
          have HP6 := Lib.hid ((HP5.out.below hb).below (alc0 _ (.cells #[.int .i64 0, .int .i64 0, .int .i64 0, .int .i64 0, .int .i64 0, .bool false] 28)))
          clear hb HP5 HW5
          go_wp2_with fail
          with_reducible refine Calls.mono (r15awake _) ?_
          rintro e w7 ⟨rfl, hb⟩
          have HP7 := Lib.hid (HP6.out.below hb)
          clear hb HP6
          go_wp2_with fail
          with_reducible refine Calls.mono (ccount p g h _ f HP7.out.reg) ?_
          rintro e w8 ⟨rfl, hb⟩
          rw [HC0.out]
          have HP8 := Lib.hid (HP7.out.below hb)
          clear hb HP7
          go_wp2
          go_ret
          exact ⟨by first | rfl | simp, thn HSP.out.2.2.2 HP8.out.wb⟩
end Go.Proofs.Ytpciigahikciiaa
