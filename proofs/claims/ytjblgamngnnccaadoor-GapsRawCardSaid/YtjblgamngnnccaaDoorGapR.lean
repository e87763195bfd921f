/- The walk of GapsRaw. -/
import Derived.Test.YtjblgamngnnccaaDoorGapW
import Derived.Deep.RegionHeld3
import Derived.Deep.DeepCutAuto
namespace Go.Proofs.YtjblgamngnnccaaDoor
open Go.RowKit
set_option linter.unusedVariables false
set_option linter.unusedSimpArgs false

/-- Behind Take and Give: all pages are nobody's again. -/
theorem full_again {ws : List Nat} {N x n : Nat} (hb : ∀ y, bitB ws y = decide (y < N)) (h : x + n ≤ N) (hl : N ≤ 64 * ws.length) :
    wholeB ws x n = true ∧ (dropN ws x n).2 = n ∧ (∀ y : Nat, x ≤ y → y < x + n → bitB (dropN ws x n).1 y = false) ∧ (putN (dropN ws x n).1 x n).2 = n ∧ ∀ y, bitB (putN (dropN ws x n).1 x n).1 y = decide (y < N) := by
  have h1 : ∀ m, m ≤ n → wholeB ws x m = true := by
    intro m
    induction m with
    | zero => intro _; rfl
    | succ m ih => intro hm; rw [wholeB, ih (by omega), hb]; simp; omega
  have h2 : (dropN ws x n).2 = n := dropN_count ws x n (by omega) (fun y y1 y2 => by rw [hb]; simp; omega)
  have h3 : ∀ y, bitB (dropN ws x n).1 y = (decide (y < N) && !decide (x ≤ y ∧ y < x + n)) := fun y => by rw [dropN_bits ws x n y (by omega), hb]
  have h4 : ∀ y : Nat, x ≤ y → y < x + n → bitB (dropN ws x n).1 y = false := fun y y1 y2 => by rw [h3]; simp; omega
  have h5 : x + n ≤ 64 * (dropN ws x n).1.length := by rw [dropN_len]; omega
  refine ⟨h1 n (Nat.le_refl _), h2, h4, putN_count _ x n h5 h4, fun y => ?_⟩
  rw [putN_bits _ x n y h5, h3]
  by_cases hy : x ≤ y ∧ y < x + n
  · simp [hy]; omega
  · simp [hy]
/-- What the last expression reads. -/
abbrev GS (lo hi s g X : Nat) (W0 : World) (F P : Int) (N : Nat) (ws : List Nat) (w' : World) : Prop :=
  Hid (GpAt lo hi s g w' F N P ws) ∧ Hid (TzTab w') ∧ Hid (Below W0.heap.size W0 w') ∧ X < w'.heap.size
theorem GS.below {lo hi s g X : Nat} {W0 : World} {F P : Int} {N : Nat} {ws : List Nat} {w' w2 : World} (h : GS lo hi s g X W0 F P N ws w') (hb : Below w'.heap.size w' w2) : GS lo hi s g X W0 F P N ws w2 :=
  ⟨Lib.hid (h.1.out.below hb), Lib.hid (h.2.1.out.later hb), Lib.hid (thn h.2.2.1.out hb), Nat.lt_of_lt_of_le h.2.2.2 hb.size⟩
theorem gfind_full (lo hi s g : Nat) (W : World) (F c : Int) (N : Nat) (ws : List Nat) (n : Int) (h : GpAt lo hi s g W F N c ws) (hb : ∀ y, bitB ws y = decide (y < N)) (ht : TzTab W) (hN : N ≤ 1024) (hN1 : 1 ≤ N) (V : Int) (hV : (if n < 1 ∨ (N : Int) < n then -1 else F) = V) :
    Calls Tryd.prog 18 #[.pointer (some ⟨g, 0, none⟩), .int .i64 n] W fun e w' => e = .returned (.int .i64 V) ∧ Below W.heap.size W w' := by
  refine (gfind_is lo hi s g W F c N ws n h (fun y hy => by rw [hb]; simp; omega) ht hN).mono ?_
  rintro e w' ⟨rfl, hbel⟩
  refine ⟨?_, hbel⟩
  obtain ⟨M, rfl⟩ : ∃ M, N = M + 1 := ⟨N - 1, by omega⟩
  rw [runs_full F ws M (fun y hy => by rw [hb]; simp; omega), ← hV]
  by_cases h1 : n < 1
  · rw [if_pos h1, if_pos (.inl h1)]
  · rw [if_neg h1]
    by_cases h2 : ((M + 1 : Nat) : Int) < n
    · rw [if_pos (.inr h2), findL, if_neg (by simp; omega)]
      rfl
    · rw [if_neg (by omega), findL, if_pos (by simp; omega)]
theorem gfound_is (a b n : Int) (W : World) (V : Int) (hV : (if n < 1 ∨ b < n then -1 else a) = V) : Calls Tryd.prog 27 #[.agg #[.int .i64 a, .int .i64 b], .int .i64 n] W fun e w' => e = .returned (.int .i64 V) ∧ Below W.heap.size W w' := by
  rw [← hV]
  exact gfound a b n W
set_option maxRecDepth 100000 in
set_option maxHeartbeats 6400000 in
theorem walkGapsRaw (a0_0 : Int) (a0_1 : Int) (a1 : Int) (a2 : Int) (w : World) (w0_0 : (Lit.int .i64 a0_0).wf = true) (w0_1 : (Lit.int .i64 a0_1).wf = true) (w1 : (Lit.int .i64 a1).wf = true) (w2 : (Lit.int .i64 a2).wf = true) (ht : TzTab w) :
    Calls Tryd.prog 6 #[.agg #[.int .i64 a0_0, .int .i64 a0_1], .int .i64 a1, .int .i64 a2] w fun e w' => e = .returned (.bool true) ∧ Below w.heap.size w w' := by
  have T := Lib.hid ht
  clear ht
  have b0 := bounds_i64 w0_0
  have b1 := bounds_i64 w0_1
  have b2 := bounds_i64 w1
  have b3 := bounds_i64 w2
  clear w0_0 w0_1 w1 w2
  obtain ⟨W1, hW1⟩ : ∃ W1, w.alloc (.cells #[.int .i64 a0_0, .int .i64 a0_1] 40) = W1 := ⟨_, rfl⟩
  have HW1 := Lib.hid hW1
  have HB1 : Hid (Below w.heap.size w W1) := Lib.hid (by rw [← hW1]; exact alc0 _ _)
  have k0 : W1.cell? ⟨w.heap.size, 0, none⟩ = some (.int .i64 a0_0) := by rw [← hW1]; simp
  have k1 : W1.cell? ⟨w.heap.size, 1, none⟩ = some (.int .i64 a0_1) := by rw [← hW1]; simp
  have hs1 : w.heap.size < W1.heap.size := by rw [← hW1]; simp
  have T1 : Hid (TzTab W1) := Lib.hid (T.out.later HB1.out)
  clear hW1
  obtain ⟨X, hX⟩ : ∃ X, w.heap.size = X := ⟨_, rfl⟩
  by_cases hm : MayG a0_0 a0_1
  · as_aux_lemma =>
      obtain ⟨m1, m2, m3, m4⟩ := hm
      obtain ⟨N, rfl⟩ : ∃ N : Nat, a0_1 = N := ⟨a0_1.toNat, by omega⟩
      have hwa : IntKind.i64.wrap (1024 - a0_0) = 1024 - a0_0 := by rw [IntKind.wrap_i64]; omega
      have m5 : a0_0 ≤ 1024 := by omega
      have hN1 : 1 ≤ N := by omega
      have hN1024 : N ≤ 1024 := by omega
      have HMG : Hid (MayG a0_0 N) := Lib.hid ⟨m1, m2, m3, m4⟩
      go_enter Tryd.func6, Tryd.ntmps6
      go_wp2_with fail
      rw [HW1.out]
      try rw [hX]
      rw [hX] at k0 k1 hs1
      refine (gnew_yes a0_0 N W1 HMG.out).mono ?_
      rintro e v1 ⟨lo, hi, s, g, ws, rfl, hg, hbits, hb, hl1, hl2⟩
      have n0 := (hb.cell (p := ⟨X, 0, none⟩) hs1).trans k0
      have n1 := (hb.cell (p := ⟨X, 1, none⟩) hs1).trans k1
      have hXv : X < v1.heap.size := Nat.lt_of_lt_of_le hs1 hb.size
      have HG := Lib.hid hg
      have hbits2 : ∀ y, bitB ws y = decide (y < N) := fun y => by rw [hbits, Int.toNat_natCast]
      have HBT := Lib.hid hbits2
      have HBV := Lib.hid hb
      have T2 : Hid (TzTab v1) := Lib.hid (T1.out.later hb)
      have HBw : Hid (Below X w v1) := Lib.hid (by have h9 := HB1.out; rw [hX] at h9; exact h9.trans (hb.mono (Nat.le_of_lt hs1)))
      have hXl : X < lo := by omega
      have hlen : N ≤ 64 * ws.length := by
        have h9 := hg.2.2.2.2.2.1.2.1.2.2.1
        omega
      clear hg hbits hbits2 hb k0 k1 HB1 HW1 T hs1
      obtain ⟨V, hV⟩ : ∃ V, (if a2 < 1 ∨ (N : Int) < a2 then -1 else a0_0) = V := ⟨_, rfl⟩
      have HVV := Lib.hid hV
      clear hV
      go_upto_region 5 with (fail)
      go_cut [9] (fun v9 wx => v9 = .bool (decide (InG a0_0 N a1 a2)) ∧ v1 = wx)
      case first =>
        by_cases c1 : a0_0 ≤ a1
        · have hw1 : IntKind.i64.wrap (a1 - a0_0) = a1 - a0_0 := by rw [IntKind.wrap_i64]; omega
          by_cases c3 : 1 ≤ a2
          · by_cases c2 : a1 - a0_0 ≤ N
            · have hw2 : IntKind.i64.wrap ((N : Int) - (a1 - a0_0)) = (N : Int) - (a1 - a0_0) := by rw [IntKind.wrap_i64]; omega
              by_cases c4 : a2 ≤ (N : Int) - (a1 - a0_0)
              · have hr : decide (InG a0_0 N a1 a2) = true := decide_eq_true ⟨c1, by omega, c3, by omega⟩
                have HRR := Lib.hid hr
                clear hr
                go_wp2_with fail
                go_meet
                exact ⟨by rw [HRR.out], rfl⟩
              · have hr : decide (InG a0_0 N a1 a2) = false := decide_eq_false (fun h => c4 (by have := h.2.2.2; omega))
                have HRR := Lib.hid hr
                clear hr
                go_wp2_with fail
                go_meet
                exact ⟨by rw [HRR.out], rfl⟩
            · have hr : decide (InG a0_0 N a1 a2) = false := decide_eq_false (fun h => c2 (by have := h.2.1; omega))
              have HRR := Lib.hid hr
              clear hr
              go_wp2_with fail
              go_meet
              exact ⟨by rw [HRR.out], rfl⟩
          · have hr : decide (InG a0_0 N a1 a2) = false := decide_eq_false (fun h => c3 h.2.2.1)
            have HRR := Lib.hid hr
            clear hr
            go_wp2_with fail
            go_meet
            exact ⟨by rw [HRR.out], rfl⟩
        · have hr : decide (InG a0_0 N a1 a2) = false := decide_eq_false (fun h => c1 h.1)
          have HRR := Lib.hid hr
          clear hr
          go_wp2_with fail
          go_meet
          exact ⟨by rw [HRR.out], rfl⟩
      case rest =>
        obtain ⟨rfl, rfl⟩ := hcut
        by_cases hin : InG a0_0 N a1 a2
        · rw [decide_eq_true hin]
          as_aux_lemma =>
            obtain ⟨i1, i2, i3, i4⟩ := hin
            have HIN : Hid (InG a0_0 N a1 a2) := Lib.hid ⟨i1, i2, i3, i4⟩
            obtain ⟨f1, f2, f3, f4, f5⟩ := full_again (x := (a1 - a0_0).toNat) (n := a2.toNat) HBT.out (by omega) hlen
            have hn9 : ((a2.toNat : Nat) : Int) = a2 := by omega
            rw [hn9] at f2 f4
            have F1 := Lib.hid f1; have F2 := Lib.hid f2; have F3 := Lib.hid f3; have F4 := Lib.hid f4; have F5 := Lib.hid f5
            clear f1 f2 f3 f4 f5 hn9
            go_wp2_with fail
            refine (gtake_in lo hi s g _ a0_0 N N a1 a2 ws HG.out HIN.out F1.out (by rw [F2.out]; omega)).mono ?_
            rintro e v2 ⟨rfl, hg2, ho2⟩
            rw [F2.out] at hg2
            have HG2 := Lib.hid hg2
            have HO2 := Lib.hid ho2
            have T3 : Hid (TzTab v2) := Lib.hid (T1.out.later (HBV.out.trans (ho2.1.mono hl1)))
            clear hg2 ho2
            go_wp2_with fail
            refine (ggive_in lo hi s g _ a0_0 N (N - a2) a1 a2 _ HG2.out HIN.out T3.out (fun y y1 y2 => F3.out y (by omega) (by omega)) (by rw [F4.out]; omega)).mono ?_
            rintro e wk ⟨rfl, hg3, ho3⟩
            rw [F4.out, show ((N : Int) - a2 + a2) = N by omega] at hg3
            have hO : Only lo hi v1 wk := HO2.out.trans ho3
            have hXo : wk.heap[X]? = v1.heap[X]? := hO.1.block X hXl
            have z0 := (World.cell?_of_block hXo (a := ⟨X, 0, none⟩)).trans n0
            have z1 := (World.cell?_of_block hXo (a := ⟨X, 1, none⟩)).trans n1
            have hXw : X < wk.heap.size := by rw [hO.2.1]; exact hXv
            have HBT0 := HBT
            have HBT1 := F5
            obtain ⟨ws3, hws3⟩ : ∃ ws3, (putN (dropN ws (a1 - a0_0).toNat a2.toNat).1 (a1 - a0_0).toNat a2.toNat).1 = ws3 := ⟨_, rfl⟩
            rw [hws3] at hg3 HBT1
            have HGk : Hid (GpAt lo hi s g wk a0_0 N N ws3) := Lib.hid hg3
            have hBk : Below X w wk := HBw.out.trans (hO.1.mono (by omega))
            have HBk := Lib.hid hBk
            have TK : Hid (TzTab wk) := Lib.hid (T1.out.later (HBV.out.trans (hO.1.mono hl1)))
            have hXk : X ≤ wk.heap.size := Nat.le_of_lt hXw
            clear hg3 ho3 hO hXo hBk hws3 HBT HBT0 F1 F2 F3 F4 F5 HG HG2 HO2 T2 T3 HBw n0 n1 hXv HBV hlen
            obtain ⟨ws, hws⟩ : ∃ ws, ws3 = ws := ⟨_, rfl⟩
            rw [hws] at HGk HBT1
            clear hws ws3
            have HBT := HBT1
            clear HBT1
            go_upto_region 8 with (fail)
            refine wp_region_held_drew (S := fun w' => w'.cell? ⟨X, 0, none⟩ = some (.int .i64 a0_0) ∧ w'.cell? ⟨X, 1, none⟩ = some (.int .i64 (N : Int)) ∧ GS lo hi s g X wk a0_0 N N ws w') (by kernel_rfl) ?_ (fun hHeld => ?_)
            · exact ⟨z0, z1, Lib.hid (HGk.out.below (below_drewN (Below.refl _ _) _)), Lib.hid (TK.out.later (below_drewN (Below.refl _ _) _)), Lib.hid (below_drewN (Below.refl _ _) _), hXw⟩
            clear z0 z1
            refine wpAnyH_ready (rs := [0]) (by kernel_rfl) (by simp) ?_
            refine AllReadyH.cons rfl (fun K2 hK2 => ?_) AllReadyH.nil
            go_simp
            with_reducible refine Calls.mono (awakeGaps _ hHeld.2.2.2.1.out) ?_
            rintro e9 w9 ⟨rfl, hb9⟩
            refine hK2.out _ _ ?_ (fun hHeld2 => ?_)
            · exact ⟨(hb9.cell (p := ⟨X, 0, none⟩) hHeld.2.2.2.2.2).trans hHeld.1, (hb9.cell (p := ⟨X, 1, none⟩) hHeld.2.2.2.2.2).trans hHeld.2.1, hHeld.2.2.below hb9⟩
            clear hb9
            clear hK2 K2 hHeld
            have hHeld := hHeld2
            clear hHeld2
            try simp (maxSteps := 4000000) only [Act.put, List.setIfInBounds_toArray, List.set_cons_zero, List.set_cons_succ]
            refine wpAnyH_take (i := 1) (v := ?_) rfl (by kernel_rfl) (by kernel_rfl) (by kernel_rfl) (fun _ _ _ h => h) (Or.inl ⟨by kernel_rfl, ?_⟩) (by assumption) ?_
            rotate_left
            · (intro w hSw; (try dsimp only at hSw); go_simp)
              try (with_reducible rfl)
            rotate_left
            try simp (maxSteps := 4000000) only [Act.put, List.setIfInBounds_toArray, List.set_cons_zero, List.set_cons_succ, List.getElem_toArray, List.getElem_cons_zero, List.getElem_cons_succ]
            refine wpAnyH_take (i := 2) (v := ?_) rfl (by kernel_rfl) (by kernel_rfl) (by kernel_rfl) (fun _ _ _ h => h) (Or.inl ⟨by kernel_rfl, ?_⟩) (by assumption) ?_
            rotate_left
            · (intro w hSw; (try dsimp only at hSw); go_simp)
              try (with_reducible rfl)
            rotate_left
            try simp (maxSteps := 4000000) only [Act.put, List.setIfInBounds_toArray, List.set_cons_zero, List.set_cons_succ, List.getElem_toArray, List.getElem_cons_zero, List.getElem_cons_succ]
            refine wpAnyH_take (i := 3) (v := ?_) rfl (by kernel_rfl) (by kernel_rfl) (by kernel_rfl) (fun _ _ _ h => h) (Or.inl ⟨by kernel_rfl, ?_⟩) (by assumption) ?_
            rotate_left
            · (intro w hSw; (try dsimp only at hSw); go_simp)
              try (with_reducible rfl)
            rotate_left
            try simp (maxSteps := 4000000) only [Act.put, List.setIfInBounds_toArray, List.set_cons_zero, List.set_cons_succ, List.getElem_toArray, List.getElem_cons_zero, List.getElem_cons_succ]
            refine wpAnyH_take (i := 4) (v := ?_) rfl (by kernel_rfl) (by kernel_rfl) (by kernel_rfl) (fun _ _ _ h => h) (Or.inl ⟨by kernel_rfl, ?_⟩) (by assumption) ?_
            rotate_left
            · (intro w hSw; (try dsimp only at hSw); go_simp)
              try (with_reducible rfl)
            rotate_left
            try simp (maxSteps := 4000000) only [Act.put, List.setIfInBounds_toArray, List.set_cons_zero, List.set_cons_succ, List.getElem_toArray, List.getElem_cons_zero, List.getElem_cons_succ]
            refine wpAnyH_take (i := 5) (v := ?_) rfl (by kernel_rfl) (by kernel_rfl) (by kernel_rfl) (fun _ _ _ h => h) (Or.inl ⟨by kernel_rfl, ?_⟩) (by assumption) ?_
            rotate_left
            · (intro w hSw; (try dsimp only at hSw); go_simp)
              try (with_reducible rfl)
            rotate_left
            try simp (maxSteps := 4000000) only [Act.put, List.setIfInBounds_toArray, List.set_cons_zero, List.set_cons_succ, List.getElem_toArray, List.getElem_cons_zero, List.getElem_cons_succ]
            refine wpAnyH_take (i := 6) (v := ?_) rfl (by kernel_rfl) (by kernel_rfl) (by kernel_rfl) (fun _ _ _ h => h) (Or.inl ⟨by kernel_rfl, ?_⟩) (by assumption) ?_
            rotate_left
            · (intro w hSw; (try dsimp only at hSw); go_simp)
              try (with_reducible rfl)
            rotate_left
            try simp (maxSteps := 4000000) only [Act.put, List.setIfInBounds_toArray, List.set_cons_zero, List.set_cons_succ, List.getElem_toArray, List.getElem_cons_zero, List.getElem_cons_succ]
            refine wpAnyH_take (i := 7) (v := ?_) rfl (by kernel_rfl) (by kernel_rfl) (by kernel_rfl) (fun _ _ _ h => h) (Or.inl ⟨by kernel_rfl, ?_⟩) (by assumption) ?_
            rotate_left
            · (intro w hSw; (try dsimp only at hSw); go_simp)
              try (with_reducible rfl)
            rotate_left
            try simp (maxSteps := 4000000) only [Act.put, List.setIfInBounds_toArray, List.set_cons_zero, List.set_cons_succ, List.getElem_toArray, List.getElem_cons_zero, List.getElem_cons_succ]
            refine wpAnyH_take (i := 8) (v := ?_) rfl (by kernel_rfl) (by kernel_rfl) (by kernel_rfl) (fun _ _ _ h => h) (Or.inl ⟨by kernel_rfl, ?_⟩) (by assumption) ?_
            rotate_left
            · (intro w hSw; (try dsimp only at hSw); go_simp)
              try (with_reducible rfl)
            rotate_left
            try simp (maxSteps := 4000000) only [Act.put, List.setIfInBounds_toArray, List.set_cons_zero, List.set_cons_succ, List.getElem_toArray, List.getElem_cons_zero, List.getElem_cons_succ]
            refine wpAnyH_take (i := 9) (v := ?_) rfl (by kernel_rfl) (by kernel_rfl) (by kernel_rfl) (fun _ _ _ h => h) (Or.inl ⟨by kernel_rfl, ?_⟩) (by assumption) ?_
            rotate_left
            · (intro w hSw; (try dsimp only at hSw); go_simp)
              try (with_reducible rfl)
            rotate_left
            try simp (maxSteps := 4000000) only [Act.put, List.setIfInBounds_toArray, List.set_cons_zero, List.set_cons_succ, List.getElem_toArray, List.getElem_cons_zero, List.getElem_cons_succ]
            refine wpAnyH_take (i := 10) (v := undef) rfl (by kernel_rfl) (by kernel_rfl) (by kernel_rfl) (fun _ _ _ h => h) (Or.inr ⟨by kernel_rfl, rfl⟩) (by assumption) ?_
            try simp (maxSteps := 4000000) only [Act.put, List.setIfInBounds_toArray, List.set_cons_zero, List.set_cons_succ, List.getElem_toArray, List.getElem_cons_zero, List.getElem_cons_succ]
            refine wpAnyH_take (i := 11) (v := undef) rfl (by kernel_rfl) (by kernel_rfl) (by kernel_rfl) (fun _ _ _ h => h) (Or.inr ⟨by kernel_rfl, rfl⟩) (by assumption) ?_
            try simp (maxSteps := 4000000) only [Act.put, List.setIfInBounds_toArray, List.set_cons_zero, List.set_cons_succ, List.getElem_toArray, List.getElem_cons_zero, List.getElem_cons_succ]
            refine wpAnyH_take (i := 12) (v := ?_) rfl (by kernel_rfl) (by kernel_rfl) (by kernel_rfl) (fun _ _ _ h => h) (Or.inl ⟨by kernel_rfl, ?_⟩) (by assumption) ?_
            rotate_left
            · (intro w hSw; (try dsimp only at hSw); go_simp)
              try (with_reducible rfl)
            rotate_left
            try simp (maxSteps := 4000000) only [Act.put, List.setIfInBounds_toArray, List.set_cons_zero, List.set_cons_succ, List.getElem_toArray, List.getElem_cons_zero, List.getElem_cons_succ]
            refine wpAnyH_take (i := 13) (v := ?_) rfl (by kernel_rfl) (by kernel_rfl) (by kernel_rfl) (fun _ _ _ h => h) (Or.inl ⟨by kernel_rfl, ?_⟩) (by assumption) ?_
            rotate_left
            · (intro w hSw; (try dsimp only at hSw); go_simp)
              try (with_reducible rfl)
            rotate_left
            try simp (maxSteps := 4000000) only [Act.put, List.setIfInBounds_toArray, List.set_cons_zero, List.set_cons_succ, List.getElem_toArray, List.getElem_cons_zero, List.getElem_cons_succ]
            refine wpAnyH_take (i := 14) (v := ?_) rfl (by kernel_rfl) (by kernel_rfl) (by kernel_rfl) (fun _ _ _ h => h) (Or.inl ⟨by kernel_rfl, ?_⟩) (by assumption) ?_
            rotate_left
            · (intro w hSw; (try dsimp only at hSw); go_simp)
              try (with_reducible rfl)
            rotate_left
            try simp (maxSteps := 4000000) only [Act.put, List.setIfInBounds_toArray, List.set_cons_zero, List.set_cons_succ, List.getElem_toArray, List.getElem_cons_zero, List.getElem_cons_succ]
            refine wpAnyH_take (i := 15) (v := ?_) rfl (by kernel_rfl) (by kernel_rfl) (by kernel_rfl) (fun _ _ _ h => h) (Or.inl ⟨by kernel_rfl, ?_⟩) (by assumption) ?_
            rotate_left
            · (intro w hSw; (try dsimp only at hSw); go_simp)
              try (with_reducible rfl)
            rotate_left
            try simp (maxSteps := 4000000) only [Act.put, List.setIfInBounds_toArray, List.set_cons_zero, List.set_cons_succ, List.getElem_toArray, List.getElem_cons_zero, List.getElem_cons_succ]
            refine wpAnyH_take (i := 16) (v := ?_) rfl (by kernel_rfl) (by kernel_rfl) (by kernel_rfl) (fun _ _ _ h => h) (Or.inl ⟨by kernel_rfl, ?_⟩) (by assumption) ?_
            rotate_left
            · (intro w hSw; (try dsimp only at hSw); go_simp)
              try (with_reducible rfl)
            rotate_left
            try simp (maxSteps := 4000000) only [Act.put, List.setIfInBounds_toArray, List.set_cons_zero, List.set_cons_succ, List.getElem_toArray, List.getElem_cons_zero, List.getElem_cons_succ]
            refine wpAnyH_take (i := 17) (v := ?_) rfl (by kernel_rfl) (by kernel_rfl) (by kernel_rfl) (fun _ _ _ h => h) (Or.inl ⟨by kernel_rfl, ?_⟩) (by assumption) ?_
            rotate_left
            · (intro w hSw; (try dsimp only at hSw); go_simp)
              try (with_reducible rfl)
            rotate_left
            try simp (maxSteps := 4000000) only [Act.put, List.setIfInBounds_toArray, List.set_cons_zero, List.set_cons_succ, List.getElem_toArray, List.getElem_cons_zero, List.getElem_cons_succ]
            refine wpAnyH_take (i := 18) (v := ?_) rfl (by kernel_rfl) (by kernel_rfl) (by kernel_rfl) (fun _ _ _ h => h) (Or.inl ⟨by kernel_rfl, ?_⟩) (by assumption) ?_
            rotate_left
            · (intro w hSw; (try dsimp only at hSw); go_simp)
              try (with_reducible rfl)
            rotate_left
            try simp (maxSteps := 4000000) only [Act.put, List.setIfInBounds_toArray, List.set_cons_zero, List.set_cons_succ, List.getElem_toArray, List.getElem_cons_zero, List.getElem_cons_succ]
            refine wpAnyH_take (i := 19) (v := ?_) rfl (by kernel_rfl) (by kernel_rfl) (by kernel_rfl) (fun _ _ _ h => h) (Or.inl ⟨by kernel_rfl, ?_⟩) (by assumption) ?_
            rotate_left
            · (intro w hSw; (try dsimp only at hSw); go_simp)
              try (with_reducible rfl)
            rotate_left
            try simp (maxSteps := 4000000) only [Act.put, List.setIfInBounds_toArray, List.set_cons_zero, List.set_cons_succ, List.getElem_toArray, List.getElem_cons_zero, List.getElem_cons_succ]
            refine wpAnyH_take (i := 20) (v := ?_) rfl (by kernel_rfl) (by kernel_rfl) (by kernel_rfl) (fun _ _ _ h => h) (Or.inl ⟨by kernel_rfl, ?_⟩) (by assumption) ?_
            rotate_left
            · (intro w hSw; (try dsimp only at hSw); go_simp)
              try (with_reducible rfl)
            rotate_left
            try simp (maxSteps := 4000000) only [Act.put, List.setIfInBounds_toArray, List.set_cons_zero, List.set_cons_succ, List.getElem_toArray, List.getElem_cons_zero, List.getElem_cons_succ]
            refine wpAnyH_take (i := 22) (v := ?_) rfl (by kernel_rfl) (by kernel_rfl) (by kernel_rfl) (fun _ _ _ h => h) (Or.inl ⟨by kernel_rfl, ?_⟩) (by assumption) ?_
            rotate_left
            · (intro w hSw; (try dsimp only at hSw); go_simp)
              try (with_reducible rfl)
            rotate_left
            try simp (maxSteps := 4000000) only [Act.put, List.setIfInBounds_toArray, List.set_cons_zero, List.set_cons_succ, List.getElem_toArray, List.getElem_cons_zero, List.getElem_cons_succ]
            refine wpAnyH_take (i := 23) (v := ?_) rfl (by kernel_rfl) (by kernel_rfl) (by kernel_rfl) (fun _ _ _ h => h) (Or.inl ⟨by kernel_rfl, ?_⟩) (by assumption) ?_
            rotate_left
            · (intro w hSw; (try dsimp only at hSw); go_simp)
              try (with_reducible rfl)
            rotate_left
            try simp (maxSteps := 4000000) only [Act.put, List.setIfInBounds_toArray, List.set_cons_zero, List.set_cons_succ, List.getElem_toArray, List.getElem_cons_zero, List.getElem_cons_succ]
            refine wpAnyH_ready (rs := [21]) (by kernel_rfl) (by simp) ?_
            refine AllReadyH.cons rfl (fun K2 hK2 => ?_) AllReadyH.nil
            go_simp
            with_reducible refine Calls.mono (gfree lo hi s g _ a0_0 N N ws hHeld.2.2.1.out) ?_
            rintro e9 w9 ⟨rfl, rfl⟩
            refine hK2.out _ _ ?_ (fun hHeld2 => ?_)
            · exact hHeld
            clear hK2 K2 hHeld
            have hHeld := hHeld2
            clear hHeld2
            try simp (maxSteps := 4000000) only [Act.put, List.setIfInBounds_toArray, List.set_cons_zero, List.set_cons_succ]
            refine wpAnyH_take (i := 24) (v := ?_) rfl (by kernel_rfl) (by kernel_rfl) (by kernel_rfl) (fun _ _ _ h => h) (Or.inl ⟨by kernel_rfl, ?_⟩) (by assumption) ?_
            rotate_left
            · (intro w hSw; (try dsimp only at hSw); go_simp)
              try (with_reducible rfl)
            rotate_left
            try simp (maxSteps := 4000000) only [Act.put, List.setIfInBounds_toArray, List.set_cons_zero, List.set_cons_succ, List.getElem_toArray, List.getElem_cons_zero, List.getElem_cons_succ]
            refine wpAnyH_take (i := 25) (v := ?_) rfl (by kernel_rfl) (by kernel_rfl) (by kernel_rfl) (fun _ _ _ h => h) (Or.inl ⟨by kernel_rfl, ?_⟩) (by assumption) ?_
            rotate_left
            · (intro w hSw; (try dsimp only at hSw); go_simp)
              try (with_reducible rfl)
            rotate_left
            try simp (maxSteps := 4000000) only [Act.put, List.setIfInBounds_toArray, List.set_cons_zero, List.set_cons_succ, List.getElem_toArray, List.getElem_cons_zero, List.getElem_cons_succ]
            refine wpAnyH_take (i := 26) (v := ?_) rfl (by kernel_rfl) (by kernel_rfl) (by kernel_rfl) (fun _ _ _ h => h) (Or.inl ⟨by kernel_rfl, ?_⟩) (by assumption) ?_
            rotate_left
            · (intro w hSw; (try dsimp only at hSw); go_simp)
              try (with_reducible rfl)
            rotate_left
            try simp (maxSteps := 4000000) only [Act.put, List.setIfInBounds_toArray, List.set_cons_zero, List.set_cons_succ, List.getElem_toArray, List.getElem_cons_zero, List.getElem_cons_succ]
            refine wpAnyH_take (i := 27) (v := ?_) rfl (by kernel_rfl) (by kernel_rfl) (by kernel_rfl) (fun _ _ _ h => h) (Or.inl ⟨by kernel_rfl, ?_⟩) (by assumption) ?_
            rotate_left
            · (intro w hSw; (try dsimp only at hSw); go_simp)
              try (with_reducible rfl)
            rotate_left
            try simp (maxSteps := 4000000) only [Act.put, List.setIfInBounds_toArray, List.set_cons_zero, List.set_cons_succ, List.getElem_toArray, List.getElem_cons_zero, List.getElem_cons_succ]
            refine wpAnyH_take (i := 28) (v := ?_) rfl (by kernel_rfl) (by kernel_rfl) (by kernel_rfl) (fun _ _ _ h => h) (Or.inl ⟨by kernel_rfl, ?_⟩) (by assumption) ?_
            rotate_left
            · (intro w hSw; (try dsimp only at hSw); go_simp)
              try (with_reducible rfl)
            rotate_left
            try simp (maxSteps := 4000000) only [Act.put, List.setIfInBounds_toArray, List.set_cons_zero, List.set_cons_succ, List.getElem_toArray, List.getElem_cons_zero, List.getElem_cons_succ]
            refine wpAnyH_take (i := 30) (v := ?_) rfl (by kernel_rfl) (by kernel_rfl) (by kernel_rfl) (fun _ _ _ h => h) (Or.inl ⟨by kernel_rfl, ?_⟩) (by assumption) ?_
            rotate_left
            · (intro w hSw; (try dsimp only at hSw); go_simp)
              try (with_reducible rfl)
            rotate_left
            try simp (maxSteps := 4000000) only [Act.put, List.setIfInBounds_toArray, List.set_cons_zero, List.set_cons_succ, List.getElem_toArray, List.getElem_cons_zero, List.getElem_cons_succ]
            refine wpAnyH_take (i := 31) (v := ?_) rfl (by kernel_rfl) (by kernel_rfl) (by kernel_rfl) (fun _ _ _ h => h) (Or.inl ⟨by kernel_rfl, ?_⟩) (by assumption) ?_
            rotate_left
            · (intro w hSw; (try dsimp only at hSw); go_simp)
              try (with_reducible rfl)
            rotate_left
            try simp (maxSteps := 4000000) only [Act.put, List.setIfInBounds_toArray, List.set_cons_zero, List.set_cons_succ, List.getElem_toArray, List.getElem_cons_zero, List.getElem_cons_succ]
            refine wpAnyH_ready (rs := [29]) (by kernel_rfl) (by simp) ?_
            refine AllReadyH.cons rfl (fun K2 hK2 => ?_) AllReadyH.nil
            go_simp
            with_reducible refine Calls.mono (gfind_full lo hi s g _ a0_0 N N ws a2 hHeld.2.2.1.out HBT.out hHeld.2.2.2.1.out hN1024 hN1 V HVV.out) ?_
            rintro e9 w9 ⟨rfl, hb9⟩
            refine hK2.out _ _ ?_ (fun hHeld2 => ?_)
            · exact ⟨(hb9.cell (p := ⟨X, 0, none⟩) hHeld.2.2.2.2.2).trans hHeld.1, (hb9.cell (p := ⟨X, 1, none⟩) hHeld.2.2.2.2.2).trans hHeld.2.1, hHeld.2.2.below hb9⟩
            clear hb9
            clear hK2 K2 hHeld
            have hHeld := hHeld2
            clear hHeld2
            try simp (maxSteps := 4000000) only [Act.put, List.setIfInBounds_toArray, List.set_cons_zero, List.set_cons_succ]
            refine wpAnyH_ready (rs := [32]) (by kernel_rfl) (by simp) ?_
            refine AllReadyH.cons rfl (fun K2 hK2 => ?_) AllReadyH.nil
            go_simp
            with_reducible refine Calls.mono (gfound_is a0_0 N a2 _ V HVV.out) ?_
            rintro e9 w9 ⟨rfl, hb9⟩
            refine hK2.out _ _ ?_ (fun hHeld2 => ?_)
            · exact ⟨(hb9.cell (p := ⟨X, 0, none⟩) hHeld.2.2.2.2.2).trans hHeld.1, (hb9.cell (p := ⟨X, 1, none⟩) hHeld.2.2.2.2.2).trans hHeld.2.1, hHeld.2.2.below hb9⟩
            clear hb9
            clear hK2 K2 hHeld
            have hHeld := hHeld2
            clear hHeld2
            try simp (maxSteps := 4000000) only [Act.put, List.setIfInBounds_toArray, List.set_cons_zero, List.set_cons_succ]
            refine wpAnyH_take (i := 33) (v := ?_) rfl (by kernel_rfl) (by kernel_rfl) (by kernel_rfl) (fun _ _ _ h => h) (Or.inl ⟨by kernel_rfl, ?_⟩) (by assumption) ?_
            rotate_left
            · (intro w hSw; (try dsimp only at hSw); go_simp)
              try (with_reducible rfl)
            rotate_left
            try simp (maxSteps := 4000000) only [Act.put, List.setIfInBounds_toArray, List.set_cons_zero, List.set_cons_succ, List.getElem_toArray, List.getElem_cons_zero, List.getElem_cons_succ]
            refine wpAnyH_take (i := 34) (v := ?_) rfl (by kernel_rfl) (by kernel_rfl) (by kernel_rfl) (fun _ _ _ h => h) (Or.inl ⟨by kernel_rfl, ?_⟩) (by assumption) ?_
            rotate_left
            · (intro w hSw; (try dsimp only at hSw); go_simp)
              try (with_reducible rfl)
            rotate_left
            try simp (maxSteps := 4000000) only [Act.put, List.setIfInBounds_toArray, List.set_cons_zero, List.set_cons_succ, List.getElem_toArray, List.getElem_cons_zero, List.getElem_cons_succ]
            refine wpAnyH_take (i := 35) (v := ?_) rfl (by kernel_rfl) (by kernel_rfl) (by kernel_rfl) (fun _ _ _ h => h) (Or.inl ⟨by kernel_rfl, ?_⟩) (by assumption) ?_
            rotate_left
            · (intro w hSw; (try dsimp only at hSw); go_simp)
              try (with_reducible rfl)
            rotate_left
            try simp (maxSteps := 4000000) only [Act.put, List.setIfInBounds_toArray, List.set_cons_zero, List.set_cons_succ, List.getElem_toArray, List.getElem_cons_zero, List.getElem_cons_succ]
            refine wpAnyH_done (by kernel_rfl) ?_ _
            go_wp2
            go_ret
            exact ⟨by simp, by rw [hX]; exact HBk.out.trans (hHeld.2.2.2.2.1.out.mono hXk)⟩
        · rw [decide_eq_false hin]
          as_aux_lemma =>
            have HIN : Hid (¬ InG a0_0 N a1 a2) := Lib.hid hin
            clear hin
            go_wp2_with fail
            refine (gtake_out lo hi s g _ a0_0 N N a1 a2 ws HG.out HIN.out).mono ?_
            rintro e v2 ⟨rfl, q, rfl⟩
            go_wp2_with fail
            refine (ggive_out lo hi s g _ a0_0 N N a1 a2 ws (HG.out.drw q) HIN.out).mono ?_
            rintro e v3 ⟨rfl, q2, rfl⟩
            obtain ⟨wk, hwk⟩ : ∃ wk, (v1.drewN q).drewN q2 = wk := ⟨_, rfl⟩
            have hbk : Below v1.heap.size v1 wk := by rw [← hwk]; exact below_drewN (below_drewN (Below.refl _ _) q) q2
            have z0 := (hbk.cell (p := ⟨X, 0, none⟩) hXv).trans n0
            have z1 := (hbk.cell (p := ⟨X, 1, none⟩) hXv).trans n1
            have hXw : X < wk.heap.size := Nat.lt_of_lt_of_le hXv hbk.size
            have HGk : Hid (GpAt lo hi s g wk a0_0 N N ws) := Lib.hid (HG.out.below hbk)
            have hBk : Below X w wk := HBw.out.trans (hbk.mono (Nat.le_of_lt hXv))
            have HBk := Lib.hid hBk
            have TK : Hid (TzTab wk) := Lib.hid (T2.out.later hbk)
            have hXk : X ≤ wk.heap.size := Nat.le_of_lt hXw
            rw [hwk]
            clear hbk hBk hwk HG T2 HBw n0 n1 hXv HBV hlen
            go_upto_region 8 with (fail)
            refine wp_region_held_drew (S := fun w' => w'.cell? ⟨X, 0, none⟩ = some (.int .i64 a0_0) ∧ w'.cell? ⟨X, 1, none⟩ = some (.int .i64 (N : Int)) ∧ GS lo hi s g X wk a0_0 N N ws w') (by kernel_rfl) ?_ (fun hHeld => ?_)
            · exact ⟨z0, z1, Lib.hid (HGk.out.below (below_drewN (Below.refl _ _) _)), Lib.hid (TK.out.later (below_drewN (Below.refl _ _) _)), Lib.hid (below_drewN (Below.refl _ _) _), hXw⟩
            clear z0 z1
            refine wpAnyH_ready (rs := [0]) (by kernel_rfl) (by simp) ?_
            refine AllReadyH.cons rfl (fun K2 hK2 => ?_) AllReadyH.nil
            go_simp
            with_reducible refine Calls.mono (awakeGaps _ hHeld.2.2.2.1.out) ?_
            rintro e9 w9 ⟨rfl, hb9⟩
            refine hK2.out _ _ ?_ (fun hHeld2 => ?_)
            · exact ⟨(hb9.cell (p := ⟨X, 0, none⟩) hHeld.2.2.2.2.2).trans hHeld.1, (hb9.cell (p := ⟨X, 1, none⟩) hHeld.2.2.2.2.2).trans hHeld.2.1, hHeld.2.2.below hb9⟩
            clear hb9
            clear hK2 K2 hHeld
            have hHeld := hHeld2
            clear hHeld2
            try simp (maxSteps := 4000000) only [Act.put, List.setIfInBounds_toArray, List.set_cons_zero, List.set_cons_succ]
            refine wpAnyH_take (i := 1) (v := ?_) rfl (by kernel_rfl) (by kernel_rfl) (by kernel_rfl) (fun _ _ _ h => h) (Or.inl ⟨by kernel_rfl, ?_⟩) (by assumption) ?_
            rotate_left
            · (intro w hSw; (try dsimp only at hSw); go_simp)
              try (with_reducible rfl)
            rotate_left
            try simp (maxSteps := 4000000) only [Act.put, List.setIfInBounds_toArray, List.set_cons_zero, List.set_cons_succ, List.getElem_toArray, List.getElem_cons_zero, List.getElem_cons_succ]
            refine wpAnyH_take (i := 2) (v := ?_) rfl (by kernel_rfl) (by kernel_rfl) (by kernel_rfl) (fun _ _ _ h => h) (Or.inl ⟨by kernel_rfl, ?_⟩) (by assumption) ?_
            rotate_left
            · (intro w hSw; (try dsimp only at hSw); go_simp)
              try (with_reducible rfl)
            rotate_left
            try simp (maxSteps := 4000000) only [Act.put, List.setIfInBounds_toArray, List.set_cons_zero, List.set_cons_succ, List.getElem_toArray, List.getElem_cons_zero, List.getElem_cons_succ]
            refine wpAnyH_take (i := 3) (v := ?_) rfl (by kernel_rfl) (by kernel_rfl) (by kernel_rfl) (fun _ _ _ h => h) (Or.inl ⟨by kernel_rfl, ?_⟩) (by assumption) ?_
            rotate_left
            · (intro w hSw; (try dsimp only at hSw); go_simp)
              try (with_reducible rfl)
            rotate_left
            try simp (maxSteps := 4000000) only [Act.put, List.setIfInBounds_toArray, List.set_cons_zero, List.set_cons_succ, List.getElem_toArray, List.getElem_cons_zero, List.getElem_cons_succ]
            refine wpAnyH_take (i := 4) (v := ?_) rfl (by kernel_rfl) (by kernel_rfl) (by kernel_rfl) (fun _ _ _ h => h) (Or.inl ⟨by kernel_rfl, ?_⟩) (by assumption) ?_
            rotate_left
            · (intro w hSw; (try dsimp only at hSw); go_simp)
              try (with_reducible rfl)
            rotate_left
            try simp (maxSteps := 4000000) only [Act.put, List.setIfInBounds_toArray, List.set_cons_zero, List.set_cons_succ, List.getElem_toArray, List.getElem_cons_zero, List.getElem_cons_succ]
            refine wpAnyH_take (i := 5) (v := ?_) rfl (by kernel_rfl) (by kernel_rfl) (by kernel_rfl) (fun _ _ _ h => h) (Or.inl ⟨by kernel_rfl, ?_⟩) (by assumption) ?_
            rotate_left
            · (intro w hSw; (try dsimp only at hSw); go_simp)
              try (with_reducible rfl)
            rotate_left
            try simp (maxSteps := 4000000) only [Act.put, List.setIfInBounds_toArray, List.set_cons_zero, List.set_cons_succ, List.getElem_toArray, List.getElem_cons_zero, List.getElem_cons_succ]
            refine wpAnyH_take (i := 6) (v := ?_) rfl (by kernel_rfl) (by kernel_rfl) (by kernel_rfl) (fun _ _ _ h => h) (Or.inl ⟨by kernel_rfl, ?_⟩) (by assumption) ?_
            rotate_left
            · (intro w hSw; (try dsimp only at hSw); go_simp)
              try (with_reducible rfl)
            rotate_left
            try simp (maxSteps := 4000000) only [Act.put, List.setIfInBounds_toArray, List.set_cons_zero, List.set_cons_succ, List.getElem_toArray, List.getElem_cons_zero, List.getElem_cons_succ]
            refine wpAnyH_take (i := 7) (v := ?_) rfl (by kernel_rfl) (by kernel_rfl) (by kernel_rfl) (fun _ _ _ h => h) (Or.inl ⟨by kernel_rfl, ?_⟩) (by assumption) ?_
            rotate_left
            · (intro w hSw; (try dsimp only at hSw); go_simp)
              try (with_reducible rfl)
            rotate_left
            try simp (maxSteps := 4000000) only [Act.put, List.setIfInBounds_toArray, List.set_cons_zero, List.set_cons_succ, List.getElem_toArray, List.getElem_cons_zero, List.getElem_cons_succ]
            refine wpAnyH_take (i := 8) (v := ?_) rfl (by kernel_rfl) (by kernel_rfl) (by kernel_rfl) (fun _ _ _ h => h) (Or.inl ⟨by kernel_rfl, ?_⟩) (by assumption) ?_
            rotate_left
            · (intro w hSw; (try dsimp only at hSw); go_simp)
              try (with_reducible rfl)
            rotate_left
            try simp (maxSteps := 4000000) only [Act.put, List.setIfInBounds_toArray, List.set_cons_zero, List.set_cons_succ, List.getElem_toArray, List.getElem_cons_zero, List.getElem_cons_succ]
            refine wpAnyH_take (i := 9) (v := ?_) rfl (by kernel_rfl) (by kernel_rfl) (by kernel_rfl) (fun _ _ _ h => h) (Or.inl ⟨by kernel_rfl, ?_⟩) (by assumption) ?_
            rotate_left
            · (intro w hSw; (try dsimp only at hSw); go_simp)
              try (with_reducible rfl)
            rotate_left
            try simp (maxSteps := 4000000) only [Act.put, List.setIfInBounds_toArray, List.set_cons_zero, List.set_cons_succ, List.getElem_toArray, List.getElem_cons_zero, List.getElem_cons_succ]
            refine wpAnyH_take (i := 10) (v := ?_) rfl (by kernel_rfl) (by kernel_rfl) (by kernel_rfl) (fun _ _ _ h => h) (Or.inl ⟨by kernel_rfl, ?_⟩) (by assumption) ?_
            rotate_left
            · (intro w hSw; (try dsimp only at hSw); go_simp)
              try (with_reducible rfl)
            rotate_left
            try simp (maxSteps := 4000000) only [Act.put, List.setIfInBounds_toArray, List.set_cons_zero, List.set_cons_succ, List.getElem_toArray, List.getElem_cons_zero, List.getElem_cons_succ]
            refine wpAnyH_take (i := 11) (v := ?_) rfl (by kernel_rfl) (by kernel_rfl) (by kernel_rfl) (fun _ _ _ h => h) (Or.inl ⟨by kernel_rfl, ?_⟩) (by assumption) ?_
            rotate_left
            · (intro w hSw; (try dsimp only at hSw); go_simp)
              try (with_reducible rfl)
            rotate_left
            try simp (maxSteps := 4000000) only [Act.put, List.setIfInBounds_toArray, List.set_cons_zero, List.set_cons_succ, List.getElem_toArray, List.getElem_cons_zero, List.getElem_cons_succ]
            refine wpAnyH_take (i := 12) (v := ?_) rfl (by kernel_rfl) (by kernel_rfl) (by kernel_rfl) (fun _ _ _ h => h) (Or.inl ⟨by kernel_rfl, ?_⟩) (by assumption) ?_
            rotate_left
            · (intro w hSw; (try dsimp only at hSw); go_simp)
              try (with_reducible rfl)
            rotate_left
            try simp (maxSteps := 4000000) only [Act.put, List.setIfInBounds_toArray, List.set_cons_zero, List.set_cons_succ, List.getElem_toArray, List.getElem_cons_zero, List.getElem_cons_succ]
            refine wpAnyH_take (i := 13) (v := ?_) rfl (by kernel_rfl) (by kernel_rfl) (by kernel_rfl) (fun _ _ _ h => h) (Or.inl ⟨by kernel_rfl, ?_⟩) (by assumption) ?_
            rotate_left
            · (intro w hSw; (try dsimp only at hSw); go_simp)
              try (with_reducible rfl)
            rotate_left
            try simp (maxSteps := 4000000) only [Act.put, List.setIfInBounds_toArray, List.set_cons_zero, List.set_cons_succ, List.getElem_toArray, List.getElem_cons_zero, List.getElem_cons_succ]
            refine wpAnyH_take (i := 14) (v := ?_) rfl (by kernel_rfl) (by kernel_rfl) (by kernel_rfl) (fun _ _ _ h => h) (Or.inl ⟨by kernel_rfl, ?_⟩) (by assumption) ?_
            rotate_left
            · (intro w hSw; (try dsimp only at hSw); go_simp)
              try (with_reducible rfl)
            rotate_left
            try simp (maxSteps := 4000000) only [Act.put, List.setIfInBounds_toArray, List.set_cons_zero, List.set_cons_succ, List.getElem_toArray, List.getElem_cons_zero, List.getElem_cons_succ]
            refine wpAnyH_take (i := 15) (v := ?_) rfl (by kernel_rfl) (by kernel_rfl) (by kernel_rfl) (fun _ _ _ h => h) (Or.inl ⟨by kernel_rfl, ?_⟩) (by assumption) ?_
            rotate_left
            · (intro w hSw; (try dsimp only at hSw); go_simp)
              try (with_reducible rfl)
            rotate_left
            try simp (maxSteps := 4000000) only [Act.put, List.setIfInBounds_toArray, List.set_cons_zero, List.set_cons_succ, List.getElem_toArray, List.getElem_cons_zero, List.getElem_cons_succ]
            refine wpAnyH_take (i := 16) (v := ?_) rfl (by kernel_rfl) (by kernel_rfl) (by kernel_rfl) (fun _ _ _ h => h) (Or.inl ⟨by kernel_rfl, ?_⟩) (by assumption) ?_
            rotate_left
            · (intro w hSw; (try dsimp only at hSw); go_simp)
              try (with_reducible rfl)
            rotate_left
            try simp (maxSteps := 4000000) only [Act.put, List.setIfInBounds_toArray, List.set_cons_zero, List.set_cons_succ, List.getElem_toArray, List.getElem_cons_zero, List.getElem_cons_succ]
            refine wpAnyH_take (i := 17) (v := ?_) rfl (by kernel_rfl) (by kernel_rfl) (by kernel_rfl) (fun _ _ _ h => h) (Or.inl ⟨by kernel_rfl, ?_⟩) (by assumption) ?_
            rotate_left
            · (intro w hSw; (try dsimp only at hSw); go_simp)
              try (with_reducible rfl)
            rotate_left
            try simp (maxSteps := 4000000) only [Act.put, List.setIfInBounds_toArray, List.set_cons_zero, List.set_cons_succ, List.getElem_toArray, List.getElem_cons_zero, List.getElem_cons_succ]
            refine wpAnyH_take (i := 18) (v := ?_) rfl (by kernel_rfl) (by kernel_rfl) (by kernel_rfl) (fun _ _ _ h => h) (Or.inl ⟨by kernel_rfl, ?_⟩) (by assumption) ?_
            rotate_left
            · (intro w hSw; (try dsimp only at hSw); go_simp)
              try (with_reducible rfl)
            rotate_left
            try simp (maxSteps := 4000000) only [Act.put, List.setIfInBounds_toArray, List.set_cons_zero, List.set_cons_succ, List.getElem_toArray, List.getElem_cons_zero, List.getElem_cons_succ]
            refine wpAnyH_take (i := 19) (v := ?_) rfl (by kernel_rfl) (by kernel_rfl) (by kernel_rfl) (fun _ _ _ h => h) (Or.inl ⟨by kernel_rfl, ?_⟩) (by assumption) ?_
            rotate_left
            · (intro w hSw; (try dsimp only at hSw); go_simp)
              try (with_reducible rfl)
            rotate_left
            try simp (maxSteps := 4000000) only [Act.put, List.setIfInBounds_toArray, List.set_cons_zero, List.set_cons_succ, List.getElem_toArray, List.getElem_cons_zero, List.getElem_cons_succ]
            refine wpAnyH_take (i := 20) (v := ?_) rfl (by kernel_rfl) (by kernel_rfl) (by kernel_rfl) (fun _ _ _ h => h) (Or.inl ⟨by kernel_rfl, ?_⟩) (by assumption) ?_
            rotate_left
            · (intro w hSw; (try dsimp only at hSw); go_simp)
              try (with_reducible rfl)
            rotate_left
            try simp (maxSteps := 4000000) only [Act.put, List.setIfInBounds_toArray, List.set_cons_zero, List.set_cons_succ, List.getElem_toArray, List.getElem_cons_zero, List.getElem_cons_succ]
            refine wpAnyH_take (i := 22) (v := ?_) rfl (by kernel_rfl) (by kernel_rfl) (by kernel_rfl) (fun _ _ _ h => h) (Or.inl ⟨by kernel_rfl, ?_⟩) (by assumption) ?_
            rotate_left
            · (intro w hSw; (try dsimp only at hSw); go_simp)
              try (with_reducible rfl)
            rotate_left
            try simp (maxSteps := 4000000) only [Act.put, List.setIfInBounds_toArray, List.set_cons_zero, List.set_cons_succ, List.getElem_toArray, List.getElem_cons_zero, List.getElem_cons_succ]
            refine wpAnyH_take (i := 23) (v := ?_) rfl (by kernel_rfl) (by kernel_rfl) (by kernel_rfl) (fun _ _ _ h => h) (Or.inl ⟨by kernel_rfl, ?_⟩) (by assumption) ?_
            rotate_left
            · (intro w hSw; (try dsimp only at hSw); go_simp)
              try (with_reducible rfl)
            rotate_left
            try simp (maxSteps := 4000000) only [Act.put, List.setIfInBounds_toArray, List.set_cons_zero, List.set_cons_succ, List.getElem_toArray, List.getElem_cons_zero, List.getElem_cons_succ]
            refine wpAnyH_ready (rs := [21]) (by kernel_rfl) (by simp) ?_
            refine AllReadyH.cons rfl (fun K2 hK2 => ?_) AllReadyH.nil
            go_simp
            with_reducible refine Calls.mono (gfree lo hi s g _ a0_0 N N ws hHeld.2.2.1.out) ?_
            rintro e9 w9 ⟨rfl, rfl⟩
            refine hK2.out _ _ ?_ (fun hHeld2 => ?_)
            · exact hHeld
            clear hK2 K2 hHeld
            have hHeld := hHeld2
            clear hHeld2
            try simp (maxSteps := 4000000) only [Act.put, List.setIfInBounds_toArray, List.set_cons_zero, List.set_cons_succ]
            refine wpAnyH_take (i := 24) (v := ?_) rfl (by kernel_rfl) (by kernel_rfl) (by kernel_rfl) (fun _ _ _ h => h) (Or.inl ⟨by kernel_rfl, ?_⟩) (by assumption) ?_
            rotate_left
            · (intro w hSw; (try dsimp only at hSw); go_simp)
              try (with_reducible rfl)
            rotate_left
            try simp (maxSteps := 4000000) only [Act.put, List.setIfInBounds_toArray, List.set_cons_zero, List.set_cons_succ, List.getElem_toArray, List.getElem_cons_zero, List.getElem_cons_succ]
            refine wpAnyH_take (i := 25) (v := ?_) rfl (by kernel_rfl) (by kernel_rfl) (by kernel_rfl) (fun _ _ _ h => h) (Or.inl ⟨by kernel_rfl, ?_⟩) (by assumption) ?_
            rotate_left
            · (intro w hSw; (try dsimp only at hSw); go_simp)
              try (with_reducible rfl)
            rotate_left
            try simp (maxSteps := 4000000) only [Act.put, List.setIfInBounds_toArray, List.set_cons_zero, List.set_cons_succ, List.getElem_toArray, List.getElem_cons_zero, List.getElem_cons_succ]
            refine wpAnyH_take (i := 26) (v := ?_) rfl (by kernel_rfl) (by kernel_rfl) (by kernel_rfl) (fun _ _ _ h => h) (Or.inl ⟨by kernel_rfl, ?_⟩) (by assumption) ?_
            rotate_left
            · (intro w hSw; (try dsimp only at hSw); go_simp)
              try (with_reducible rfl)
            rotate_left
            try simp (maxSteps := 4000000) only [Act.put, List.setIfInBounds_toArray, List.set_cons_zero, List.set_cons_succ, List.getElem_toArray, List.getElem_cons_zero, List.getElem_cons_succ]
            refine wpAnyH_take (i := 27) (v := ?_) rfl (by kernel_rfl) (by kernel_rfl) (by kernel_rfl) (fun _ _ _ h => h) (Or.inl ⟨by kernel_rfl, ?_⟩) (by assumption) ?_
            rotate_left
            · (intro w hSw; (try dsimp only at hSw); go_simp)
              try (with_reducible rfl)
            rotate_left
            try simp (maxSteps := 4000000) only [Act.put, List.setIfInBounds_toArray, List.set_cons_zero, List.set_cons_succ, List.getElem_toArray, List.getElem_cons_zero, List.getElem_cons_succ]
            refine wpAnyH_take (i := 28) (v := ?_) rfl (by kernel_rfl) (by kernel_rfl) (by kernel_rfl) (fun _ _ _ h => h) (Or.inl ⟨by kernel_rfl, ?_⟩) (by assumption) ?_
            rotate_left
            · (intro w hSw; (try dsimp only at hSw); go_simp)
              try (with_reducible rfl)
            rotate_left
            try simp (maxSteps := 4000000) only [Act.put, List.setIfInBounds_toArray, List.set_cons_zero, List.set_cons_succ, List.getElem_toArray, List.getElem_cons_zero, List.getElem_cons_succ]
            refine wpAnyH_take (i := 30) (v := ?_) rfl (by kernel_rfl) (by kernel_rfl) (by kernel_rfl) (fun _ _ _ h => h) (Or.inl ⟨by kernel_rfl, ?_⟩) (by assumption) ?_
            rotate_left
            · (intro w hSw; (try dsimp only at hSw); go_simp)
              try (with_reducible rfl)
            rotate_left
            try simp (maxSteps := 4000000) only [Act.put, List.setIfInBounds_toArray, List.set_cons_zero, List.set_cons_succ, List.getElem_toArray, List.getElem_cons_zero, List.getElem_cons_succ]
            refine wpAnyH_take (i := 31) (v := ?_) rfl (by kernel_rfl) (by kernel_rfl) (by kernel_rfl) (fun _ _ _ h => h) (Or.inl ⟨by kernel_rfl, ?_⟩) (by assumption) ?_
            rotate_left
            · (intro w hSw; (try dsimp only at hSw); go_simp)
              try (with_reducible rfl)
            rotate_left
            try simp (maxSteps := 4000000) only [Act.put, List.setIfInBounds_toArray, List.set_cons_zero, List.set_cons_succ, List.getElem_toArray, List.getElem_cons_zero, List.getElem_cons_succ]
            refine wpAnyH_ready (rs := [29]) (by kernel_rfl) (by simp) ?_
            refine AllReadyH.cons rfl (fun K2 hK2 => ?_) AllReadyH.nil
            go_simp
            with_reducible refine Calls.mono (gfind_full lo hi s g _ a0_0 N N ws a2 hHeld.2.2.1.out HBT.out hHeld.2.2.2.1.out hN1024 hN1 V HVV.out) ?_
            rintro e9 w9 ⟨rfl, hb9⟩
            refine hK2.out _ _ ?_ (fun hHeld2 => ?_)
            · exact ⟨(hb9.cell (p := ⟨X, 0, none⟩) hHeld.2.2.2.2.2).trans hHeld.1, (hb9.cell (p := ⟨X, 1, none⟩) hHeld.2.2.2.2.2).trans hHeld.2.1, hHeld.2.2.below hb9⟩
            clear hb9
            clear hK2 K2 hHeld
            have hHeld := hHeld2
            clear hHeld2
            try simp (maxSteps := 4000000) only [Act.put, List.setIfInBounds_toArray, List.set_cons_zero, List.set_cons_succ]
            refine wpAnyH_ready (rs := [32]) (by kernel_rfl) (by simp) ?_
            refine AllReadyH.cons rfl (fun K2 hK2 => ?_) AllReadyH.nil
            go_simp
            with_reducible refine Calls.mono (gfound_is a0_0 N a2 _ V HVV.out) ?_
            rintro e9 w9 ⟨rfl, hb9⟩
            refine hK2.out _ _ ?_ (fun hHeld2 => ?_)
            · exact ⟨(hb9.cell (p := ⟨X, 0, none⟩) hHeld.2.2.2.2.2).trans hHeld.1, (hb9.cell (p := ⟨X, 1, none⟩) hHeld.2.2.2.2.2).trans hHeld.2.1, hHeld.2.2.below hb9⟩
            clear hb9
            clear hK2 K2 hHeld
            have hHeld := hHeld2
            clear hHeld2
            try simp (maxSteps := 4000000) only [Act.put, List.setIfInBounds_toArray, List.set_cons_zero, List.set_cons_succ]
            refine wpAnyH_take (i := 33) (v := ?_) rfl (by kernel_rfl) (by kernel_rfl) (by kernel_rfl) (fun _ _ _ h => h) (Or.inl ⟨by kernel_rfl, ?_⟩) (by assumption) ?_
            rotate_left
            · (intro w hSw; (try dsimp only at hSw); go_simp)
              try (with_reducible rfl)
            rotate_left
            try simp (maxSteps := 4000000) only [Act.put, List.setIfInBounds_toArray, List.set_cons_zero, List.set_cons_succ, List.getElem_toArray, List.getElem_cons_zero, List.getElem_cons_succ]
            refine wpAnyH_take (i := 34) (v := ?_) rfl (by kernel_rfl) (by kernel_rfl) (by kernel_rfl) (fun _ _ _ h => h) (Or.inl ⟨by kernel_rfl, ?_⟩) (by assumption) ?_
            rotate_left
            · (intro w hSw; (try dsimp only at hSw); go_simp)
              try (with_reducible rfl)
            rotate_left
            try simp (maxSteps := 4000000) only [Act.put, List.setIfInBounds_toArray, List.set_cons_zero, List.set_cons_succ, List.getElem_toArray, List.getElem_cons_zero, List.getElem_cons_succ]
            refine wpAnyH_take (i := 35) (v := ?_) rfl (by kernel_rfl) (by kernel_rfl) (by kernel_rfl) (fun _ _ _ h => h) (Or.inl ⟨by kernel_rfl, ?_⟩) (by assumption) ?_
            rotate_left
            · (intro w hSw; (try dsimp only at hSw); go_simp)
              try (with_reducible rfl)
            rotate_left
            try simp (maxSteps := 4000000) only [Act.put, List.setIfInBounds_toArray, List.set_cons_zero, List.set_cons_succ, List.getElem_toArray, List.getElem_cons_zero, List.getElem_cons_succ]
            refine wpAnyH_done (by kernel_rfl) ?_ _
            go_wp2
            go_ret
            exact ⟨by simp, by rw [hX]; exact HBk.out.trans (hHeld.2.2.2.2.1.out.mono hXk)⟩
  · as_aux_lemma =>
      have HNM := Lib.hid hm
      have hs9 : X < W1.heap.size := by omega
      rw [hX] at k0 k1
      rcases (show a0_0 < 0 ∨ (0 ≤ a0_0 ∧ a0_1 < 1) ∨ (0 ≤ a0_0 ∧ 1 ≤ a0_1 ∧ 1024 < a0_0) ∨ (0 ≤ a0_0 ∧ 1 ≤ a0_1 ∧ a0_0 ≤ 1024 ∧ 1024 - a0_0 < a0_1) by
          by_cases c1 : a0_0 < 0
          · exact .inl c1
          · by_cases c2 : a0_1 < 1
            · exact .inr (.inl ⟨by omega, c2⟩)
            · by_cases c3 : 1024 < a0_0
              · exact .inr (.inr (.inl ⟨by omega, by omega, c3⟩))
              · refine .inr (.inr (.inr ⟨by omega, by omega, by omega, ?_⟩))
                by_cases c4 : 1024 - a0_0 < a0_1
                · exact c4
                · exact absurd ⟨by omega, by omega, by omega, by omega⟩ hm) with c1 | ⟨c1, c2⟩ | ⟨c1, c2, c3⟩ | ⟨c1, c2, c3, c4⟩
      all_goals
        clear hm
      · have d1 : decide (0 ≤ a0_0) = false := by simpa using c1
        have e1 : ¬ 0 ≤ a0_0 := by omega
        go_enter Tryd.func6, Tryd.ntmps6
        go_wp2_with fail
        rw [HW1.out]
        try rw [hX]
        refine (gnew_no a0_0 a0_1 W1 HNM.out).mono ?_
        rintro e v1 ⟨rfl, hb⟩
        have n0 := (hb.cell (p := ⟨X, 0, none⟩) (by omega)).trans k0
        have n1 := (hb.cell (p := ⟨X, 1, none⟩) (by omega)).trans k1
        have T2 : Hid (TzTab v1) := Lib.hid (T1.out.later hb)
        have HBw : Hid (Below w.heap.size w v1) := Lib.hid (HB1.out.trans (hb.mono (Nat.le_of_lt hs1)))
        clear hb k0 k1
        go_wp2_with fail
        refine (awakeGaps _ T2.out).mono ?_
        rintro e v2 ⟨rfl, q2⟩
        go_wp2_with fail
        refine (nggfind 1 _ rfl).mono ?_
        rintro e v3 ⟨rfl, q3⟩
        go_wp2_with fail
        refine (ngtake a1 a2 _).mono ?_
        rintro e v4 ⟨rfl, q, rfl⟩
        go_wp2_with fail
        refine (nggive a1 a2 _).mono ?_
        rintro e v5 ⟨rfl, q', rfl⟩
        go_wp2_with fail
        refine (ngfree _).mono ?_
        rintro e v6 ⟨rfl, rfl⟩
        go_wp2_with fail
        refine (ngmost _).mono ?_
        rintro e v6 ⟨rfl, rfl⟩
        go_wp2_with fail
        refine (nggwide _).mono ?_
        rintro e v6 ⟨rfl, q6⟩
        go_wp2_with fail
        refine (nglist _).mono ?_
        rintro e v7 ⟨rfl, rfl⟩
        go_wp2_with fail
        refine (ngtwin _).mono ?_
        rintro e v7 ⟨rfl, rfl⟩
        go_wp2
        go_ret
        exact ⟨rfl, by
          have h1 := thn (thn HBw.out q2) q3
          have h2 := below_drewN (below_drewN h1 q) q'
          exact thn h2 (by first | exact q6 | simpa using q6)⟩
      · have d1 : decide (0 ≤ a0_0) = true := by simpa using c1
        have d2 : decide (1 ≤ a0_1) = false := by simp; omega
        have e2 : ¬ 1 ≤ a0_1 := by omega
        go_enter Tryd.func6, Tryd.ntmps6
        go_wp2_with fail
        rw [HW1.out]
        try rw [hX]
        refine (gnew_no a0_0 a0_1 W1 HNM.out).mono ?_
        rintro e v1 ⟨rfl, hb⟩
        have n0 := (hb.cell (p := ⟨X, 0, none⟩) (by omega)).trans k0
        have n1 := (hb.cell (p := ⟨X, 1, none⟩) (by omega)).trans k1
        have T2 : Hid (TzTab v1) := Lib.hid (T1.out.later hb)
        have HBw : Hid (Below w.heap.size w v1) := Lib.hid (HB1.out.trans (hb.mono (Nat.le_of_lt hs1)))
        clear hb k0 k1
        go_wp2_with fail
        refine (awakeGaps _ T2.out).mono ?_
        rintro e v2 ⟨rfl, q2⟩
        go_wp2_with fail
        refine (nggfind 1 _ rfl).mono ?_
        rintro e v3 ⟨rfl, q3⟩
        go_wp2_with fail
        refine (ngtake a1 a2 _).mono ?_
        rintro e v4 ⟨rfl, q, rfl⟩
        go_wp2_with fail
        refine (nggive a1 a2 _).mono ?_
        rintro e v5 ⟨rfl, q', rfl⟩
        go_wp2_with fail
        refine (ngfree _).mono ?_
        rintro e v6 ⟨rfl, rfl⟩
        go_wp2_with fail
        refine (ngmost _).mono ?_
        rintro e v6 ⟨rfl, rfl⟩
        go_wp2_with fail
        refine (nggwide _).mono ?_
        rintro e v6 ⟨rfl, q6⟩
        go_wp2_with fail
        refine (nglist _).mono ?_
        rintro e v7 ⟨rfl, rfl⟩
        go_wp2_with fail
        refine (ngtwin _).mono ?_
        rintro e v7 ⟨rfl, rfl⟩
        go_wp2
        go_ret
        exact ⟨rfl, by
          have h1 := thn (thn HBw.out q2) q3
          have h2 := below_drewN (below_drewN h1 q) q'
          exact thn h2 (by first | exact q6 | simpa using q6)⟩
      · have d1 : decide (0 ≤ a0_0) = true := by simpa using c1
        have d2 : decide (1 ≤ a0_1) = true := by simpa using c2
        have d3 : decide (a0_0 ≤ 1024) = false := by simp; omega
        have e3 : ¬ a0_0 ≤ 1024 := by omega
        go_enter Tryd.func6, Tryd.ntmps6
        go_wp2_with fail
        rw [HW1.out]
        try rw [hX]
        refine (gnew_no a0_0 a0_1 W1 HNM.out).mono ?_
        rintro e v1 ⟨rfl, hb⟩
        have n0 := (hb.cell (p := ⟨X, 0, none⟩) (by omega)).trans k0
        have n1 := (hb.cell (p := ⟨X, 1, none⟩) (by omega)).trans k1
        have T2 : Hid (TzTab v1) := Lib.hid (T1.out.later hb)
        have HBw : Hid (Below w.heap.size w v1) := Lib.hid (HB1.out.trans (hb.mono (Nat.le_of_lt hs1)))
        clear hb k0 k1
        go_wp2_with fail
        refine (awakeGaps _ T2.out).mono ?_
        rintro e v2 ⟨rfl, q2⟩
        go_wp2_with fail
        refine (nggfind 1 _ rfl).mono ?_
        rintro e v3 ⟨rfl, q3⟩
        go_wp2_with fail
        refine (ngtake a1 a2 _).mono ?_
        rintro e v4 ⟨rfl, q, rfl⟩
        go_wp2_with fail
        refine (nggive a1 a2 _).mono ?_
        rintro e v5 ⟨rfl, q', rfl⟩
        go_wp2_with fail
        refine (ngfree _).mono ?_
        rintro e v6 ⟨rfl, rfl⟩
        go_wp2_with fail
        refine (ngmost _).mono ?_
        rintro e v6 ⟨rfl, rfl⟩
        go_wp2_with fail
        refine (nggwide _).mono ?_
        rintro e v6 ⟨rfl, q6⟩
        go_wp2_with fail
        refine (nglist _).mono ?_
        rintro e v7 ⟨rfl, rfl⟩
        go_wp2_with fail
        refine (ngtwin _).mono ?_
        rintro e v7 ⟨rfl, rfl⟩
        go_wp2
        go_ret
        exact ⟨rfl, by
          have h1 := thn (thn HBw.out q2) q3
          have h2 := below_drewN (below_drewN h1 q) q'
          exact thn h2 (by first | exact q6 | simpa using q6)⟩
      · have d1 : decide (0 ≤ a0_0) = true := by simpa using c1
        have d2 : decide (1 ≤ a0_1) = true := by simpa using c2
        have d3 : decide (a0_0 ≤ 1024) = true := by simpa using c3
        have d4 : decide (a0_1 ≤ 1024 - a0_0) = false := by simp; omega
        have e4 : ¬ a0_1 ≤ 1024 - a0_0 := by omega
        have hwa : IntKind.i64.wrap (1024 - a0_0) = 1024 - a0_0 := by rw [IntKind.wrap_i64]; omega
        go_enter Tryd.func6, Tryd.ntmps6
        go_wp2_with fail
        rw [HW1.out]
        try rw [hX]
        refine (gnew_no a0_0 a0_1 W1 HNM.out).mono ?_
        rintro e v1 ⟨rfl, hb⟩
        have n0 := (hb.cell (p := ⟨X, 0, none⟩) (by omega)).trans k0
        have n1 := (hb.cell (p := ⟨X, 1, none⟩) (by omega)).trans k1
        have T2 : Hid (TzTab v1) := Lib.hid (T1.out.later hb)
        have HBw : Hid (Below w.heap.size w v1) := Lib.hid (HB1.out.trans (hb.mono (Nat.le_of_lt hs1)))
        clear hb k0 k1
        go_wp2_with fail
        refine (awakeGaps _ T2.out).mono ?_
        rintro e v2 ⟨rfl, q2⟩
        go_wp2_with fail
        refine (nggfind 1 _ rfl).mono ?_
        rintro e v3 ⟨rfl, q3⟩
        go_wp2_with fail
        refine (ngtake a1 a2 _).mono ?_
        rintro e v4 ⟨rfl, q, rfl⟩
        go_wp2_with fail
        refine (nggive a1 a2 _).mono ?_
        rintro e v5 ⟨rfl, q', rfl⟩
        go_wp2_with fail
        refine (ngfree _).mono ?_
        rintro e v6 ⟨rfl, rfl⟩
        go_wp2_with fail
        refine (ngmost _).mono ?_
        rintro e v6 ⟨rfl, rfl⟩
        go_wp2_with fail
        refine (nggwide _).mono ?_
        rintro e v6 ⟨rfl, q6⟩
        go_wp2_with fail
        refine (nglist _).mono ?_
        rintro e v7 ⟨rfl, rfl⟩
        go_wp2_with fail
        refine (ngtwin _).mono ?_
        rintro e v7 ⟨rfl, rfl⟩
        go_wp2
        go_ret
        exact ⟨rfl, by
          have h1 := thn (thn HBw.out q2) q3
          have h2 := below_drewN (below_drewN h1 q) q'
          exact thn h2 (by first | exact q6 | simpa using q6)⟩
end Go.Proofs.YtjblgamngnnccaaDoor
