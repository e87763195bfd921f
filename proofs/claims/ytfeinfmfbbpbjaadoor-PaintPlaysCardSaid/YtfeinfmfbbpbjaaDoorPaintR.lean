/- The walk of PaintRaw. -/
import Derived.Test.YtfeinfmfbbpbjaaDoorPaint
namespace Go.Proofs.YtfeinfmfbbpbjaaDoor
open Go.RowKit
set_option linter.unusedVariables false
set_option linter.unusedSimpArgs false

theorem put_zero_bits (f n y : Nat) (h : f + n ≤ 16384) : bitB (putN (List.replicate 256 0) f n).1 y = decide (f ≤ y ∧ y < f + n) := by
  rw [putN_bits _ _ _ _ (by rw [List.length_replicate]; omega), bitB_none, Bool.false_or]
theorem put_zero_count (f n : Nat) (h : f + n ≤ 16384) : (putN (List.replicate 256 0) f n).2 = n := putN_count _ _ _ (by rw [List.length_replicate]; omega) (fun y _ _ => bitB_none 256 y)
theorem some_true {f m : Int} {ws : List Nat} (y : Nat) (h0 : 0 ≤ f) (h1 : f ≤ y) (h2 : (y : Int) < f + m) (h3 : f < 16384) (h4 : f + m ≤ 16384) (hb : bitB ws y = true) : SomeR 16384 f m ws true := by
  unfold SomeR sendI
  rw [if_pos (by omega)]
  exact ⟨fun _ => ⟨h0, y, h1, by omega, hb⟩, fun _ => rfl⟩
theorem some_false {f m : Int} {ws : List Nat} (h : ∀ y : Nat, f ≤ y → (y : Int) < f + m → bitB ws y = false) : SomeR 16384 f m ws false := by
  unfold SomeR sendI
  refine ⟨fun q => (by cases q), ?_⟩
  rintro ⟨_, y, y1, y2, y3⟩
  split at y2
  · rw [h y y1 (by omega)] at y3; exact y3
  · omega

set_option maxHeartbeats 1600000 in
theorem s33awake_any (w : World) (ht : TzTab w) :
    Calls Tryd.prog 12 #[] w fun e w' => e = .returned (.bool true) ∧ Below w.heap.size w w' := by
  have T := Lib.hid ht; clear ht
  have f1 : spF 20 4 16 = 1 := by decide
  have f2 : spN 20 4 16 = 1 := by decide
  have f3 : sJ 16384 1 1 = 1 := by decide
  obtain ⟨ws, hws⟩ : ∃ ws, (putN (List.replicate 256 0) 1 1).1 = ws := ⟨_, rfl⟩
  have hb : ∀ y, bitB ws y = decide (1 ≤ y ∧ y < 2) := fun y => by rw [← hws, put_zero_bits 1 1 y (by decide)]
  have hp : putN (List.replicate 256 0) (spF 20 4 16).toNat (sJ 16384 (spF 20 4 16) (spN 20 4 16)) = (ws, 1) := by
    rw [f1, f2, f3]
    exact Prod.ext hws (put_zero_count 1 1 (by decide))
  have HB := Lib.hid hb; have HP := Lib.hid hp
  clear hb hp hws f1 f2 f3
  go_enter Tryd.func12, Tryd.ntmps12
  go_wp2_with fail
  refine (ptnew_any _).mono ?_
  rintro e v1 ⟨g, p, rfl, hp1, hb1⟩
  have HP1 := Lib.hid hp1; clear hp1
  go_wp2_with fail
  refine (ptput 20 4 1 1 ws HP1.out HP.out (by decide) (by decide)).mono ?_
  rintro e v2 ⟨rfl, hp2, hb2, _, _⟩
  have HP2 := Lib.hid hp2; clear hp2
  have hbel2 : Below w.heap.size w v2 := hb1.trans hb2
  clear hb1 hb2
  go_wp2_with fail
  refine (pthas 16 true HP2.out (by
    rw [show spF 16 1 16 = 1 by decide, show spN 16 1 16 = 1 by decide]
    exact some_true 1 (by decide) (by decide) (by decide) (by decide) (by decide) (by rw [HB.out]; decide)) (T.out.later hbel2)).mono ?_
  rintro e v3 ⟨rfl, hb3⟩
  have hbel3 := hbel2.trans (hb3.mono hbel2.size)
  have HP3 := Lib.hid (HP2.out.below hb3 HP2.out.2.1.2 hb3.size)
  clear hb3 HP2 hbel2
  go_wp2_with fail
  refine (pthas 32 false HP3.out (by
    rw [show spF 32 1 16 = 2 by decide, show spN 32 1 16 = 1 by decide]
    exact some_false (fun y y1 y2 => by rw [HB.out]; exact decide_eq_false (by omega))) (T.out.later hbel3)).mono ?_
  rintro e v4 ⟨rfl, hb4⟩
  have hbel4 := hbel3.trans (hb4.mono hbel3.size)
  have HP4 := Lib.hid (HP3.out.below hb4 HP3.out.2.1.2 hb4.size)
  clear hb4 HP3 hbel3
  go_wp2_with fail
  refine (ptcount HP4.out).mono ?_
  rintro e w' ⟨rfl, rfl⟩
  go_wp2_with fail
  refine (ptsome 0 17 true HP4.out (by
    rw [show spF 0 17 16 = 0 by decide, show spN 0 17 16 = 2 by decide]
    exact some_true 1 (by decide) (by decide) (by decide) (by decide) (by decide) (by rw [HB.out]; decide)) (T.out.later hbel4)).mono ?_
  rintro e v5 ⟨rfl, hb5⟩
  have hbel5 := hbel4.trans (hb5.mono hbel4.size)
  go_wp2
  go_ret
  exact ⟨rfl, hbel5⟩

set_option maxRecDepth 8000 in
set_option maxHeartbeats 4000000 in
theorem walkPaintRaw (a0_0 : Int) (a0_1 : Int) (w : World) (w0_0 : (Lit.int .i64 a0_0).wf = true) (w0_1 : (Lit.int .i64 a0_1).wf = true) (ht : TzTab w) :
    Calls Tryd.prog 4 #[.agg #[.int .i64 a0_0, .int .i64 a0_1]] w fun e w' => e = .returned (.bool true) ∧ Below w.heap.size w w' := by
  have T := Lib.hid ht; clear ht
  obtain ⟨b1, b2⟩ := bounds_i64 w0_0
  obtain ⟨b3, b4⟩ := bounds_i64 w0_1
  cases hm : mayB a0_0 a0_1
  · have hc : decide (0 ≤ a0_0) = false ∨ (0 ≤ a0_0 ∧ decide (a0_0 < 262144) = false) ∨ (0 ≤ a0_0 ∧ a0_0 < 262144 ∧ decide (1 ≤ a0_1) = false) ∨ (0 ≤ a0_0 ∧ a0_0 < 262144 ∧ 1 ≤ a0_1 ∧ decide (a0_1 ≤ 262144 - a0_0) = false) := by
      have := mayB_false.1 hm
      simp only [decide_eq_false_iff_not]; omega
    have e1 : spF a0_0 a0_1 16 = 0 := by simp [spF, hm]
    have e2 : spN a0_0 a0_1 16 = 0 := by simp [spN, hm]
    have HP : Hid (putN (List.replicate 256 0) (spF a0_0 a0_1 16).toNat (sJ 16384 (spF a0_0 a0_1 16) (spN a0_0 a0_1 16)) = (List.replicate 256 0, 0)) := Lib.hid (by rw [e1, e2]; rfl)
    have HQ : Hid (dropN (List.replicate 256 0) (spF a0_0 a0_1 16).toNat (sJ 16384 (spF a0_0 a0_1 16) (spN a0_0 a0_1 16)) = (List.replicate 256 0, 0)) := Lib.hid (by rw [e1, e2]; rfl)
    have HR : Hid (SomeR 16384 (spF a0_0 a0_1 16) (spN a0_0 a0_1 16) (List.replicate 256 0) false) := Lib.hid (some_false (fun y _ _ => bitB_none 256 y))
    have HM := Lib.hid hm
    clear hm e1 e2
    rcases hc with h1 | ⟨h1, h2⟩ | ⟨h1, h2, h3⟩ | ⟨h1, h2, h3, h4⟩
    all_goals
      go_enter Tryd.func4, Tryd.ntmps4
      go_wp2_with fail
      refine (ptnew_any _).mono ?_
      rintro e v1 ⟨g, p, rfl, hp1, hx1⟩
      have HP1 := Lib.hid hp1; clear hp1
      have c10 : v1.cell? ⟨w.heap.size, 0, none⟩ = some (.int .i64 a0_0) := by rw [hx1.cell (by simp)]; go_simp
      have c11 : v1.cell? ⟨w.heap.size, 1, none⟩ = some (.int .i64 a0_1) := by rw [hx1.cell (by simp)]; go_simp
      go_wp2_with fail
      refine (ptput a0_0 a0_1 0 0 (List.replicate 256 0) HP1.out HP.out (by omega) (by omega)).mono ?_
      rintro e v2 ⟨rfl, hp2, hb2, _, _⟩
      have HP2 := Lib.hid hp2; clear hp2
      have hx2 : Below (w.alloc (.cells #[.int .i64 a0_0, .int .i64 a0_1] 29)).heap.size (w.alloc (.cells #[.int .i64 a0_0, .int .i64 a0_1] 29)) v2 := hx1.trans hb2
      clear hb2 HP1
      have c20 : v2.cell? ⟨w.heap.size, 0, none⟩ = some (.int .i64 a0_0) := by rw [hx2.cell (by simp)]; go_simp
      have c21 : v2.cell? ⟨w.heap.size, 1, none⟩ = some (.int .i64 a0_1) := by rw [hx2.cell (by simp)]; go_simp
      have hbel2 := thn (alc0 w _) hx2
      go_wp2_with fail
      refine (s33awake_any _ (T.out.later hbel2)).mono ?_
      rintro e v3 ⟨rfl, hb3⟩
      have hx3 := hx2.trans (hb3.mono hx2.size)
      have HP3 := Lib.hid (HP2.out.below hb3 HP2.out.2.1.2 hb3.size)
      clear hb3 HP2
      have c30 : v3.cell? ⟨w.heap.size, 0, none⟩ = some (.int .i64 a0_0) := by rw [hx3.cell (by simp)]; go_simp
      have c31 : v3.cell? ⟨w.heap.size, 1, none⟩ = some (.int .i64 a0_1) := by rw [hx3.cell (by simp)]; go_simp
      go_wp2_with fail
      refine (ptcount HP3.out).mono ?_
      rintro e w' ⟨rfl, rfl⟩
      have HP4 := HP3
      go_wp2_with fail
      refine (ptwhole_no a0_0 a0_1 _ _ HM.out).mono ?_
      rintro e v5 ⟨rfl, hb5⟩
      have hx5 := hx3.trans (hb5.mono hx3.size)
      have HP5 := Lib.hid (HP4.out.below hb5 HP4.out.2.1.2 hb5.size)
      clear hb5 HP4 HP3
      have c50 : v5.cell? ⟨w.heap.size, 0, none⟩ = some (.int .i64 a0_0) := by rw [hx5.cell (by simp)]; go_simp
      have c51 : v5.cell? ⟨w.heap.size, 1, none⟩ = some (.int .i64 a0_1) := by rw [hx5.cell (by simp)]; go_simp
      have hbel5 := thn (alc0 w _) hx5
      go_wp2_with fail
      refine (ptsome a0_0 a0_1 false HP5.out HR.out (T.out.later hbel5)).mono ?_
      rintro e v6 ⟨rfl, hb6⟩
      have hx6 := hx5.trans (hb6.mono hx5.size)
      have HP6 := Lib.hid (HP5.out.below hb6 HP5.out.2.1.2 hb6.size)
      clear hb6 HP5
      have c60 : v6.cell? ⟨w.heap.size, 0, none⟩ = some (.int .i64 a0_0) := by rw [hx6.cell (by simp)]; go_simp
      have c61 : v6.cell? ⟨w.heap.size, 1, none⟩ = some (.int .i64 a0_1) := by rw [hx6.cell (by simp)]; go_simp
      go_wp2_with fail
      refine (ptclean a0_0 a0_1 0 0 (List.replicate 256 0) HP6.out HQ.out (by omega) (by omega)).mono ?_
      rintro e v7 ⟨rfl, hp7, hb7, _, _⟩
      have HP7 := Lib.hid hp7; clear hp7
      have hx7 : Below (w.alloc (.cells #[.int .i64 a0_0, .int .i64 a0_1] 29)).heap.size (w.alloc (.cells #[.int .i64 a0_0, .int .i64 a0_1] 29)) v7 := hx6.trans hb7
      clear hb7
      go_wp2_with fail
      refine (ptcount HP7.out).mono ?_
      rintro e w' ⟨rfl, rfl⟩
      go_wp2
      go_ret
      exact ⟨rfl, thn (alc0 w _) hx7⟩
  · obtain ⟨h1, h2, h3, h4⟩ := mayB_iff.1 hm
    obtain ⟨e1, e2⟩ := spG hm
    obtain ⟨v, hv⟩ : ∃ v : Int, (a0_0 + a0_1 - 1) / 16 - a0_0 / 16 + 1 = v := ⟨_, rfl⟩
    have hv1 : 1 ≤ v ∧ a0_0 / 16 + v ≤ 16384 := by omega
    have hF : 0 ≤ a0_0 / 16 ∧ a0_0 / 16 < 16384 := by omega
    have hj : sJ 16384 (spF a0_0 a0_1 16) (spN a0_0 a0_1 16) = v.toNat := by
      rw [e1, e2, hv]; unfold sJ sendI; rw [if_pos (by omega)]; omega
    obtain ⟨ws, hws⟩ : ∃ ws, (putN (List.replicate 256 0) (spF a0_0 a0_1 16).toNat (sJ 16384 (spF a0_0 a0_1 16) (spN a0_0 a0_1 16))).1 = ws := ⟨_, rfl⟩
    obtain ⟨ws2, hws2⟩ : ∃ ws2, (dropN ws (spF a0_0 a0_1 16).toNat (sJ 16384 (spF a0_0 a0_1 16) (spN a0_0 a0_1 16))).1 = ws2 := ⟨_, rfl⟩
    have hb : ∀ y, bitB ws y = decide ((a0_0 / 16).toNat ≤ y ∧ y < (a0_0 / 16).toNat + v.toNat) := fun y => by
      rw [← hws, hj, e1, put_zero_bits _ _ y (by omega)]
    have hlen : ws.length = 256 := by rw [← hws, putN_len, List.length_replicate]
    have HP : Hid (putN (List.replicate 256 0) (spF a0_0 a0_1 16).toNat (sJ 16384 (spF a0_0 a0_1 16) (spN a0_0 a0_1 16)) = (ws, v)) := Lib.hid (Prod.ext hws (by rw [hj, e1, put_zero_count _ _ (by omega)]; omega))
    have HQ : Hid (dropN ws (spF a0_0 a0_1 16).toNat (sJ 16384 (spF a0_0 a0_1 16) (spN a0_0 a0_1 16)) = (ws2, v)) := Lib.hid (Prod.ext hws2 (by
      rw [hj, e1, dropN_count ws _ _ (by rw [hlen]; omega) (fun y y1 y2 => by rw [hb]; exact decide_eq_true ⟨y1, y2⟩)]; omega))
    have HR : Hid (SomeR 16384 (spF a0_0 a0_1 16) (spN a0_0 a0_1 16) ws true) := Lib.hid (by
      rw [e1, e2, hv]
      exact some_true (a0_0 / 16).toNat (by omega) (by omega) (by omega) (by omega) (by omega) (by rw [hb]; exact decide_eq_true (by omega)))
    have HWH : Hid ((decide (0 ≤ spF a0_0 a0_1 16 ∧ 0 ≤ spN a0_0 a0_1 16 ∧ spN a0_0 a0_1 16 ≤ 16384 ∧ spF a0_0 a0_1 16 ≤ 16384 - spN a0_0 a0_1 16) && wholeB ws (spF a0_0 a0_1 16).toNat (spN a0_0 a0_1 16).toNat) = true) := Lib.hid (by
      rw [e1, e2, hv, decide_eq_true (by omega), Bool.true_and]
      have hall : ∀ m, m ≤ v.toNat → wholeB ws (a0_0 / 16).toNat m = true := fun m hmv => by
        induction m with
        | zero => rfl
        | succ m ih => rw [wholeB, ih (by omega), hb, decide_eq_true (by omega)]; rfl
      exact hall _ (Nat.le_refl _))
    have HM := Lib.hid hm
    have g1 : (a0_0).tdiv 16 = a0_0 / 16 := Int.tdiv_eq_ediv_of_nonneg h1
    have g2 : (a0_0 + a0_1 - 1).tdiv 16 = (a0_0 + a0_1 - 1) / 16 := Int.tdiv_eq_ediv_of_nonneg (by omega)
    have hvb : v ≤ 16384 := by omega
    clear hm e1 e2 hb hlen hws hws2 hj
    go_enter Tryd.func4, Tryd.ntmps4
    go_wp2_with fail
    refine (ptnew_any _).mono ?_
    rintro e v1 ⟨g, p, rfl, hp1, hx1⟩
    have HP1 := Lib.hid hp1; clear hp1
    have c10 : v1.cell? ⟨w.heap.size, 0, none⟩ = some (.int .i64 a0_0) := by rw [hx1.cell (by simp)]; go_simp
    have c11 : v1.cell? ⟨w.heap.size, 1, none⟩ = some (.int .i64 a0_1) := by rw [hx1.cell (by simp)]; go_simp
    go_wp2_with fail
    refine (ptput a0_0 a0_1 v v ws HP1.out HP.out (by omega) (by omega)).mono ?_
    rintro e v2 ⟨rfl, hp2, hb2, _, _⟩
    have HP2 := Lib.hid hp2; clear hp2
    have hx2 : Below (w.alloc (.cells #[.int .i64 a0_0, .int .i64 a0_1] 29)).heap.size (w.alloc (.cells #[.int .i64 a0_0, .int .i64 a0_1] 29)) v2 := hx1.trans hb2
    clear hb2 HP1
    have c20 : v2.cell? ⟨w.heap.size, 0, none⟩ = some (.int .i64 a0_0) := by rw [hx2.cell (by simp)]; go_simp
    have c21 : v2.cell? ⟨w.heap.size, 1, none⟩ = some (.int .i64 a0_1) := by rw [hx2.cell (by simp)]; go_simp
    have hbel2 := thn (alc0 w _) hx2
    go_wp2_with fail
    refine (s33awake_any _ (T.out.later hbel2)).mono ?_
    rintro e v3 ⟨rfl, hb3⟩
    have hx3 := hx2.trans (hb3.mono hx2.size)
    have HP3 := Lib.hid (HP2.out.below hb3 HP2.out.2.1.2 hb3.size)
    clear hb3 HP2
    have c30 : v3.cell? ⟨w.heap.size, 0, none⟩ = some (.int .i64 a0_0) := by rw [hx3.cell (by simp)]; go_simp
    have c31 : v3.cell? ⟨w.heap.size, 1, none⟩ = some (.int .i64 a0_1) := by rw [hx3.cell (by simp)]; go_simp
    go_wp2_with fail
    refine (ptcount HP3.out).mono ?_
    rintro e w' ⟨rfl, rfl⟩
    have HP4 := HP3
    go_wp2_with fail
    refine (ptwhole a0_0 a0_1 true HP4.out HM.out HWH.out).mono ?_
    rintro e v5 ⟨rfl, hb5⟩
    have hx5 := hx3.trans (hb5.mono hx3.size)
    have HP5 := Lib.hid (HP4.out.below hb5 HP4.out.2.1.2 hb5.size)
    clear hb5 HP4 HP3
    have c50 : v5.cell? ⟨w.heap.size, 0, none⟩ = some (.int .i64 a0_0) := by rw [hx5.cell (by simp)]; go_simp
    have c51 : v5.cell? ⟨w.heap.size, 1, none⟩ = some (.int .i64 a0_1) := by rw [hx5.cell (by simp)]; go_simp
    have hbel5 := thn (alc0 w _) hx5
    go_wp2_with fail
    refine (ptsome a0_0 a0_1 true HP5.out HR.out (T.out.later hbel5)).mono ?_
    rintro e v6 ⟨rfl, hb6⟩
    have hx6 := hx5.trans (hb6.mono hx5.size)
    have HP6 := Lib.hid (HP5.out.below hb6 HP5.out.2.1.2 hb6.size)
    clear hb6 HP5
    have c60 : v6.cell? ⟨w.heap.size, 0, none⟩ = some (.int .i64 a0_0) := by rw [hx6.cell (by simp)]; go_simp
    have c61 : v6.cell? ⟨w.heap.size, 1, none⟩ = some (.int .i64 a0_1) := by rw [hx6.cell (by simp)]; go_simp
    go_wp2_with fail
    refine (ptclean a0_0 a0_1 v 0 ws2 HP6.out HQ.out (by omega) (by omega)).mono ?_
    rintro e v7 ⟨rfl, hp7, hb7, _, _⟩
    have HP7 := Lib.hid hp7; clear hp7
    have hx7 : Below (w.alloc (.cells #[.int .i64 a0_0, .int .i64 a0_1] 29)).heap.size (w.alloc (.cells #[.int .i64 a0_0, .int .i64 a0_1] 29)) v7 := hx6.trans hb7
    clear hb7
    go_wp2_with fail
    refine (ptcount HP7.out).mono ?_
    rintro e w' ⟨rfl, rfl⟩
    go_wp2
    go_ret
    exact ⟨rfl, thn (alc0 w _) hx7⟩
end Go.Proofs.YtfeinfmfbbpbjaaDoor
