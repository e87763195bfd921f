/- The walk of SlotsRaw. -/
import Derived.Test.YtgjahmdfkbdcpaaDoorSlotsA
import Derived.Deep.DeepCutAuto
namespace Go.Proofs.YtgjahmdfkbdcpaaDoor
open Go.RowKit
set_option linter.unusedVariables false
set_option linter.unusedSimpArgs false

theorem mod16384 (x : Int) : ∃ q : Nat, (bits .and .i64 x 16777215).tmod 16384 = q ∧ q < 16384 := by
  have h : bits .and .i64 x 16777215 = x % 16777216 := and24 x
  have h0 : 0 ≤ x % 16777216 := Int.emod_nonneg _ (by decide)
  rw [h, Int.tmod_eq_emod_of_nonneg h0]
  exact ⟨(x % 16777216 % 16384).toNat, by omega, by omega⟩

/-- What a write takes out of one number. -/
theorem wrote_one {ws : List Nat} {k : Nat} {b l : Int} (hb : ∀ y, bitB ws y = decide (k = y)) (hl : ws.length = 256) :
    (mayB b l = true → ∀ R : Bool, (R = decide (b / 16 ≤ k ∧ (k : Int) ≤ (b + l - 1) / 16)) → (dropN ws (spF b l 16).toNat (sJ 16384 (spF b l 16) (spN b l 16))).2 = (if R then 1 else 0) ∧ bitB (dropN ws (spF b l 16).toNat (sJ 16384 (spF b l 16) (spN b l 16))).1 k = !R) ∧
    (mayB b l = false → (dropN ws (spF b l 16).toNat (sJ 16384 (spF b l 16) (spN b l 16))).2 = 0 ∧ bitB (dropN ws (spF b l 16).toNat (sJ 16384 (spF b l 16) (spN b l 16))).1 k = true) := by
  constructor
  · intro h R hR
    obtain ⟨h1, h2, h3, h4⟩ := mayB_iff.1 h
    obtain ⟨e1, e2⟩ := spG h
    rw [e1, e2]
    have hj : sJ 16384 (b / 16) ((b + l - 1) / 16 - b / 16 + 1) = ((b + l - 1) / 16 - b / 16 + 1).toNat := by
      unfold sJ sendI; rw [if_pos (by omega)]; omega
    rw [hj]
    have hr : (b / 16).toNat + ((b + l - 1) / 16 - b / 16 + 1).toNat ≤ 64 * ws.length := by rw [hl]; omega
    rw [one_drop hb hr, dropN_bits ws _ _ k hr, hb, decide_eq_true rfl, Bool.true_and, hR]
    by_cases hk : b / 16 ≤ k ∧ (k : Int) ≤ (b + l - 1) / 16
    · rw [decide_eq_true hk, if_pos (by omega), decide_eq_true (by omega)]
      exact ⟨rfl, rfl⟩
    · rw [decide_eq_false hk, if_neg (by omega), decide_eq_false (by omega)]
      exact ⟨rfl, rfl⟩
  · intro h
    have e1 : spF b l 16 = 0 := by simp [spF, h]
    have e2 : spN b l 16 = 0 := by simp [spN, h]
    rw [e1, e2, show sJ 16384 0 0 = 0 by decide]
    exact ⟨rfl, by rw [dropN, hb, decide_eq_true rfl]⟩

set_option maxHeartbeats 4000000 in
set_option maxRecDepth 8000 in
theorem walkSlotsRaw (a0_0 : Int) (a0_1 : Int) (a1 : Int) (w : World) (w0_0 : (Lit.int .i64 a0_0).wf = true) (w0_1 : (Lit.int .i64 a0_1).wf = true) (w1 : (Lit.int .i64 a1).wf = true) (ht : TzTab w) :
    Calls Tryd.prog 7 #[.agg #[.int .i64 a0_0, .int .i64 a0_1], .int .i64 a1] w fun e w' => e = .returned (.bool true) ∧ Below w.heap.size w w' := by
  have T := Lib.hid ht; clear ht
  obtain ⟨b1, b2⟩ := bounds_i64 w0_0
  obtain ⟨b3, b4⟩ := bounds_i64 w0_1
  obtain ⟨k, hk, hk2⟩ := mod16384 a1
  have q0 : (0 : Int) ≤ (k : Int) := by omega
  have q1 : (k : Int) < 16384 := by omega
  go_enter Tryd.func7, Tryd.ntmps7
  go_wp2_with fail
  refine (slnew_any _).mono ?_
  rintro e v1 ⟨g, p, rfl, hp, hb1⟩
  have HP := Lib.hid hp; clear hp
  have hs1 := hb1.size
  simp only [World.size_alloc] at hs1
  have c0 : v1.cell? ⟨w.heap.size, 0, none⟩ = some (.int .i64 a0_0) := by rw [hb1.cell (by simp)]; go_simp
  have c1 : v1.cell? ⟨w.heap.size, 1, none⟩ = some (.int .i64 a0_1) := by rw [hb1.cell (by simp)]; go_simp
  have hbel1 := thn (alc0 w _) hb1
  go_wp2_with fail
  refine (slkeep k HP.out hk2 (by decide)).mono ?_
  rintro e v2 ⟨c', ws, rfl, hp2, ho2, -, e1, hl, hb⟩
  obtain rfl : c' = 1 := e1 (bitB_none 256 k)
  have hb2 : ∀ y, bitB ws y = decide (k = y) := fun y => by rw [hb y, bitB_none, Bool.false_or]
  have hl2 : ws.length = 256 := by rw [hl, List.length_replicate]
  obtain ⟨m1, m2⟩ := wrote_one (b := a0_0) (l := a0_1) hb2 hl2
  have HP2 := Lib.hid hp2; have HB2 := Lib.hid hb2
  have hw2 : w.heap.size < (w.alloc (.cells #[.int .i64 a0_0, .int .i64 a0_1] 56)).heap.size := by simp
  have d0 : v2.cell? ⟨w.heap.size, 0, none⟩ = some (.int .i64 a0_0) := (ho2.1.cell hw2).trans c0
  have d1 : v2.cell? ⟨w.heap.size, 1, none⟩ = some (.int .i64 a0_1) := (ho2.1.cell hw2).trans c1
  have hbel2 : Below w.heap.size w v2 := hbel1.trans (ho2.1.mono (by simp))
  have hWR := fun hc => slwrote (W := v2) a0_0 a0_1 HP2.out hc
  unfold WrotePost at hWR
  have M1 := Lib.hid m1; have M2 := Lib.hid m2
  clear m1 m2 hb hb2 hp2 e1 ho2 c0 c1 HP hb1 hl
  generalize (dropN ws (spF a0_0 a0_1 16).toNat (sJ 16384 (spF a0_0 a0_1 16) (spN a0_0 a0_1 16))).1 = ws' at *
  generalize (dropN ws (spF a0_0 a0_1 16).toNat (sJ 16384 (spF a0_0 a0_1 16) (spN a0_0 a0_1 16))).2 = d at *
  have HWR := Lib.hid hWR; clear hWR
  cases hm : mayB a0_0 a0_1
  · obtain ⟨rfl, hk3⟩ := M2.out hm
    have hc : decide (0 ≤ a0_0) = false ∨ (0 ≤ a0_0 ∧ decide (a0_0 < 262144) = false) ∨ (0 ≤ a0_0 ∧ a0_0 < 262144 ∧ decide (1 ≤ a0_1) = false) ∨ (0 ≤ a0_0 ∧ a0_0 < 262144 ∧ 1 ≤ a0_1 ∧ decide (a0_1 ≤ 262144 - a0_0) = false) := by
      have := mayB_false.1 hm
      simp only [decide_eq_false_iff_not]; omega
    have HK3 := Lib.hid hk3
    have HW := Lib.hid (HWR.out (by decide))
    clear hm hk3 HWR M1 M2
    rcases hc with h1 | ⟨h1, h2⟩ | ⟨h1, h2, h3⟩ | ⟨h1, h2, h3, h4⟩
    all_goals
      go_wp2_with fail
      refine HW.out.mono ?_
      rintro e v3 ⟨rfl, hp3, hb3, _, _⟩
      have HP3 := Lib.hid hp3; clear hp3
      have hbel3 : Below w.heap.size w v3 := hbel2.trans (hb3.mono (by simp))
      clear hb3
      go_wp2_with fail
      refine (s07awake_any _ (T.out.later hbel3)).mono ?_
      rintro e v4 ⟨rfl, hb4⟩
      have hbel4 := hbel3.trans (hb4.mono hbel3.size)
      have HP4 := Lib.hid (HP3.out.below hb4 HP3.out.2.1.2 hb4.size)
      clear hb4
      go_wp2_with fail
      refine (slhas true k HP4.out (by rw [Int.toNat_natCast, HK3.out, Bool.and_true]; exact decide_eq_true (by omega))).mono ?_
      rintro e w' ⟨rfl, rfl⟩
      go_wp2
      go_ret
      exact ⟨rfl, hbel4⟩
  · obtain ⟨h1, h2, h3, h4⟩ := mayB_iff.1 hm
    have g1 : (a0_0).tdiv 16 = a0_0 / 16 := Int.tdiv_eq_ediv_of_nonneg h1
    have g2 : (a0_0 + a0_1 - 1).tdiv 16 = (a0_0 + a0_1 - 1) / 16 := Int.tdiv_eq_ediv_of_nonneg (by omega)
    have hc : decide (a0_0 / 16 ≤ k) = false ∨ (a0_0 / 16 ≤ k ∧ decide ((k : Int) ≤ (a0_0 + a0_1 - 1) / 16) = false) ∨ (a0_0 / 16 ≤ k ∧ (k : Int) ≤ (a0_0 + a0_1 - 1) / 16) := by simp only [decide_eq_false_iff_not]; omega
    rcases hc with u1 | ⟨u1, u2⟩ | ⟨u1, u2⟩
    rotate_left 2
    · obtain ⟨hd, hk3⟩ := M1.out hm true (decide_eq_true ⟨u1, u2⟩).symm
      obtain rfl : d = 1 := hd
      have HK3 := Lib.hid hk3
      have HW := Lib.hid (HWR.out (by decide))
      clear hm hk3 HWR M1 M2
      go_wp2_with fail
      refine HW.out.mono ?_
      rintro e v3 ⟨rfl, hp3, hb3, _, _⟩
      have HP3 := Lib.hid hp3; clear hp3
      have hbel3 : Below w.heap.size w v3 := hbel2.trans (hb3.mono (by simp))
      clear hb3
      go_wp2_with fail
      refine (s07awake_any _ (T.out.later hbel3)).mono ?_
      rintro e v4 ⟨rfl, hb4⟩
      have hbel4 := hbel3.trans (hb4.mono hbel3.size)
      have HP4 := Lib.hid (HP3.out.below hb4 HP3.out.2.1.2 hb4.size)
      clear hb4
      go_wp2_with fail
      refine (slhas false k HP4.out (by rw [Int.toNat_natCast, HK3.out]; simp)).mono ?_
      rintro e w' ⟨rfl, rfl⟩
      go_wp2
      go_ret
      exact ⟨rfl, hbel4⟩
    all_goals
      obtain ⟨hd, hk3⟩ := M1.out hm false (decide_eq_false (by first | (have := of_decide_eq_false u1; omega) | (have := of_decide_eq_false u2; omega))).symm
      obtain rfl : d = 0 := hd
      have HK3 := Lib.hid hk3
      have HW := Lib.hid (HWR.out (by decide))
      clear hm hk3 HWR M1 M2
      go_wp2_with fail
      refine HW.out.mono ?_
      rintro e v3 ⟨rfl, hp3, hb3, _, _⟩
      have HP3 := Lib.hid hp3; clear hp3
      have hbel3 : Below w.heap.size w v3 := hbel2.trans (hb3.mono (by simp))
      clear hb3
      go_wp2_with fail
      refine (s07awake_any _ (T.out.later hbel3)).mono ?_
      rintro e v4 ⟨rfl, hb4⟩
      have hbel4 := hbel3.trans (hb4.mono hbel3.size)
      have HP4 := Lib.hid (HP3.out.below hb4 HP3.out.2.1.2 hb4.size)
      clear hb4
      go_wp2_with fail
      refine (slhas true k HP4.out (by rw [Int.toNat_natCast, HK3.out, Bool.not_false, Bool.and_true]; exact decide_eq_true (by omega))).mono ?_
      rintro e w' ⟨rfl, rfl⟩
      go_wp2
      go_ret
      exact ⟨rfl, hbel4⟩
end Go.Proofs.YtgjahmdfkbdcpaaDoor
