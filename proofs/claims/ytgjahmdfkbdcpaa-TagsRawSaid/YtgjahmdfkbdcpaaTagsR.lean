/- The walk of TagsRaw. -/
import Derived.Test.YtgjahmdfkbdcpaaTagsA
namespace Go.Proofs.Ytgjahmdfkbdcpaa
open Go.RowKit
set_option linter.unusedVariables false
set_option linter.unusedSimpArgs false


theorem cnt_same (W : World) : (Op.equalIn 10000 28 (.agg cntZ) (.agg cntZ)).run Try.prog W = .ok true W := by kernel_rfl
set_option maxRecDepth 8000 in
set_option maxHeartbeats 4000000 in
theorem walkTagsRaw (a0 : Int) (a1 : Int) (a2 : Int) (w : World) (w0 : (Lit.int .i64 a0).wf = true) (w1 : (Lit.int .i64 a1).wf = true) (w2 : (Lit.int .i64 a2).wf = true) :
    Calls Try.prog 4 #[.int .i64 a0, .int .i64 a1, .int .i64 a2] w fun e w' => e = .returned (.bool true) ∧ Below w.heap.size w w' := by
  have heq := cnt_same
  unfold cntZ at heq
  obtain ⟨b1, b2⟩ := bounds_i64 w0
  obtain ⟨b3, b4⟩ := bounds_i64 w1
  obtain ⟨b5, b6⟩ := bounds_i64 w2
  by_cases hyes : thereT a0 a1 ∧ 0 ≤ a2 ∧ a2 ≤ 15
  · obtain ⟨ht, v0, v1⟩ := hyes
    have h4 : 0 ≤ a0 ∧ a0 < 16384 ∧ 1 ≤ a1 ∧ a1 ≤ 16384 - a0 := ht
    obtain ⟨h1, h2, h3, h4⟩ := h4
    obtain ⟨G, rfl⟩ : ∃ G : Nat, a0 = G := ⟨a0.toNat, by omega⟩
    obtain ⟨N, rfl⟩ : ∃ N : Nat, a1 = N := ⟨a1.toNat, by omega⟩
    obtain ⟨V, rfl⟩ : ∃ V : Nat, a2 = V := ⟨a2.toNat, by omega⟩
    have HGN : Hid (G + N ≤ 16384 ∧ 1 ≤ N ∧ V < 16) := Lib.hid (by omega)
    clear ht
    go_enter Try.func4, Try.ntmps4
    go_wp2_with fail
    refine (tnew_any _).mono ?_
    rintro e v1 ⟨rfl, ht1, hb1⟩
    have HT1 := Lib.hid ht1; clear ht1
    go_wp2_with fail
    refine (tset_yes w.heap.size G N V _ _ HT1.out HGN.out.1 HGN.out.2.1 HGN.out.2.2).mono ?_
    rintro e v2 ⟨rfl, ht2, hb2, _, _⟩
    have HT2 := Lib.hid ht2
    have hbel2 : Below w.heap.size w v2 := hb1.trans hb2
    clear ht2 hb1 hb2 HT1
    go_wp2_with fail
    refine (t06awake_any _).mono ?_
    rintro e v3 ⟨rfl, hb3⟩
    have hbel3 := hbel2.trans (hb3.mono hbel2.size)
    have HT3 := Lib.hid (HT2.out.below hb3)
    clear hb3 HT2
    go_wp2_with fail
    refine (tget_in _ G (G / 2) _ _ HT3.out (by omega) (by omega)).mono ?_
    rintro e v4 ⟨rfl, q4, hw4⟩
    have hG : setF (fun _ => 0) G N V G = V := by unfold setF; rw [if_pos (by have := HGN.out; omega)]
    rw [hG]
    have HT4 : Hid (TagIs w.heap.size v4 (setF (fun _ => 0) G N V)) := Lib.hid (by rw [hw4]; exact HT3.out)
    have hbel4 : Below w.heap.size w v4 := by rw [hw4]; exact below_drewN hbel3 q4
    clear hw4 HT3 hG
    go_wp2_with fail
    refine (tall_in _ G N V _ _ HT4.out HGN.out.1 HGN.out.2.1).mono ?_
    rintro e v5 ⟨rfl, q5, hw5⟩
    rw [allR_same N]
    have hbel5 : Below w.heap.size w v5 := by rw [hw5]; exact below_drewN hbel4 q5
    clear hw5 HT4
    go_wp2_with fail
    refine (ntget _).mono ?_
    rintro e w' ⟨rfl, rfl⟩
    go_wp2_with fail
    refine (ntset _).mono ?_
    rintro e w' ⟨rfl, rfl⟩
    go_wp2_with fail
    refine (ntall _).mono ?_
    rintro e w' ⟨rfl, rfl⟩
    go_wp2_with fail
    refine (ntcount _).mono ?_
    rintro e v6 ⟨rfl, hb6⟩
    have hbel6 := hbel5.trans (hb6.mono hbel5.size)
    unfold cntZ
    go_wp2_with fail
    refine (tall_no w.heap.size (G : Int) 0 0 _ (by unfold thereT; omega)).mono ?_
    rintro e w' ⟨rfl, rfl⟩
    go_wp2
    go_ret
    exact ⟨rfl, hbel6⟩
  · have hc : (0 ≤ a0 ∧ a0 < 16384 ∧ ((decide (1 ≤ a1) = false) ∨ (1 ≤ a1 ∧ decide (a1 ≤ 16384 - a0) = false) ∨ (1 ≤ a1 ∧ a1 ≤ 16384 - a0 ∧ decide (0 ≤ a2) = false) ∨ (1 ≤ a1 ∧ a1 ≤ 16384 - a0 ∧ 0 ≤ a2 ∧ decide (a2 ≤ 15) = false))) ∨ decide (0 ≤ a0) = false ∨ (0 ≤ a0 ∧ decide (a0 < 16384) = false) := by
      unfold thereT at hyes
      simp only [decide_eq_false_iff_not]
      omega
    have HN := Lib.hid hyes
    clear hyes
    rcases hc with ⟨h1, h2, hc⟩ | hc
    · obtain ⟨G, rfl⟩ : ∃ G : Nat, a0 = G := ⟨a0.toNat, by omega⟩
      have HG2 : Hid (G < 16384) := Lib.hid (by omega)
      rcases hc with h3 | ⟨h3, h4⟩ | ⟨h3, h4, h5⟩ | ⟨h3, h4, h5, h6⟩
      all_goals
        go_enter Try.func4, Try.ntmps4
        go_wp2_with fail
        refine (tnew_any _).mono ?_
        rintro e v1 ⟨rfl, ht1, hbel2⟩
        have HT2 := Lib.hid ht1; clear ht1
        go_wp2_with fail
        refine (tset_no w.heap.size G a1 a2 _ HN.out).mono ?_
        rintro e w' ⟨rfl, rfl⟩
        go_wp2_with fail
        refine (t06awake_any _).mono ?_
        rintro e v3 ⟨rfl, hb3⟩
        have hbel3 := hbel2.trans (hb3.mono hbel2.size)
        have HT3 := Lib.hid (HT2.out.below hb3)
        clear hb3 HT2
        go_wp2_with fail
        refine (tget_in _ G (G / 2) _ _ HT3.out HG2.out (by omega)).mono ?_
        rintro e v4 ⟨rfl, q4, hw4⟩
        have hbel5 : Below w.heap.size w v4 := by rw [hw4]; exact below_drewN hbel3 q4
        clear hw4 HT3
        go_wp2_with fail
        refine (ntget _).mono ?_
        rintro e w' ⟨rfl, rfl⟩
        go_wp2_with fail
        refine (ntset _).mono ?_
        rintro e w' ⟨rfl, rfl⟩
        go_wp2_with fail
        refine (ntall _).mono ?_
        rintro e w' ⟨rfl, rfl⟩
        go_wp2_with fail
        refine (ntcount _).mono ?_
        rintro e v6 ⟨rfl, hb6⟩
        have hbel6 := hbel5.trans (hb6.mono hbel5.size)
        unfold cntZ
        go_wp2_with fail
        refine (tall_no w.heap.size (G : Int) 0 0 _ (by unfold thereT; omega)).mono ?_
        rintro e w' ⟨rfl, rfl⟩
        go_wp2
        go_ret
        exact ⟨rfl, hbel6⟩
    · have HO : Hid (¬ (0 ≤ a0 ∧ a0 < 16384)) := Lib.hid (by simp only [decide_eq_false_iff_not] at hc; omega)
      rcases hc with h1 | ⟨h1, h2⟩
      all_goals
        go_enter Try.func4, Try.ntmps4
        go_wp2_with fail
        refine (tnew_any _).mono ?_
        rintro e v1 ⟨rfl, ht1, hbel2⟩
        clear ht1
        go_wp2_with fail
        refine (tset_no w.heap.size a0 a1 a2 _ HN.out).mono ?_
        rintro e w' ⟨rfl, rfl⟩
        go_wp2_with fail
        refine (t06awake_any _).mono ?_
        rintro e v3 ⟨rfl, hb3⟩
        have hbel5 := hbel2.trans (hb3.mono hbel2.size)
        clear hb3
        go_wp2_with fail
        refine (tget_out _ a0 _ HO.out).mono ?_
        rintro e w' ⟨rfl, rfl⟩
        go_wp2_with fail
        refine (ntget _).mono ?_
        rintro e w' ⟨rfl, rfl⟩
        go_wp2_with fail
        refine (ntset _).mono ?_
        rintro e w' ⟨rfl, rfl⟩
        go_wp2_with fail
        refine (ntall _).mono ?_
        rintro e w' ⟨rfl, rfl⟩
        go_wp2_with fail
        refine (ntcount _).mono ?_
        rintro e v6 ⟨rfl, hb6⟩
        have hbel6 := hbel5.trans (hb6.mono hbel5.size)
        unfold cntZ
        go_wp2_with fail
        refine (tall_no w.heap.size a0 0 0 _ (by unfold thereT; omega)).mono ?_
        rintro e w' ⟨rfl, rfl⟩
        go_wp2
        go_ret
        exact ⟨rfl, hbel6⟩
end Go.Proofs.Ytgjahmdfkbdcpaa
