/- The walk of QuarPlays. -/
import Derived.Test.YtohamecjiidjdaaQuV
import Derived.Deep.RegionHeld3
namespace Go.Proofs.Ytohamecjiidjdaa
open Go.RowKit
set_option linter.unusedVariables false
set_option linter.unusedSimpArgs false

set_option maxRecDepth 100000 in
set_option maxHeartbeats 40000000 in
theorem walkQuarPlays (a1 : Option Addr) (len1 cap1 : Nat) (z1 : List Int) (w : World) (w1 : IsRecs 2 w a1 len1 cap1 z1) :
    Calls Try.prog 3 #[.slice a1 len1 cap1] w fun e w' => e = .returned (.bool true) ∧ Below w.heap.size w w' := by
  have HR := Lib.hid (w1.recs (by decide))
  clear w1
  obtain ⟨n1, hn1, hn2, hn3⟩ : ∃ n : Nat, n ≤ len1 ∧ n ≤ 60 ∧ (n < len1 → n = 60) := ⟨min len1 60, by omega, by omega, by omega⟩
  obtain ⟨B0, hB0⟩ : ∃ B0, w.heap.size = B0 := ⟨_, rfl⟩
  go_enter Try.func3, Try.ntmps3
  go_upto_region 2 with (fail)
  obtain ⟨g, hg⟩ : ∃ g, B0 = g := ⟨_, rfl⟩
  obtain ⟨W3, hW3⟩ : ∃ W3, ((w.alloc (.cells #[.slice none 0 0] 26)).alloc (.cells #[] 33)).alloc (.cells #[.int .i64 0, .bool false] 28) = W3 := ⟨_, rfl⟩
  have HN : Hid (QV B0 g (g + 3) (g + 1) (g + 2) w W3 (.slice (some ⟨g + 1, 0, none⟩) 0 0) [] [] 0 false) := Lib.hid (by
    have hs0 : w.heap.size = g := by omega
    have hm := vz_made 5 (w.alloc (.cells #[.slice none 0 0] 26)) 33
    have hs9 : (w.alloc (.cells #[.slice none 0 0] 26)).heap.size = g + 1 := by simp; omega
    rw [hs9] at hm
    have hb := alc (alc (alc0 w (.cells #[.slice none 0 0] 26)) (.cells #[] 33)) (.cells #[.int .i64 0, .bool false] 28)
    have hq : QuB g (g + 3) (w.alloc (.cells #[.slice none 0 0] 26)) [] := by
      rw [← hs0]
      exact ⟨by simp, by omega, fun o => by simp, .slice none 0 0, by simp, vz_nil _ _ _⟩
    have hs10 : ((w.alloc (.cells #[.slice none 0 0] 26)).alloc (.cells #[] 33)).heap.size = g + 2 := by simp; omega
    have he : EpIs (g + 2) W3 0 false := by
      have := EpIs.new ((w.alloc (.cells #[.slice none 0 0] 26)).alloc (.cells #[] 33)) 0 false 28
      rw [hs10] at this
      rw [← hW3]
      exact this
    rw [← hW3] at he ⊢
    refine ⟨(hq.below (alc0 _ _)).below (alc0 _ _), VZ.below hm (alc0 _ _), by simp, he, ⟨by omega, by omega, ?_, by omega, by omega, by omega⟩, ⟨by omega, by omega, by omega, by omega, ?_⟩, by rw [← hB0]; exact hb⟩
    · simp; omega
    · simp; omega)
  obtain ⟨G, hG⟩ : ∃ G, B0 + 1 + 1 = G := ⟨_, rfl⟩
  have hG2 : g + 2 = G := by omega
  rw [hG2] at HN
  rw [hW3, hG, hg]
  clear hW3
  go_wp2_with fail
  go_loopw [4, 6] (fun v4 v6 wr => ∃ (i : Nat) (ms : List It) (b bm : Nat) (N : Int) (on : Bool), i ≤ n1 ∧ v6 = .int .i64 i ∧ Hid (QV B0 g b bm G w wr v4 ms ms N on) ∧ Hid (QB i ms N)) (fun _ v6 _ => n1 - (intOf v6).toNat)
  case atStart => exact ⟨0, [], g + 3, g + 1, 0, false, by omega, rfl, HN, Lib.hid ⟨by simp, by omega, by omega, by omega, by simp⟩⟩
  case round =>
    clear HN hg hG hG2
    obtain ⟨i, ms, b, bm, N, on, hi, rfl, HN, HB⟩ := hrel
    obtain ⟨A4, c4, rfl, _⟩ := HN.out.2.1
    by_cases hlt : i < n1
    · obtain ⟨_, hbd, h0 | ⟨bb, off, rfl, hbb, _, hc⟩⟩ := HR.out
      · omega
      · have hbelW := HN.out.2.2.2.2.2.2
        have hbb2 : bb < B0 := by omega
        have r0 := (hbelW.cell (p := ⟨bb, off + i * 2, none⟩) hbb2).trans (hc (i * 2) (by omega))
        have HRC : Hid (∀ W', Below B0 w W' → W'.cell? ⟨bb, off + i * 2 + 1, none⟩ = some (.int .i64 (z1.getD (i * 2 + 1) 0))) := Lib.hid (fun W' h => by rw [Nat.add_assoc]; exact (h.cell (p := ⟨bb, off + (i * 2 + 1), none⟩) hbb2).trans (hc (i * 2 + 1) (by omega)))
        clear hc hbd hbelW
        generalize z1.getD (i * 2) 0 = A0 at *
        generalize z1.getD (i * 2 + 1) 0 = A1 at *
        have f0 := and7 A0
        have s0 : 0 ≤ A0 % 8 := Int.emod_nonneg _ (by decide)
        have s1 : A0 % 8 < 8 := Int.emod_lt_of_pos _ (by decide)
        generalize A0 % 8 = T at *
        have t1 : (i : Int) < len1 := by omega
        have t2 : (i : Int) < 60 := by omega
        go_upto_region 5 with (fail)
        go_cut [36] (fun v36 wx => v36 = .int .i64 T ∧ wr = wx)
        case first =>
          go_wp2_with fail
          go_meet
          exact ⟨by go_num, rfl⟩
        case rest =>
          obtain ⟨rfl, rfl⟩ := hcut
          clear f0 r0
          go_step
          go_cut [4] (fun v4 wx => ∃ (ms : List It) (b bm : Nat) (N : Int) (on : Bool), Hid (QV B0 g b bm G w wx v4 ms ms N on) ∧ Hid (QB (i + 1) ms N))
          case first =>
            go_step
            go_step
            rcases (show T = 4 ∨ T = 5 ∨ T = 6 ∨ (¬ T = 4 ∧ ¬ T = 5 ∧ ¬ T = 6) by omega) with rfl | rfl | rfl | ⟨T4, T5, T6⟩
            · skip
              as_aux_lemma =>
                have hi60 := HB.out.2.2.2.1
                have hml : ms.length ≤ 60 := by have := HB.out.1; omega
                have hN := HB.out.2.1
                have hN2 := HB.out.2.2.1
                obtain ⟨T, hT⟩ : ∃ T, tk ms N on = T := ⟨_, rfl⟩
                have hTl := tk_le ms N on
                rw [hT] at hTl
                have HT := Lib.hid hT
                clear hT
                go_wp2_with fail
                have HS0 : Hid (QV B0 g b bm G w (wr.alloc (.cells #[] 33)) (.slice A4 ms.length c4) ms ms N on) := Lib.hid (HN.out.below (alc0 _ _))
                have HW0 : Hid (VI wr.heap.size (wr.alloc (.cells #[] 33)) (.slice (some ⟨wr.heap.size, 0, none⟩) 0 0) []) := Lib.hid (vz_made 5 wr _)
                have hB4 := HN.out.2.2.2.2.2.1.2.2.2.2
                have hw0 : (ms ≠ [] → wr.heap.size ≠ b) ∧ wr.heap.size ≠ g ∧ wr.heap.size ≠ bm ∧ wr.heap.size ≠ G := by
                  have h1 := HN.out.1.1
                  have h2 := HN.out.2.2.2.2.1.2.2.1
                  have h3 := HN.out.2.2.2.1.2.2.2.2
                  refine ⟨fun hne => ?_, by omega, by omega, by omega⟩
                  rcases HN.out.1.free with h | ⟨h, _⟩
                  · omega
                  · exact absurd h hne
                have HD0 : Hid ((ms ≠ [] → wr.heap.size ≠ b) ∧ wr.heap.size ≠ g ∧ wr.heap.size ≠ bm ∧ wr.heap.size ≠ G) := Lib.hid hw0
                clear HN hw0
                go_loopw [4, 7] (fun v4 v7 wx => ∃ (j bw : Nat), j ≤ T ∧ Hid (QV B0 g b bm G w wx v4 (ms.drop j) ms N on) ∧ Hid (VI bw wx v7 (ms.take j)) ∧ v7 ≠ .slice none 0 0 ∧ B0 ≤ bw ∧ Hid ((ms ≠ [] → bw ≠ b) ∧ bw ≠ g ∧ bw ≠ bm ∧ bw ≠ G)) (fun v4 _ _ => lenV v4)
                case atStart => exact ⟨0, _, by omega, HS0, HW0, by simp, hB4, HD0⟩
                case round =>
                  clear HS0 HW0 HD0 hB4
                  obtain ⟨j, bw, hj, HS, HW, hvn, hBw, HD⟩ := hrel
                  obtain ⟨A5, c5, rfl, _⟩ := HS.out.2.1
                  obtain ⟨A7, c7, rfl, _⟩ := HW.out
                  have hl4 : (ms.drop j).length = ms.length - j := List.length_drop
                  have hl7 : (ms.take j).length = j := by rw [List.length_take]; omega
                  obtain ⟨L5, hL5⟩ : ∃ L, ms.length - j = L := ⟨_, rfl⟩
                  rw [hl4, hL5] at HS ⊢
                  rw [hl7] at HW hvn ⊢
                  have HL5 := Lib.hid hL5
                  clear hl4 hl7
                  obtain ⟨c0, c1, p0, p1, hG⟩ := HS.out.2.2.2.1
                  go_upto_region 16 with (fail)
                  go_cut [128] from 102 to 136 (fun v128 wx => ∃ X : Bool, v128 = .bool X ∧ Hid (X = decide (j < T)) ∧ Hid (Below wr.heap.size wr wx))
                  case first =>
                    as_aux_lemma =>
                      rcases tk_ways ms N on j T HT.out hj with ⟨e1, e2⟩ | ⟨p, hp, hway⟩
                      · have hL0 : L5 = 0 := by have := HL5.out; omega
                        have hL1 : ¬ (0 : Int) < L5 := by omega
                        have hd0 : decide ((0 : Int) < L5) = false := decide_eq_false hL1
                        have hdn : decide (0 < L5) = false := decide_eq_false (by omega)
                        have HTJ := Lib.hid e2
                        clear e1 e2 HL5 hL0
                        refine wp_region_held_drew (S := fun w' => w'.cell? ⟨G, 0, none⟩ = some (.int .i64 N) ∧ w'.cell? ⟨G, 1, none⟩ = some (.bool on)) (by kernel_rfl) ?_ (fun hHeld => ?_)
                        · exact ⟨c0, c1⟩
                        refine wpAnyH_take (i := 0) (v := ?_) rfl (by kernel_rfl) (by kernel_rfl) (by kernel_rfl) (fun _ _ _ h => h) (Or.inl ⟨by kernel_rfl, ?_⟩) (by assumption) ?_
                        rotate_left
                        · (intro w hSw; (try dsimp only at hSw); go_simp)
                          try (with_reducible rfl)
                        rotate_left
                        try simp (maxSteps := 4000000) only [Act.put, List.setIfInBounds_toArray, List.set_cons_zero, List.set_cons_succ, List.getElem_toArray, List.getElem_cons_zero, List.getElem_cons_succ]
                        refine wpAnyH_take (i := 1) (v := ?_) rfl (by kernel_rfl) (by kernel_rfl) (by kernel_rfl) (fun _ _ _ h => h) (Or.inl ⟨by kernel_rfl, ?_⟩) (by assumption) ?_
                        rotate_left
                        · (intro w hSw; (try dsimp only at hSw); go_simp)
                          try (with_reducible rfl)
                        rotate_left
                        try simp (maxSteps := 4000000) only [Act.put, List.setIfInBounds_toArray, List.set_cons_zero, List.set_cons_succ, List.getElem_toArray, List.getElem_cons_zero, List.getElem_cons_succ]
                        refine wpAnyH_take (i := 2) (v := ?_) rfl (by kernel_rfl) (by kernel_rfl) (by kernel_rfl) (fun _ _ _ h => h) (Or.inl ⟨by kernel_rfl, ?_⟩) (by assumption) ?_
                        rotate_left
                        · (intro w hSw; (try dsimp only at hSw); go_simp)
                          try (with_reducible rfl)
                        rotate_left
                        try simp (maxSteps := 4000000) only [Act.put, List.setIfInBounds_toArray, List.set_cons_zero, List.set_cons_succ, List.getElem_toArray, List.getElem_cons_zero, List.getElem_cons_succ]
                        refine wpAnyH_take (i := 3) (v := ?_) rfl (by kernel_rfl) (by kernel_rfl) (by kernel_rfl) (fun _ _ _ h => h) (Or.inl ⟨by kernel_rfl, ?_⟩) (by assumption) ?_
                        rotate_left
                        · (intro w hSw; (try dsimp only at hSw); go_simp)
                          try (with_reducible rfl)
                        rotate_left
                        try simp (maxSteps := 4000000) only [Act.put, List.setIfInBounds_toArray, List.set_cons_zero, List.set_cons_succ, List.getElem_toArray, List.getElem_cons_zero, List.getElem_cons_succ]
                        refine wpAnyH_take (i := 4) (v := undef) rfl (by kernel_rfl) (by kernel_rfl) (by kernel_rfl) (fun _ _ _ h => h) (Or.inr ⟨by kernel_rfl, rfl⟩) (by assumption) ?_
                        try simp (maxSteps := 4000000) only [Act.put, List.setIfInBounds_toArray, List.set_cons_zero, List.set_cons_succ, List.getElem_toArray, List.getElem_cons_zero, List.getElem_cons_succ]
                        refine wpAnyH_take (i := 5) (v := undef) rfl (by kernel_rfl) (by kernel_rfl) (by kernel_rfl) (fun _ _ _ h => h) (Or.inr ⟨by kernel_rfl, rfl⟩) (by assumption) ?_
                        try simp (maxSteps := 4000000) only [Act.put, List.setIfInBounds_toArray, List.set_cons_zero, List.set_cons_succ, List.getElem_toArray, List.getElem_cons_zero, List.getElem_cons_succ]
                        refine wpAnyH_take (i := 6) (v := undef) rfl (by kernel_rfl) (by kernel_rfl) (by kernel_rfl) (fun _ _ _ h => h) (Or.inr ⟨by kernel_rfl, rfl⟩) (by assumption) ?_
                        try simp (maxSteps := 4000000) only [Act.put, List.setIfInBounds_toArray, List.set_cons_zero, List.set_cons_succ, List.getElem_toArray, List.getElem_cons_zero, List.getElem_cons_succ]
                        refine wpAnyH_take (i := 7) (v := undef) rfl (by kernel_rfl) (by kernel_rfl) (by kernel_rfl) (fun _ _ _ h => h) (Or.inr ⟨by kernel_rfl, rfl⟩) (by assumption) ?_
                        try simp (maxSteps := 4000000) only [Act.put, List.setIfInBounds_toArray, List.set_cons_zero, List.set_cons_succ, List.getElem_toArray, List.getElem_cons_zero, List.getElem_cons_succ]
                        refine wpAnyH_take (i := 8) (v := undef) rfl (by kernel_rfl) (by kernel_rfl) (by kernel_rfl) (fun _ _ _ h => h) (Or.inr ⟨by kernel_rfl, rfl⟩) (by assumption) ?_
                        try simp (maxSteps := 4000000) only [Act.put, List.setIfInBounds_toArray, List.set_cons_zero, List.set_cons_succ, List.getElem_toArray, List.getElem_cons_zero, List.getElem_cons_succ]
                        refine wpAnyH_take (i := 9) (v := undef) rfl (by kernel_rfl) (by kernel_rfl) (by kernel_rfl) (fun _ _ _ h => h) (Or.inr ⟨by kernel_rfl, rfl⟩) (by assumption) ?_
                        try simp (maxSteps := 4000000) only [Act.put, List.setIfInBounds_toArray, List.set_cons_zero, List.set_cons_succ, List.getElem_toArray, List.getElem_cons_zero, List.getElem_cons_succ]
                        refine wpAnyH_take (i := 10) (v := ?_) rfl (by kernel_rfl) (by kernel_rfl) (by kernel_rfl) (fun _ _ _ h => h) (Or.inl ⟨by kernel_rfl, ?_⟩) (by assumption) ?_
                        rotate_left
                        · (intro w hSw; (try dsimp only at hSw); go_simp)
                          try (with_reducible rfl)
                        rotate_left
                        try simp (maxSteps := 4000000) only [Act.put, List.setIfInBounds_toArray, List.set_cons_zero, List.set_cons_succ, List.getElem_toArray, List.getElem_cons_zero, List.getElem_cons_succ]
                        refine wpAnyH_take (i := 11) (v := ?_) rfl (by kernel_rfl) (by kernel_rfl) (by kernel_rfl) (fun _ _ _ h => h) (Or.inl ⟨by kernel_rfl, ?_⟩) (by assumption) ?_
                        rotate_left
                        · (intro w hSw; (try dsimp only at hSw); go_simp)
                          try (with_reducible rfl)
                        rotate_left
                        try simp (maxSteps := 4000000) only [Act.put, List.setIfInBounds_toArray, List.set_cons_zero, List.set_cons_succ, List.getElem_toArray, List.getElem_cons_zero, List.getElem_cons_succ]
                        refine wpAnyH_take (i := 12) (v := undef) rfl (by kernel_rfl) (by kernel_rfl) (by kernel_rfl) (fun _ _ _ h => h) (Or.inr ⟨by kernel_rfl, rfl⟩) (by assumption) ?_
                        try simp (maxSteps := 4000000) only [Act.put, List.setIfInBounds_toArray, List.set_cons_zero, List.set_cons_succ, List.getElem_toArray, List.getElem_cons_zero, List.getElem_cons_succ]
                        refine wpAnyH_take (i := 13) (v := undef) rfl (by kernel_rfl) (by kernel_rfl) (by kernel_rfl) (fun _ _ _ h => h) (Or.inr ⟨by kernel_rfl, rfl⟩) (by assumption) ?_
                        try simp (maxSteps := 4000000) only [Act.put, List.setIfInBounds_toArray, List.set_cons_zero, List.set_cons_succ, List.getElem_toArray, List.getElem_cons_zero, List.getElem_cons_succ]
                        refine wpAnyH_take (i := 14) (v := undef) rfl (by kernel_rfl) (by kernel_rfl) (by kernel_rfl) (fun _ _ _ h => h) (Or.inr ⟨by kernel_rfl, rfl⟩) (by assumption) ?_
                        try simp (maxSteps := 4000000) only [Act.put, List.setIfInBounds_toArray, List.set_cons_zero, List.set_cons_succ, List.getElem_toArray, List.getElem_cons_zero, List.getElem_cons_succ]
                        refine wpAnyH_take (i := 15) (v := undef) rfl (by kernel_rfl) (by kernel_rfl) (by kernel_rfl) (fun _ _ _ h => h) (Or.inr ⟨by kernel_rfl, rfl⟩) (by assumption) ?_
                        try simp (maxSteps := 4000000) only [Act.put, List.setIfInBounds_toArray, List.set_cons_zero, List.set_cons_succ, List.getElem_toArray, List.getElem_cons_zero, List.getElem_cons_succ]
                        refine wpAnyH_take (i := 16) (v := undef) rfl (by kernel_rfl) (by kernel_rfl) (by kernel_rfl) (fun _ _ _ h => h) (Or.inr ⟨by kernel_rfl, rfl⟩) (by assumption) ?_
                        try simp (maxSteps := 4000000) only [Act.put, List.setIfInBounds_toArray, List.set_cons_zero, List.set_cons_succ, List.getElem_toArray, List.getElem_cons_zero, List.getElem_cons_succ]
                        refine wpAnyH_take (i := 17) (v := undef) rfl (by kernel_rfl) (by kernel_rfl) (by kernel_rfl) (fun _ _ _ h => h) (Or.inr ⟨by kernel_rfl, rfl⟩) (by assumption) ?_
                        try simp (maxSteps := 4000000) only [Act.put, List.setIfInBounds_toArray, List.set_cons_zero, List.set_cons_succ, List.getElem_toArray, List.getElem_cons_zero, List.getElem_cons_succ]
                        refine wpAnyH_take (i := 18) (v := undef) rfl (by kernel_rfl) (by kernel_rfl) (by kernel_rfl) (fun _ _ _ h => h) (Or.inr ⟨by kernel_rfl, rfl⟩) (by assumption) ?_
                        try simp (maxSteps := 4000000) only [Act.put, List.setIfInBounds_toArray, List.set_cons_zero, List.set_cons_succ, List.getElem_toArray, List.getElem_cons_zero, List.getElem_cons_succ]
                        refine wpAnyH_take (i := 19) (v := undef) rfl (by kernel_rfl) (by kernel_rfl) (by kernel_rfl) (fun _ _ _ h => h) (Or.inr ⟨by kernel_rfl, rfl⟩) (by assumption) ?_
                        try simp (maxSteps := 4000000) only [Act.put, List.setIfInBounds_toArray, List.set_cons_zero, List.set_cons_succ, List.getElem_toArray, List.getElem_cons_zero, List.getElem_cons_succ]
                        refine wpAnyH_take (i := 20) (v := undef) rfl (by kernel_rfl) (by kernel_rfl) (by kernel_rfl) (fun _ _ _ h => h) (Or.inr ⟨by kernel_rfl, rfl⟩) (by assumption) ?_
                        try simp (maxSteps := 4000000) only [Act.put, List.setIfInBounds_toArray, List.set_cons_zero, List.set_cons_succ, List.getElem_toArray, List.getElem_cons_zero, List.getElem_cons_succ]
                        refine wpAnyH_take (i := 21) (v := undef) rfl (by kernel_rfl) (by kernel_rfl) (by kernel_rfl) (fun _ _ _ h => h) (Or.inr ⟨by kernel_rfl, rfl⟩) (by assumption) ?_
                        try simp (maxSteps := 4000000) only [Act.put, List.setIfInBounds_toArray, List.set_cons_zero, List.set_cons_succ, List.getElem_toArray, List.getElem_cons_zero, List.getElem_cons_succ]
                        refine wpAnyH_take (i := 22) (v := undef) rfl (by kernel_rfl) (by kernel_rfl) (by kernel_rfl) (fun _ _ _ h => h) (Or.inr ⟨by kernel_rfl, rfl⟩) (by assumption) ?_
                        try simp (maxSteps := 4000000) only [Act.put, List.setIfInBounds_toArray, List.set_cons_zero, List.set_cons_succ, List.getElem_toArray, List.getElem_cons_zero, List.getElem_cons_succ]
                        refine wpAnyH_take (i := 23) (v := undef) rfl (by kernel_rfl) (by kernel_rfl) (by kernel_rfl) (fun _ _ _ h => h) (Or.inr ⟨by kernel_rfl, rfl⟩) (by assumption) ?_
                        try simp (maxSteps := 4000000) only [Act.put, List.setIfInBounds_toArray, List.set_cons_zero, List.set_cons_succ, List.getElem_toArray, List.getElem_cons_zero, List.getElem_cons_succ]
                        refine wpAnyH_take (i := 24) (v := undef) rfl (by kernel_rfl) (by kernel_rfl) (by kernel_rfl) (fun _ _ _ h => h) (Or.inr ⟨by kernel_rfl, rfl⟩) (by assumption) ?_
                        try simp (maxSteps := 4000000) only [Act.put, List.setIfInBounds_toArray, List.set_cons_zero, List.set_cons_succ, List.getElem_toArray, List.getElem_cons_zero, List.getElem_cons_succ]
                        refine wpAnyH_take (i := 25) (v := undef) rfl (by kernel_rfl) (by kernel_rfl) (by kernel_rfl) (fun _ _ _ h => h) (Or.inr ⟨by kernel_rfl, rfl⟩) (by assumption) ?_
                        try simp (maxSteps := 4000000) only [Act.put, List.setIfInBounds_toArray, List.set_cons_zero, List.set_cons_succ, List.getElem_toArray, List.getElem_cons_zero, List.getElem_cons_succ]
                        refine wpAnyH_take (i := 26) (v := ?_) rfl (by kernel_rfl) (by kernel_rfl) (by kernel_rfl) (fun _ _ _ h => h) (Or.inl ⟨by kernel_rfl, ?_⟩) (by assumption) ?_
                        rotate_left
                        · (intro w hSw; (try dsimp only at hSw); go_simp)
                          try (with_reducible rfl)
                        rotate_left
                        try simp (maxSteps := 4000000) only [Act.put, List.setIfInBounds_toArray, List.set_cons_zero, List.set_cons_succ, List.getElem_toArray, List.getElem_cons_zero, List.getElem_cons_succ]
                        refine wpAnyH_done (by kernel_rfl) ?_ _
                        go_wp2_with fail
                        go_meet
                        exact ⟨false, rfl, Lib.hid (by have := HTJ.out; simp; omega), Lib.hid (by first | exact below_drewN (Below.refl _ wr) _ | exact Below.refl _ wr)⟩
                      · skip
                        rcases vi_open HS.out.2.1 with ⟨_, e⟩ | ⟨off5, c5', e5, m7, m8, m9, m10⟩
                        · exfalso
                          have h9 := congrArg List.length e
                          rw [List.length_drop] at h9
                          have := (List.getElem?_eq_some_iff.1 hp).1
                          simp only [List.length_nil] at h9
                          omega
                        · have hp0 : (ms.drop j)[0]? = some p := by rw [List.getElem?_drop]; exact hp
                          obtain ⟨_, _, _, _, r4⟩ := m10 0 p hp0
                          injection e5 with e1 e2 e3
                          subst e1; subst e3
                          simp only [Nat.zero_mul, Nat.add_zero] at r4
                          have hjl := (List.getElem?_eq_some_iff.1 hp).1
                          have hL1 : (0 : Int) < L5 := by have := HL5.out; omega
                          have hLn : 0 < L5 := by omega
                          have hd0 : decide ((0 : Int) < L5) = true := decide_eq_true hL1
                          have hdn : decide (0 < L5) = true := decide_eq_true hLn
                          have zG := World.block_lt_of_cell? _ _ c0
                          have zM := World.block_lt_of_cell? _ _ r4
                          clear m10 m7 m8 m9 e2 hp0 hp
                          rcases hway with ⟨d1, e2⟩ | ⟨d1, ⟨e1, e2⟩ | ⟨e1, q, hq, hway⟩⟩
                          · have HTJ := Lib.hid e2
                            clear e2
                            refine wp_region_held_drew (S := fun w' => w'.cell? ⟨G, 0, none⟩ = some (.int .i64 N) ∧ w'.cell? ⟨G, 1, none⟩ = some (.bool on) ∧ w'.cell? ⟨bm, off5 + 4, none⟩ = some (.int .i64 p.ep)) (by kernel_rfl) ?_ (fun hHeld => ?_)
                            · exact ⟨c0, c1, r4⟩
                            refine wpAnyH_take (i := 0) (v := ?_) rfl (by kernel_rfl) (by kernel_rfl) (by kernel_rfl) (fun _ _ _ h => h) (Or.inl ⟨by kernel_rfl, ?_⟩) (by assumption) ?_
                            rotate_left
                            · (intro w hSw; (try dsimp only at hSw); go_simp)
                              try (with_reducible rfl)
                            rotate_left
                            try simp (maxSteps := 4000000) only [Act.put, List.setIfInBounds_toArray, List.set_cons_zero, List.set_cons_succ, List.getElem_toArray, List.getElem_cons_zero, List.getElem_cons_succ]
                            refine wpAnyH_take (i := 1) (v := ?_) rfl (by kernel_rfl) (by kernel_rfl) (by kernel_rfl) (fun _ _ _ h => h) (Or.inl ⟨by kernel_rfl, ?_⟩) (by assumption) ?_
                            rotate_left
                            · (intro w hSw; (try dsimp only at hSw); go_simp)
                              try (with_reducible rfl)
                            rotate_left
                            try simp (maxSteps := 4000000) only [Act.put, List.setIfInBounds_toArray, List.set_cons_zero, List.set_cons_succ, List.getElem_toArray, List.getElem_cons_zero, List.getElem_cons_succ]
                            refine wpAnyH_take (i := 2) (v := ?_) rfl (by kernel_rfl) (by kernel_rfl) (by kernel_rfl) (fun _ _ _ h => h) (Or.inl ⟨by kernel_rfl, ?_⟩) (by assumption) ?_
                            rotate_left
                            · (intro w hSw; (try dsimp only at hSw); go_simp)
                              try (with_reducible rfl)
                            rotate_left
                            try simp (maxSteps := 4000000) only [Act.put, List.setIfInBounds_toArray, List.set_cons_zero, List.set_cons_succ, List.getElem_toArray, List.getElem_cons_zero, List.getElem_cons_succ]
                            refine wpAnyH_take (i := 3) (v := ?_) rfl (by kernel_rfl) (by kernel_rfl) (by kernel_rfl) (fun _ _ _ h => h) (Or.inl ⟨by kernel_rfl, ?_⟩) (by assumption) ?_
                            rotate_left
                            · (intro w hSw; (try dsimp only at hSw); go_simp)
                              try (with_reducible rfl)
                            rotate_left
                            try simp (maxSteps := 4000000) only [Act.put, List.setIfInBounds_toArray, List.set_cons_zero, List.set_cons_succ, List.getElem_toArray, List.getElem_cons_zero, List.getElem_cons_succ]
                            refine wpAnyH_take (i := 4) (v := ?_) rfl (by kernel_rfl) (by kernel_rfl) (by kernel_rfl) (fun _ _ _ h => h) (Or.inl ⟨by kernel_rfl, ?_⟩) (by assumption) ?_
                            rotate_left
                            · (intro w hSw; (try dsimp only at hSw); go_simp)
                              try (with_reducible rfl)
                            rotate_left
                            try simp (maxSteps := 4000000) only [Act.put, List.setIfInBounds_toArray, List.set_cons_zero, List.set_cons_succ, List.getElem_toArray, List.getElem_cons_zero, List.getElem_cons_succ]
                            refine wpAnyH_take (i := 5) (v := ?_) rfl (by kernel_rfl) (by kernel_rfl) (by kernel_rfl) (fun _ _ _ h => h) (Or.inl ⟨by kernel_rfl, ?_⟩) (by assumption) ?_
                            rotate_left
                            · (intro w hSw; (try dsimp only at hSw); go_simp)
                              try (with_reducible rfl)
                            rotate_left
                            try simp (maxSteps := 4000000) only [Act.put, List.setIfInBounds_toArray, List.set_cons_zero, List.set_cons_succ, List.getElem_toArray, List.getElem_cons_zero, List.getElem_cons_succ]
                            refine wpAnyH_take (i := 6) (v := ?_) rfl (by kernel_rfl) (by kernel_rfl) (by kernel_rfl) (fun _ _ _ h => h) (Or.inl ⟨by kernel_rfl, ?_⟩) (by assumption) ?_
                            rotate_left
                            · (intro w hSw; (try dsimp only at hSw); go_simp)
                              try (with_reducible rfl)
                            rotate_left
                            try simp (maxSteps := 4000000) only [Act.put, List.setIfInBounds_toArray, List.set_cons_zero, List.set_cons_succ, List.getElem_toArray, List.getElem_cons_zero, List.getElem_cons_succ]
                            refine wpAnyH_take (i := 7) (v := ?_) rfl (by kernel_rfl) (by kernel_rfl) (by kernel_rfl) (fun _ _ _ h => h) (Or.inl ⟨by kernel_rfl, ?_⟩) (by assumption) ?_
                            rotate_left
                            · (intro w hSw; (try dsimp only at hSw); go_simp)
                              try (with_reducible rfl)
                            rotate_left
                            try simp (maxSteps := 4000000) only [Act.put, List.setIfInBounds_toArray, List.set_cons_zero, List.set_cons_succ, List.getElem_toArray, List.getElem_cons_zero, List.getElem_cons_succ]
                            refine wpAnyH_take (i := 8) (v := ?_) rfl (by kernel_rfl) (by kernel_rfl) (by kernel_rfl) (fun _ _ _ h => h) (Or.inl ⟨by kernel_rfl, ?_⟩) (by assumption) ?_
                            rotate_left
                            · (intro w hSw; (try dsimp only at hSw); go_simp)
                              try (with_reducible rfl)
                            rotate_left
                            try simp (maxSteps := 4000000) only [Act.put, List.setIfInBounds_toArray, List.set_cons_zero, List.set_cons_succ, List.getElem_toArray, List.getElem_cons_zero, List.getElem_cons_succ]
                            refine wpAnyH_ready (rs := [9]) (by kernel_rfl) (by simp) ?_
                            refine AllReadyH.cons rfl (fun K2 hK2 => ?_) AllReadyH.nil
                            go_simp
                            refine (epast_is false N on p.ep _ hN (by omega) d1).mono ?_
                            rintro e x3 ⟨rfl, hb3⟩
                            have HW3 : Hid (Below wr.heap.size wr x3) := Lib.hid (thn (below_drewN (Below.refl _ wr) _) hb3)
                            have hs3 : (fun w' : World => w'.cell? ⟨G, 0, none⟩ = some (.int .i64 N) ∧ w'.cell? ⟨G, 1, none⟩ = some (.bool on) ∧ w'.cell? ⟨bm, off5 + 4, none⟩ = some (.int .i64 p.ep)) x3 := ⟨(hb3.cell (p := ⟨G, 0, none⟩) zG).trans c0, (hb3.cell (p := ⟨G, 1, none⟩) zG).trans c1, (hb3.cell (p := ⟨bm, off5 + 4, none⟩) zM).trans r4⟩
                            clear hb3
                            refine hK2.out _ _ hs3 (fun hHeld2 => ?_)
                            clear hK2 K2 hHeld
                            have hHeld := hHeld2
                            clear hHeld2 hs3
                            try simp (maxSteps := 4000000) only [Act.put, List.setIfInBounds_toArray, List.set_cons_zero, List.set_cons_succ]
                            refine wpAnyH_take (i := 10) (v := ?_) rfl (by kernel_rfl) (by kernel_rfl) (by kernel_rfl) (fun _ _ _ h => h) (Or.inl ⟨by kernel_rfl, ?_⟩) (by assumption) ?_
                            rotate_left
                            · (intro w hSw; (try dsimp only at hSw); go_simp)
                              try (with_reducible rfl)
                            rotate_left
                            try simp (maxSteps := 4000000) only [Act.put, List.setIfInBounds_toArray, List.set_cons_zero, List.set_cons_succ, List.getElem_toArray, List.getElem_cons_zero, List.getElem_cons_succ]
                            refine wpAnyH_take (i := 11) (v := ?_) rfl (by kernel_rfl) (by kernel_rfl) (by kernel_rfl) (fun _ _ _ h => h) (Or.inl ⟨by kernel_rfl, ?_⟩) (by assumption) ?_
                            rotate_left
                            · (intro w hSw; (try dsimp only at hSw); go_simp)
                              try (with_reducible rfl)
                            rotate_left
                            try simp (maxSteps := 4000000) only [Act.put, List.setIfInBounds_toArray, List.set_cons_zero, List.set_cons_succ, List.getElem_toArray, List.getElem_cons_zero, List.getElem_cons_succ]
                            refine wpAnyH_take (i := 12) (v := undef) rfl (by kernel_rfl) (by kernel_rfl) (by kernel_rfl) (fun _ _ _ h => h) (Or.inr ⟨by kernel_rfl, rfl⟩) (by assumption) ?_
                            try simp (maxSteps := 4000000) only [Act.put, List.setIfInBounds_toArray, List.set_cons_zero, List.set_cons_succ, List.getElem_toArray, List.getElem_cons_zero, List.getElem_cons_succ]
                            refine wpAnyH_take (i := 13) (v := undef) rfl (by kernel_rfl) (by kernel_rfl) (by kernel_rfl) (fun _ _ _ h => h) (Or.inr ⟨by kernel_rfl, rfl⟩) (by assumption) ?_
                            try simp (maxSteps := 4000000) only [Act.put, List.setIfInBounds_toArray, List.set_cons_zero, List.set_cons_succ, List.getElem_toArray, List.getElem_cons_zero, List.getElem_cons_succ]
                            refine wpAnyH_take (i := 14) (v := undef) rfl (by kernel_rfl) (by kernel_rfl) (by kernel_rfl) (fun _ _ _ h => h) (Or.inr ⟨by kernel_rfl, rfl⟩) (by assumption) ?_
                            try simp (maxSteps := 4000000) only [Act.put, List.setIfInBounds_toArray, List.set_cons_zero, List.set_cons_succ, List.getElem_toArray, List.getElem_cons_zero, List.getElem_cons_succ]
                            refine wpAnyH_take (i := 15) (v := undef) rfl (by kernel_rfl) (by kernel_rfl) (by kernel_rfl) (fun _ _ _ h => h) (Or.inr ⟨by kernel_rfl, rfl⟩) (by assumption) ?_
                            try simp (maxSteps := 4000000) only [Act.put, List.setIfInBounds_toArray, List.set_cons_zero, List.set_cons_succ, List.getElem_toArray, List.getElem_cons_zero, List.getElem_cons_succ]
                            refine wpAnyH_take (i := 16) (v := undef) rfl (by kernel_rfl) (by kernel_rfl) (by kernel_rfl) (fun _ _ _ h => h) (Or.inr ⟨by kernel_rfl, rfl⟩) (by assumption) ?_
                            try simp (maxSteps := 4000000) only [Act.put, List.setIfInBounds_toArray, List.set_cons_zero, List.set_cons_succ, List.getElem_toArray, List.getElem_cons_zero, List.getElem_cons_succ]
                            refine wpAnyH_take (i := 17) (v := undef) rfl (by kernel_rfl) (by kernel_rfl) (by kernel_rfl) (fun _ _ _ h => h) (Or.inr ⟨by kernel_rfl, rfl⟩) (by assumption) ?_
                            try simp (maxSteps := 4000000) only [Act.put, List.setIfInBounds_toArray, List.set_cons_zero, List.set_cons_succ, List.getElem_toArray, List.getElem_cons_zero, List.getElem_cons_succ]
                            refine wpAnyH_take (i := 18) (v := undef) rfl (by kernel_rfl) (by kernel_rfl) (by kernel_rfl) (fun _ _ _ h => h) (Or.inr ⟨by kernel_rfl, rfl⟩) (by assumption) ?_
                            try simp (maxSteps := 4000000) only [Act.put, List.setIfInBounds_toArray, List.set_cons_zero, List.set_cons_succ, List.getElem_toArray, List.getElem_cons_zero, List.getElem_cons_succ]
                            refine wpAnyH_take (i := 19) (v := undef) rfl (by kernel_rfl) (by kernel_rfl) (by kernel_rfl) (fun _ _ _ h => h) (Or.inr ⟨by kernel_rfl, rfl⟩) (by assumption) ?_
                            try simp (maxSteps := 4000000) only [Act.put, List.setIfInBounds_toArray, List.set_cons_zero, List.set_cons_succ, List.getElem_toArray, List.getElem_cons_zero, List.getElem_cons_succ]
                            refine wpAnyH_take (i := 20) (v := undef) rfl (by kernel_rfl) (by kernel_rfl) (by kernel_rfl) (fun _ _ _ h => h) (Or.inr ⟨by kernel_rfl, rfl⟩) (by assumption) ?_
                            try simp (maxSteps := 4000000) only [Act.put, List.setIfInBounds_toArray, List.set_cons_zero, List.set_cons_succ, List.getElem_toArray, List.getElem_cons_zero, List.getElem_cons_succ]
                            refine wpAnyH_take (i := 21) (v := undef) rfl (by kernel_rfl) (by kernel_rfl) (by kernel_rfl) (fun _ _ _ h => h) (Or.inr ⟨by kernel_rfl, rfl⟩) (by assumption) ?_
                            try simp (maxSteps := 4000000) only [Act.put, List.setIfInBounds_toArray, List.set_cons_zero, List.set_cons_succ, List.getElem_toArray, List.getElem_cons_zero, List.getElem_cons_succ]
                            refine wpAnyH_take (i := 22) (v := undef) rfl (by kernel_rfl) (by kernel_rfl) (by kernel_rfl) (fun _ _ _ h => h) (Or.inr ⟨by kernel_rfl, rfl⟩) (by assumption) ?_
                            try simp (maxSteps := 4000000) only [Act.put, List.setIfInBounds_toArray, List.set_cons_zero, List.set_cons_succ, List.getElem_toArray, List.getElem_cons_zero, List.getElem_cons_succ]
                            refine wpAnyH_take (i := 23) (v := undef) rfl (by kernel_rfl) (by kernel_rfl) (by kernel_rfl) (fun _ _ _ h => h) (Or.inr ⟨by kernel_rfl, rfl⟩) (by assumption) ?_
                            try simp (maxSteps := 4000000) only [Act.put, List.setIfInBounds_toArray, List.set_cons_zero, List.set_cons_succ, List.getElem_toArray, List.getElem_cons_zero, List.getElem_cons_succ]
                            refine wpAnyH_take (i := 24) (v := undef) rfl (by kernel_rfl) (by kernel_rfl) (by kernel_rfl) (fun _ _ _ h => h) (Or.inr ⟨by kernel_rfl, rfl⟩) (by assumption) ?_
                            try simp (maxSteps := 4000000) only [Act.put, List.setIfInBounds_toArray, List.set_cons_zero, List.set_cons_succ, List.getElem_toArray, List.getElem_cons_zero, List.getElem_cons_succ]
                            refine wpAnyH_take (i := 25) (v := undef) rfl (by kernel_rfl) (by kernel_rfl) (by kernel_rfl) (fun _ _ _ h => h) (Or.inr ⟨by kernel_rfl, rfl⟩) (by assumption) ?_
                            try simp (maxSteps := 4000000) only [Act.put, List.setIfInBounds_toArray, List.set_cons_zero, List.set_cons_succ, List.getElem_toArray, List.getElem_cons_zero, List.getElem_cons_succ]
                            refine wpAnyH_take (i := 26) (v := ?_) rfl (by kernel_rfl) (by kernel_rfl) (by kernel_rfl) (fun _ _ _ h => h) (Or.inl ⟨by kernel_rfl, ?_⟩) (by assumption) ?_
                            rotate_left
                            · (intro w hSw; (try dsimp only at hSw); go_simp)
                              try (with_reducible rfl)
                            rotate_left
                            try simp (maxSteps := 4000000) only [Act.put, List.setIfInBounds_toArray, List.set_cons_zero, List.set_cons_succ, List.getElem_toArray, List.getElem_cons_zero, List.getElem_cons_succ]
                            refine wpAnyH_done (by kernel_rfl) ?_ _
                            go_wp2_with fail
                            go_meet
                            exact ⟨false, rfl, Lib.hid (by have := HTJ.out; simp; omega), Lib.hid (by first | exact HW3.out | exact below_drewN HW3.out _)⟩
                          · subst e1
                            have HTJ := Lib.hid e2
                            clear e2
                            refine wp_region_held_drew (S := fun w' => w'.cell? ⟨G, 0, none⟩ = some (.int .i64 N) ∧ w'.cell? ⟨G, 1, none⟩ = some (.bool on) ∧ w'.cell? ⟨bm, off5 + 4, none⟩ = some (.int .i64 p.ep)) (by kernel_rfl) ?_ (fun hHeld => ?_)
                            · exact ⟨c0, c1, r4⟩
                            refine wpAnyH_take (i := 0) (v := ?_) rfl (by kernel_rfl) (by kernel_rfl) (by kernel_rfl) (fun _ _ _ h => h) (Or.inl ⟨by kernel_rfl, ?_⟩) (by assumption) ?_
                            rotate_left
                            · (intro w hSw; (try dsimp only at hSw); go_simp)
                              try (with_reducible rfl)
                            rotate_left
                            try simp (maxSteps := 4000000) only [Act.put, List.setIfInBounds_toArray, List.set_cons_zero, List.set_cons_succ, List.getElem_toArray, List.getElem_cons_zero, List.getElem_cons_succ]
                            refine wpAnyH_take (i := 1) (v := ?_) rfl (by kernel_rfl) (by kernel_rfl) (by kernel_rfl) (fun _ _ _ h => h) (Or.inl ⟨by kernel_rfl, ?_⟩) (by assumption) ?_
                            rotate_left
                            · (intro w hSw; (try dsimp only at hSw); go_simp)
                              try (with_reducible rfl)
                            rotate_left
                            try simp (maxSteps := 4000000) only [Act.put, List.setIfInBounds_toArray, List.set_cons_zero, List.set_cons_succ, List.getElem_toArray, List.getElem_cons_zero, List.getElem_cons_succ]
                            refine wpAnyH_take (i := 2) (v := ?_) rfl (by kernel_rfl) (by kernel_rfl) (by kernel_rfl) (fun _ _ _ h => h) (Or.inl ⟨by kernel_rfl, ?_⟩) (by assumption) ?_
                            rotate_left
                            · (intro w hSw; (try dsimp only at hSw); go_simp)
                              try (with_reducible rfl)
                            rotate_left
                            try simp (maxSteps := 4000000) only [Act.put, List.setIfInBounds_toArray, List.set_cons_zero, List.set_cons_succ, List.getElem_toArray, List.getElem_cons_zero, List.getElem_cons_succ]
                            refine wpAnyH_take (i := 3) (v := ?_) rfl (by kernel_rfl) (by kernel_rfl) (by kernel_rfl) (fun _ _ _ h => h) (Or.inl ⟨by kernel_rfl, ?_⟩) (by assumption) ?_
                            rotate_left
                            · (intro w hSw; (try dsimp only at hSw); go_simp)
                              try (with_reducible rfl)
                            rotate_left
                            try simp (maxSteps := 4000000) only [Act.put, List.setIfInBounds_toArray, List.set_cons_zero, List.set_cons_succ, List.getElem_toArray, List.getElem_cons_zero, List.getElem_cons_succ]
                            refine wpAnyH_take (i := 4) (v := ?_) rfl (by kernel_rfl) (by kernel_rfl) (by kernel_rfl) (fun _ _ _ h => h) (Or.inl ⟨by kernel_rfl, ?_⟩) (by assumption) ?_
                            rotate_left
                            · (intro w hSw; (try dsimp only at hSw); go_simp)
                              try (with_reducible rfl)
                            rotate_left
                            try simp (maxSteps := 4000000) only [Act.put, List.setIfInBounds_toArray, List.set_cons_zero, List.set_cons_succ, List.getElem_toArray, List.getElem_cons_zero, List.getElem_cons_succ]
                            refine wpAnyH_take (i := 5) (v := ?_) rfl (by kernel_rfl) (by kernel_rfl) (by kernel_rfl) (fun _ _ _ h => h) (Or.inl ⟨by kernel_rfl, ?_⟩) (by assumption) ?_
                            rotate_left
                            · (intro w hSw; (try dsimp only at hSw); go_simp)
                              try (with_reducible rfl)
                            rotate_left
                            try simp (maxSteps := 4000000) only [Act.put, List.setIfInBounds_toArray, List.set_cons_zero, List.set_cons_succ, List.getElem_toArray, List.getElem_cons_zero, List.getElem_cons_succ]
                            refine wpAnyH_take (i := 6) (v := ?_) rfl (by kernel_rfl) (by kernel_rfl) (by kernel_rfl) (fun _ _ _ h => h) (Or.inl ⟨by kernel_rfl, ?_⟩) (by assumption) ?_
                            rotate_left
                            · (intro w hSw; (try dsimp only at hSw); go_simp)
                              try (with_reducible rfl)
                            rotate_left
                            try simp (maxSteps := 4000000) only [Act.put, List.setIfInBounds_toArray, List.set_cons_zero, List.set_cons_succ, List.getElem_toArray, List.getElem_cons_zero, List.getElem_cons_succ]
                            refine wpAnyH_take (i := 7) (v := ?_) rfl (by kernel_rfl) (by kernel_rfl) (by kernel_rfl) (fun _ _ _ h => h) (Or.inl ⟨by kernel_rfl, ?_⟩) (by assumption) ?_
                            rotate_left
                            · (intro w hSw; (try dsimp only at hSw); go_simp)
                              try (with_reducible rfl)
                            rotate_left
                            try simp (maxSteps := 4000000) only [Act.put, List.setIfInBounds_toArray, List.set_cons_zero, List.set_cons_succ, List.getElem_toArray, List.getElem_cons_zero, List.getElem_cons_succ]
                            refine wpAnyH_take (i := 8) (v := ?_) rfl (by kernel_rfl) (by kernel_rfl) (by kernel_rfl) (fun _ _ _ h => h) (Or.inl ⟨by kernel_rfl, ?_⟩) (by assumption) ?_
                            rotate_left
                            · (intro w hSw; (try dsimp only at hSw); go_simp)
                              try (with_reducible rfl)
                            rotate_left
                            try simp (maxSteps := 4000000) only [Act.put, List.setIfInBounds_toArray, List.set_cons_zero, List.set_cons_succ, List.getElem_toArray, List.getElem_cons_zero, List.getElem_cons_succ]
                            refine wpAnyH_ready (rs := [9]) (by kernel_rfl) (by simp) ?_
                            refine AllReadyH.cons rfl (fun K2 hK2 => ?_) AllReadyH.nil
                            go_simp
                            refine (epast_is true N on p.ep _ hN (by omega) d1).mono ?_
                            rintro e x3 ⟨rfl, hb3⟩
                            have HW3 : Hid (Below wr.heap.size wr x3) := Lib.hid (thn (below_drewN (Below.refl _ wr) _) hb3)
                            have hs3 : (fun w' : World => w'.cell? ⟨G, 0, none⟩ = some (.int .i64 N) ∧ w'.cell? ⟨G, 1, none⟩ = some (.bool on) ∧ w'.cell? ⟨bm, off5 + 4, none⟩ = some (.int .i64 p.ep)) x3 := ⟨(hb3.cell (p := ⟨G, 0, none⟩) zG).trans c0, (hb3.cell (p := ⟨G, 1, none⟩) zG).trans c1, (hb3.cell (p := ⟨bm, off5 + 4, none⟩) zM).trans r4⟩
                            clear hb3
                            refine hK2.out _ _ hs3 (fun hHeld2 => ?_)
                            clear hK2 K2 hHeld
                            have hHeld := hHeld2
                            clear hHeld2 hs3
                            try simp (maxSteps := 4000000) only [Act.put, List.setIfInBounds_toArray, List.set_cons_zero, List.set_cons_succ]
                            refine wpAnyH_take (i := 10) (v := ?_) rfl (by kernel_rfl) (by kernel_rfl) (by kernel_rfl) (fun _ _ _ h => h) (Or.inl ⟨by kernel_rfl, ?_⟩) (by assumption) ?_
                            rotate_left
                            · (intro w hSw; (try dsimp only at hSw); go_simp)
                              try (with_reducible rfl)
                            rotate_left
                            try simp (maxSteps := 4000000) only [Act.put, List.setIfInBounds_toArray, List.set_cons_zero, List.set_cons_succ, List.getElem_toArray, List.getElem_cons_zero, List.getElem_cons_succ]
                            refine wpAnyH_take (i := 11) (v := ?_) rfl (by kernel_rfl) (by kernel_rfl) (by kernel_rfl) (fun _ _ _ h => h) (Or.inl ⟨by kernel_rfl, ?_⟩) (by assumption) ?_
                            rotate_left
                            · (intro w hSw; (try dsimp only at hSw); go_simp)
                              try (with_reducible rfl)
                            rotate_left
                            try simp (maxSteps := 4000000) only [Act.put, List.setIfInBounds_toArray, List.set_cons_zero, List.set_cons_succ, List.getElem_toArray, List.getElem_cons_zero, List.getElem_cons_succ]
                            refine wpAnyH_take (i := 12) (v := ?_) rfl (by kernel_rfl) (by kernel_rfl) (by kernel_rfl) (fun _ _ _ h => h) (Or.inl ⟨by kernel_rfl, ?_⟩) (by assumption) ?_
                            rotate_left
                            · (intro w hSw; (try dsimp only at hSw); go_simp)
                              try (with_reducible rfl)
                            rotate_left
                            try simp (maxSteps := 4000000) only [Act.put, List.setIfInBounds_toArray, List.set_cons_zero, List.set_cons_succ, List.getElem_toArray, List.getElem_cons_zero, List.getElem_cons_succ]
                            refine wpAnyH_take (i := 13) (v := ?_) rfl (by kernel_rfl) (by kernel_rfl) (by kernel_rfl) (fun _ _ _ h => h) (Or.inl ⟨by kernel_rfl, ?_⟩) (by assumption) ?_
                            rotate_left
                            · (intro w hSw; (try dsimp only at hSw); go_simp)
                              try (with_reducible rfl)
                            rotate_left
                            try simp (maxSteps := 4000000) only [Act.put, List.setIfInBounds_toArray, List.set_cons_zero, List.set_cons_succ, List.getElem_toArray, List.getElem_cons_zero, List.getElem_cons_succ]
                            refine wpAnyH_take (i := 14) (v := ?_) rfl (by kernel_rfl) (by kernel_rfl) (by kernel_rfl) (fun _ _ _ h => h) (Or.inl ⟨by kernel_rfl, ?_⟩) (by assumption) ?_
                            rotate_left
                            · (intro w hSw; (try dsimp only at hSw); go_simp)
                              try (with_reducible rfl)
                            rotate_left
                            try simp (maxSteps := 4000000) only [Act.put, List.setIfInBounds_toArray, List.set_cons_zero, List.set_cons_succ, List.getElem_toArray, List.getElem_cons_zero, List.getElem_cons_succ]
                            refine wpAnyH_take (i := 15) (v := ?_) rfl (by kernel_rfl) (by kernel_rfl) (by kernel_rfl) (fun _ _ _ h => h) (Or.inl ⟨by kernel_rfl, ?_⟩) (by assumption) ?_
                            rotate_left
                            · (intro w hSw; (try dsimp only at hSw); go_simp)
                              try (with_reducible rfl)
                            rotate_left
                            try simp (maxSteps := 4000000) only [Act.put, List.setIfInBounds_toArray, List.set_cons_zero, List.set_cons_succ, List.getElem_toArray, List.getElem_cons_zero, List.getElem_cons_succ]
                            refine wpAnyH_take (i := 16) (v := undef) rfl (by kernel_rfl) (by kernel_rfl) (by kernel_rfl) (fun _ _ _ h => h) (Or.inr ⟨by kernel_rfl, rfl⟩) (by assumption) ?_
                            try simp (maxSteps := 4000000) only [Act.put, List.setIfInBounds_toArray, List.set_cons_zero, List.set_cons_succ, List.getElem_toArray, List.getElem_cons_zero, List.getElem_cons_succ]
                            refine wpAnyH_take (i := 17) (v := undef) rfl (by kernel_rfl) (by kernel_rfl) (by kernel_rfl) (fun _ _ _ h => h) (Or.inr ⟨by kernel_rfl, rfl⟩) (by assumption) ?_
                            try simp (maxSteps := 4000000) only [Act.put, List.setIfInBounds_toArray, List.set_cons_zero, List.set_cons_succ, List.getElem_toArray, List.getElem_cons_zero, List.getElem_cons_succ]
                            refine wpAnyH_take (i := 18) (v := undef) rfl (by kernel_rfl) (by kernel_rfl) (by kernel_rfl) (fun _ _ _ h => h) (Or.inr ⟨by kernel_rfl, rfl⟩) (by assumption) ?_
                            try simp (maxSteps := 4000000) only [Act.put, List.setIfInBounds_toArray, List.set_cons_zero, List.set_cons_succ, List.getElem_toArray, List.getElem_cons_zero, List.getElem_cons_succ]
                            refine wpAnyH_take (i := 19) (v := undef) rfl (by kernel_rfl) (by kernel_rfl) (by kernel_rfl) (fun _ _ _ h => h) (Or.inr ⟨by kernel_rfl, rfl⟩) (by assumption) ?_
                            try simp (maxSteps := 4000000) only [Act.put, List.setIfInBounds_toArray, List.set_cons_zero, List.set_cons_succ, List.getElem_toArray, List.getElem_cons_zero, List.getElem_cons_succ]
                            refine wpAnyH_take (i := 20) (v := undef) rfl (by kernel_rfl) (by kernel_rfl) (by kernel_rfl) (fun _ _ _ h => h) (Or.inr ⟨by kernel_rfl, rfl⟩) (by assumption) ?_
                            try simp (maxSteps := 4000000) only [Act.put, List.setIfInBounds_toArray, List.set_cons_zero, List.set_cons_succ, List.getElem_toArray, List.getElem_cons_zero, List.getElem_cons_succ]
                            refine wpAnyH_take (i := 21) (v := undef) rfl (by kernel_rfl) (by kernel_rfl) (by kernel_rfl) (fun _ _ _ h => h) (Or.inr ⟨by kernel_rfl, rfl⟩) (by assumption) ?_
                            try simp (maxSteps := 4000000) only [Act.put, List.setIfInBounds_toArray, List.set_cons_zero, List.set_cons_succ, List.getElem_toArray, List.getElem_cons_zero, List.getElem_cons_succ]
                            refine wpAnyH_take (i := 22) (v := undef) rfl (by kernel_rfl) (by kernel_rfl) (by kernel_rfl) (fun _ _ _ h => h) (Or.inr ⟨by kernel_rfl, rfl⟩) (by assumption) ?_
                            try simp (maxSteps := 4000000) only [Act.put, List.setIfInBounds_toArray, List.set_cons_zero, List.set_cons_succ, List.getElem_toArray, List.getElem_cons_zero, List.getElem_cons_succ]
                            refine wpAnyH_take (i := 23) (v := undef) rfl (by kernel_rfl) (by kernel_rfl) (by kernel_rfl) (fun _ _ _ h => h) (Or.inr ⟨by kernel_rfl, rfl⟩) (by assumption) ?_
                            try simp (maxSteps := 4000000) only [Act.put, List.setIfInBounds_toArray, List.set_cons_zero, List.set_cons_succ, List.getElem_toArray, List.getElem_cons_zero, List.getElem_cons_succ]
                            refine wpAnyH_take (i := 24) (v := undef) rfl (by kernel_rfl) (by kernel_rfl) (by kernel_rfl) (fun _ _ _ h => h) (Or.inr ⟨by kernel_rfl, rfl⟩) (by assumption) ?_
                            try simp (maxSteps := 4000000) only [Act.put, List.setIfInBounds_toArray, List.set_cons_zero, List.set_cons_succ, List.getElem_toArray, List.getElem_cons_zero, List.getElem_cons_succ]
                            refine wpAnyH_take (i := 25) (v := ?_) rfl (by kernel_rfl) (by kernel_rfl) (by kernel_rfl) (fun _ _ _ h => h) (Or.inl ⟨by kernel_rfl, ?_⟩) (by assumption) ?_
                            rotate_left
                            · (intro w hSw; (try dsimp only at hSw); go_simp)
                              try (with_reducible rfl)
                            rotate_left
                            try simp (maxSteps := 4000000) only [Act.put, List.setIfInBounds_toArray, List.set_cons_zero, List.set_cons_succ, List.getElem_toArray, List.getElem_cons_zero, List.getElem_cons_succ]
                            refine wpAnyH_take (i := 26) (v := ?_) rfl (by kernel_rfl) (by kernel_rfl) (by kernel_rfl) (fun _ _ _ h => h) (Or.inl ⟨by kernel_rfl, ?_⟩) (by assumption) ?_
                            rotate_left
                            · (intro w hSw; (try dsimp only at hSw); go_simp)
                              try (with_reducible rfl)
                            rotate_left
                            try simp (maxSteps := 4000000) only [Act.put, List.setIfInBounds_toArray, List.set_cons_zero, List.set_cons_succ, List.getElem_toArray, List.getElem_cons_zero, List.getElem_cons_succ]
                            refine wpAnyH_done (by kernel_rfl) ?_ _
                            go_wp2_with fail
                            go_meet
                            exact ⟨true, rfl, Lib.hid (by have := HTJ.out; simp; omega), Lib.hid (by first | exact HW3.out | exact below_drewN HW3.out _)⟩
                          · rcases vi_open HW.out with ⟨_, e⟩ | ⟨off7, c7', e7, m7, m8, m9, m10⟩
                            · exfalso
                              have := congrArg List.length e
                              rw [List.length_take] at this
                              simp only [List.length_nil] at this
                              omega
                            · have hq0 : (ms.take j)[0]? = some q := by rw [List.getElem?_take_of_lt (by omega)]; exact hq
                              obtain ⟨_, _, _, _, q4⟩ := m10 0 q hq0
                              injection e7 with e4 e5 e6
                              subst e4; subst e6
                              simp only [Nat.zero_mul, Nat.add_zero] at q4
                              have hj1 : ¬ (j : Int) = 0 := by omega
                              have hj2 : ((j : Int) == 0) = false := by rw [beq_eq_false_iff_ne]; omega
                              have hj3 : (0 : Int) < j := by omega
                              have hj4 : decide ((0 : Int) < j) = true := decide_eq_true hj3
                              have hj5 : decide (0 < j) = true := decide_eq_true e1
                              have zW := World.block_lt_of_cell? _ _ q4
                              clear m10 m7 m8 m9 e5 hq0 hq
                              rcases hway with ⟨d2, e2⟩ | ⟨d2, e2⟩
                              · have HTJ := Lib.hid e2
                                clear e2
                                refine wp_region_held_drew (S := fun w' => w'.cell? ⟨G, 0, none⟩ = some (.int .i64 N) ∧ w'.cell? ⟨G, 1, none⟩ = some (.bool on) ∧ w'.cell? ⟨bm, off5 + 4, none⟩ = some (.int .i64 p.ep) ∧ w'.cell? ⟨bw, off7 + 4, none⟩ = some (.int .i64 q.ep)) (by kernel_rfl) ?_ (fun hHeld => ?_)
                                · exact ⟨c0, c1, r4, q4⟩
                                refine wpAnyH_take (i := 0) (v := ?_) rfl (by kernel_rfl) (by kernel_rfl) (by kernel_rfl) (fun _ _ _ h => h) (Or.inl ⟨by kernel_rfl, ?_⟩) (by assumption) ?_
                                rotate_left
                                · (intro w hSw; (try dsimp only at hSw); go_simp)
                                  try (with_reducible rfl)
                                rotate_left
                                try simp (maxSteps := 4000000) only [Act.put, List.setIfInBounds_toArray, List.set_cons_zero, List.set_cons_succ, List.getElem_toArray, List.getElem_cons_zero, List.getElem_cons_succ]
                                refine wpAnyH_take (i := 1) (v := ?_) rfl (by kernel_rfl) (by kernel_rfl) (by kernel_rfl) (fun _ _ _ h => h) (Or.inl ⟨by kernel_rfl, ?_⟩) (by assumption) ?_
                                rotate_left
                                · (intro w hSw; (try dsimp only at hSw); go_simp)
                                  try (with_reducible rfl)
                                rotate_left
                                try simp (maxSteps := 4000000) only [Act.put, List.setIfInBounds_toArray, List.set_cons_zero, List.set_cons_succ, List.getElem_toArray, List.getElem_cons_zero, List.getElem_cons_succ]
                                refine wpAnyH_take (i := 2) (v := ?_) rfl (by kernel_rfl) (by kernel_rfl) (by kernel_rfl) (fun _ _ _ h => h) (Or.inl ⟨by kernel_rfl, ?_⟩) (by assumption) ?_
                                rotate_left
                                · (intro w hSw; (try dsimp only at hSw); go_simp)
                                  try (with_reducible rfl)
                                rotate_left
                                try simp (maxSteps := 4000000) only [Act.put, List.setIfInBounds_toArray, List.set_cons_zero, List.set_cons_succ, List.getElem_toArray, List.getElem_cons_zero, List.getElem_cons_succ]
                                refine wpAnyH_take (i := 3) (v := ?_) rfl (by kernel_rfl) (by kernel_rfl) (by kernel_rfl) (fun _ _ _ h => h) (Or.inl ⟨by kernel_rfl, ?_⟩) (by assumption) ?_
                                rotate_left
                                · (intro w hSw; (try dsimp only at hSw); go_simp)
                                  try (with_reducible rfl)
                                rotate_left
                                try simp (maxSteps := 4000000) only [Act.put, List.setIfInBounds_toArray, List.set_cons_zero, List.set_cons_succ, List.getElem_toArray, List.getElem_cons_zero, List.getElem_cons_succ]
                                refine wpAnyH_take (i := 4) (v := ?_) rfl (by kernel_rfl) (by kernel_rfl) (by kernel_rfl) (fun _ _ _ h => h) (Or.inl ⟨by kernel_rfl, ?_⟩) (by assumption) ?_
                                rotate_left
                                · (intro w hSw; (try dsimp only at hSw); go_simp)
                                  try (with_reducible rfl)
                                rotate_left
                                try simp (maxSteps := 4000000) only [Act.put, List.setIfInBounds_toArray, List.set_cons_zero, List.set_cons_succ, List.getElem_toArray, List.getElem_cons_zero, List.getElem_cons_succ]
                                refine wpAnyH_take (i := 5) (v := ?_) rfl (by kernel_rfl) (by kernel_rfl) (by kernel_rfl) (fun _ _ _ h => h) (Or.inl ⟨by kernel_rfl, ?_⟩) (by assumption) ?_
                                rotate_left
                                · (intro w hSw; (try dsimp only at hSw); go_simp)
                                  try (with_reducible rfl)
                                rotate_left
                                try simp (maxSteps := 4000000) only [Act.put, List.setIfInBounds_toArray, List.set_cons_zero, List.set_cons_succ, List.getElem_toArray, List.getElem_cons_zero, List.getElem_cons_succ]
                                refine wpAnyH_take (i := 6) (v := ?_) rfl (by kernel_rfl) (by kernel_rfl) (by kernel_rfl) (fun _ _ _ h => h) (Or.inl ⟨by kernel_rfl, ?_⟩) (by assumption) ?_
                                rotate_left
                                · (intro w hSw; (try dsimp only at hSw); go_simp)
                                  try (with_reducible rfl)
                                rotate_left
                                try simp (maxSteps := 4000000) only [Act.put, List.setIfInBounds_toArray, List.set_cons_zero, List.set_cons_succ, List.getElem_toArray, List.getElem_cons_zero, List.getElem_cons_succ]
                                refine wpAnyH_take (i := 7) (v := ?_) rfl (by kernel_rfl) (by kernel_rfl) (by kernel_rfl) (fun _ _ _ h => h) (Or.inl ⟨by kernel_rfl, ?_⟩) (by assumption) ?_
                                rotate_left
                                · (intro w hSw; (try dsimp only at hSw); go_simp)
                                  try (with_reducible rfl)
                                rotate_left
                                try simp (maxSteps := 4000000) only [Act.put, List.setIfInBounds_toArray, List.set_cons_zero, List.set_cons_succ, List.getElem_toArray, List.getElem_cons_zero, List.getElem_cons_succ]
                                refine wpAnyH_take (i := 8) (v := ?_) rfl (by kernel_rfl) (by kernel_rfl) (by kernel_rfl) (fun _ _ _ h => h) (Or.inl ⟨by kernel_rfl, ?_⟩) (by assumption) ?_
                                rotate_left
                                · (intro w hSw; (try dsimp only at hSw); go_simp)
                                  try (with_reducible rfl)
                                rotate_left
                                try simp (maxSteps := 4000000) only [Act.put, List.setIfInBounds_toArray, List.set_cons_zero, List.set_cons_succ, List.getElem_toArray, List.getElem_cons_zero, List.getElem_cons_succ]
                                refine wpAnyH_ready (rs := [9]) (by kernel_rfl) (by simp) ?_
                                refine AllReadyH.cons rfl (fun K2 hK2 => ?_) AllReadyH.nil
                                go_simp
                                refine (epast_is true N on p.ep _ hN (by omega) d1).mono ?_
                                rintro e x3 ⟨rfl, hb3⟩
                                have HW3 : Hid (Below wr.heap.size wr x3) := Lib.hid (thn (below_drewN (Below.refl _ wr) _) hb3)
                                have hs3 : (fun w' : World => w'.cell? ⟨G, 0, none⟩ = some (.int .i64 N) ∧ w'.cell? ⟨G, 1, none⟩ = some (.bool on) ∧ w'.cell? ⟨bm, off5 + 4, none⟩ = some (.int .i64 p.ep) ∧ w'.cell? ⟨bw, off7 + 4, none⟩ = some (.int .i64 q.ep)) x3 := ⟨(hb3.cell (p := ⟨G, 0, none⟩) zG).trans c0, (hb3.cell (p := ⟨G, 1, none⟩) zG).trans c1, (hb3.cell (p := ⟨bm, off5 + 4, none⟩) zM).trans r4, (hb3.cell (p := ⟨bw, off7 + 4, none⟩) zW).trans q4⟩
                                clear hb3
                                refine hK2.out _ _ hs3 (fun hHeld2 => ?_)
                                clear hK2 K2 hHeld
                                have hHeld := hHeld2
                                clear hHeld2 hs3
                                try simp (maxSteps := 4000000) only [Act.put, List.setIfInBounds_toArray, List.set_cons_zero, List.set_cons_succ]
                                refine wpAnyH_take (i := 10) (v := ?_) rfl (by kernel_rfl) (by kernel_rfl) (by kernel_rfl) (fun _ _ _ h => h) (Or.inl ⟨by kernel_rfl, ?_⟩) (by assumption) ?_
                                rotate_left
                                · (intro w hSw; (try dsimp only at hSw); go_simp)
                                  try (with_reducible rfl)
                                rotate_left
                                try simp (maxSteps := 4000000) only [Act.put, List.setIfInBounds_toArray, List.set_cons_zero, List.set_cons_succ, List.getElem_toArray, List.getElem_cons_zero, List.getElem_cons_succ]
                                refine wpAnyH_take (i := 11) (v := ?_) rfl (by kernel_rfl) (by kernel_rfl) (by kernel_rfl) (fun _ _ _ h => h) (Or.inl ⟨by kernel_rfl, ?_⟩) (by assumption) ?_
                                rotate_left
                                · (intro w hSw; (try dsimp only at hSw); go_simp)
                                  try (with_reducible rfl)
                                rotate_left
                                try simp (maxSteps := 4000000) only [Act.put, List.setIfInBounds_toArray, List.set_cons_zero, List.set_cons_succ, List.getElem_toArray, List.getElem_cons_zero, List.getElem_cons_succ]
                                refine wpAnyH_take (i := 12) (v := ?_) rfl (by kernel_rfl) (by kernel_rfl) (by kernel_rfl) (fun _ _ _ h => h) (Or.inl ⟨by kernel_rfl, ?_⟩) (by assumption) ?_
                                rotate_left
                                · (intro w hSw; (try dsimp only at hSw); go_simp)
                                  try (with_reducible rfl)
                                rotate_left
                                try simp (maxSteps := 4000000) only [Act.put, List.setIfInBounds_toArray, List.set_cons_zero, List.set_cons_succ, List.getElem_toArray, List.getElem_cons_zero, List.getElem_cons_succ]
                                refine wpAnyH_take (i := 13) (v := ?_) rfl (by kernel_rfl) (by kernel_rfl) (by kernel_rfl) (fun _ _ _ h => h) (Or.inl ⟨by kernel_rfl, ?_⟩) (by assumption) ?_
                                rotate_left
                                · (intro w hSw; (try dsimp only at hSw); go_simp)
                                  try (with_reducible rfl)
                                rotate_left
                                try simp (maxSteps := 4000000) only [Act.put, List.setIfInBounds_toArray, List.set_cons_zero, List.set_cons_succ, List.getElem_toArray, List.getElem_cons_zero, List.getElem_cons_succ]
                                refine wpAnyH_take (i := 14) (v := ?_) rfl (by kernel_rfl) (by kernel_rfl) (by kernel_rfl) (fun _ _ _ h => h) (Or.inl ⟨by kernel_rfl, ?_⟩) (by assumption) ?_
                                rotate_left
                                · (intro w hSw; (try dsimp only at hSw); go_simp)
                                  try (with_reducible rfl)
                                rotate_left
                                try simp (maxSteps := 4000000) only [Act.put, List.setIfInBounds_toArray, List.set_cons_zero, List.set_cons_succ, List.getElem_toArray, List.getElem_cons_zero, List.getElem_cons_succ]
                                refine wpAnyH_take (i := 15) (v := ?_) rfl (by kernel_rfl) (by kernel_rfl) (by kernel_rfl) (fun _ _ _ h => h) (Or.inl ⟨by kernel_rfl, ?_⟩) (by assumption) ?_
                                rotate_left
                                · (intro w hSw; (try dsimp only at hSw); go_simp)
                                  try (with_reducible rfl)
                                rotate_left
                                try simp (maxSteps := 4000000) only [Act.put, List.setIfInBounds_toArray, List.set_cons_zero, List.set_cons_succ, List.getElem_toArray, List.getElem_cons_zero, List.getElem_cons_succ]
                                refine wpAnyH_take (i := 16) (v := ?_) rfl (by kernel_rfl) (by kernel_rfl) (by kernel_rfl) (fun _ _ _ h => h) (Or.inl ⟨by kernel_rfl, ?_⟩) (by assumption) ?_
                                rotate_left
                                · (intro w hSw; (try dsimp only at hSw); go_simp)
                                  try (with_reducible rfl)
                                rotate_left
                                try simp (maxSteps := 4000000) only [Act.put, List.setIfInBounds_toArray, List.set_cons_zero, List.set_cons_succ, List.getElem_toArray, List.getElem_cons_zero, List.getElem_cons_succ]
                                refine wpAnyH_take (i := 17) (v := ?_) rfl (by kernel_rfl) (by kernel_rfl) (by kernel_rfl) (fun _ _ _ h => h) (Or.inl ⟨by kernel_rfl, ?_⟩) (by assumption) ?_
                                rotate_left
                                · (intro w hSw; (try dsimp only at hSw); go_simp)
                                  try (with_reducible rfl)
                                rotate_left
                                try simp (maxSteps := 4000000) only [Act.put, List.setIfInBounds_toArray, List.set_cons_zero, List.set_cons_succ, List.getElem_toArray, List.getElem_cons_zero, List.getElem_cons_succ]
                                refine wpAnyH_take (i := 18) (v := ?_) rfl (by kernel_rfl) (by kernel_rfl) (by kernel_rfl) (fun _ _ _ h => h) (Or.inl ⟨by kernel_rfl, ?_⟩) (by assumption) ?_
                                rotate_left
                                · (intro w hSw; (try dsimp only at hSw); go_simp)
                                  try (with_reducible rfl)
                                rotate_left
                                try simp (maxSteps := 4000000) only [Act.put, List.setIfInBounds_toArray, List.set_cons_zero, List.set_cons_succ, List.getElem_toArray, List.getElem_cons_zero, List.getElem_cons_succ]
                                refine wpAnyH_take (i := 19) (v := ?_) rfl (by kernel_rfl) (by kernel_rfl) (by kernel_rfl) (fun _ _ _ h => h) (Or.inl ⟨by kernel_rfl, ?_⟩) (by assumption) ?_
                                rotate_left
                                · (intro w hSw; (try dsimp only at hSw); go_simp)
                                  try (with_reducible rfl)
                                rotate_left
                                try simp (maxSteps := 4000000) only [Act.put, List.setIfInBounds_toArray, List.set_cons_zero, List.set_cons_succ, List.getElem_toArray, List.getElem_cons_zero, List.getElem_cons_succ]
                                refine wpAnyH_take (i := 20) (v := ?_) rfl (by kernel_rfl) (by kernel_rfl) (by kernel_rfl) (fun _ _ _ h => h) (Or.inl ⟨by kernel_rfl, ?_⟩) (by assumption) ?_
                                rotate_left
                                · (intro w hSw; (try dsimp only at hSw); go_simp)
                                  try (with_reducible rfl)
                                rotate_left
                                try simp (maxSteps := 4000000) only [Act.put, List.setIfInBounds_toArray, List.set_cons_zero, List.set_cons_succ, List.getElem_toArray, List.getElem_cons_zero, List.getElem_cons_succ]
                                refine wpAnyH_take (i := 21) (v := ?_) rfl (by kernel_rfl) (by kernel_rfl) (by kernel_rfl) (fun _ _ _ h => h) (Or.inl ⟨by kernel_rfl, ?_⟩) (by assumption) ?_
                                rotate_left
                                · (intro w hSw; (try dsimp only at hSw); go_simp)
                                  try (with_reducible rfl)
                                rotate_left
                                try simp (maxSteps := 4000000) only [Act.put, List.setIfInBounds_toArray, List.set_cons_zero, List.set_cons_succ, List.getElem_toArray, List.getElem_cons_zero, List.getElem_cons_succ]
                                refine wpAnyH_take (i := 22) (v := ?_) rfl (by kernel_rfl) (by kernel_rfl) (by kernel_rfl) (fun _ _ _ h => h) (Or.inl ⟨by kernel_rfl, ?_⟩) (by assumption) ?_
                                rotate_left
                                · (intro w hSw; (try dsimp only at hSw); go_simp)
                                  try (with_reducible rfl)
                                rotate_left
                                try simp (maxSteps := 4000000) only [Act.put, List.setIfInBounds_toArray, List.set_cons_zero, List.set_cons_succ, List.getElem_toArray, List.getElem_cons_zero, List.getElem_cons_succ]
                                refine wpAnyH_take (i := 23) (v := ?_) rfl (by kernel_rfl) (by kernel_rfl) (by kernel_rfl) (fun _ _ _ h => h) (Or.inl ⟨by kernel_rfl, ?_⟩) (by assumption) ?_
                                rotate_left
                                · (intro w hSw; (try dsimp only at hSw); go_simp)
                                  try (with_reducible rfl)
                                rotate_left
                                try simp (maxSteps := 4000000) only [Act.put, List.setIfInBounds_toArray, List.set_cons_zero, List.set_cons_succ, List.getElem_toArray, List.getElem_cons_zero, List.getElem_cons_succ]
                                refine wpAnyH_take (i := 24) (v := ?_) rfl (by kernel_rfl) (by kernel_rfl) (by kernel_rfl) (fun _ _ _ h => h) (Or.inl ⟨by kernel_rfl, ?_⟩) (by assumption) ?_
                                rotate_left
                                · (intro w hSw; (try dsimp only at hSw); go_simp)
                                  try (with_reducible rfl)
                                rotate_left
                                try simp (maxSteps := 4000000) only [Act.put, List.setIfInBounds_toArray, List.set_cons_zero, List.set_cons_succ, List.getElem_toArray, List.getElem_cons_zero, List.getElem_cons_succ]
                                refine wpAnyH_take (i := 25) (v := ?_) rfl (by kernel_rfl) (by kernel_rfl) (by kernel_rfl) (fun _ _ _ h => h) (Or.inl ⟨by kernel_rfl, ?_⟩) (by assumption) ?_
                                rotate_left
                                · (intro w hSw; (try dsimp only at hSw); go_simp)
                                  try (with_reducible rfl)
                                rotate_left
                                try simp (maxSteps := 4000000) only [Act.put, List.setIfInBounds_toArray, List.set_cons_zero, List.set_cons_succ, List.getElem_toArray, List.getElem_cons_zero, List.getElem_cons_succ]
                                refine wpAnyH_take (i := 26) (v := ?_) rfl (by kernel_rfl) (by kernel_rfl) (by kernel_rfl) (fun _ _ _ h => h) (Or.inl ⟨by kernel_rfl, ?_⟩) (by assumption) ?_
                                rotate_left
                                · (intro w hSw; (try dsimp only at hSw); go_simp)
                                  try (with_reducible rfl)
                                rotate_left
                                try simp (maxSteps := 4000000) only [Act.put, List.setIfInBounds_toArray, List.set_cons_zero, List.set_cons_succ, List.getElem_toArray, List.getElem_cons_zero, List.getElem_cons_succ]
                                refine wpAnyH_done (by kernel_rfl) ?_ _
                                go_wp2_with fail
                                go_meet
                                exact ⟨true, rfl, Lib.hid (by have := HTJ.out; simp; omega), Lib.hid (by first | exact HW3.out | exact below_drewN HW3.out _)⟩
                              · have HTJ := Lib.hid e2
                                clear e2
                                refine wp_region_held_drew (S := fun w' => w'.cell? ⟨G, 0, none⟩ = some (.int .i64 N) ∧ w'.cell? ⟨G, 1, none⟩ = some (.bool on) ∧ w'.cell? ⟨bm, off5 + 4, none⟩ = some (.int .i64 p.ep) ∧ w'.cell? ⟨bw, off7 + 4, none⟩ = some (.int .i64 q.ep)) (by kernel_rfl) ?_ (fun hHeld => ?_)
                                · exact ⟨c0, c1, r4, q4⟩
                                refine wpAnyH_take (i := 0) (v := ?_) rfl (by kernel_rfl) (by kernel_rfl) (by kernel_rfl) (fun _ _ _ h => h) (Or.inl ⟨by kernel_rfl, ?_⟩) (by assumption) ?_
                                rotate_left
                                · (intro w hSw; (try dsimp only at hSw); go_simp)
                                  try (with_reducible rfl)
                                rotate_left
                                try simp (maxSteps := 4000000) only [Act.put, List.setIfInBounds_toArray, List.set_cons_zero, List.set_cons_succ, List.getElem_toArray, List.getElem_cons_zero, List.getElem_cons_succ]
                                refine wpAnyH_take (i := 1) (v := ?_) rfl (by kernel_rfl) (by kernel_rfl) (by kernel_rfl) (fun _ _ _ h => h) (Or.inl ⟨by kernel_rfl, ?_⟩) (by assumption) ?_
                                rotate_left
                                · (intro w hSw; (try dsimp only at hSw); go_simp)
                                  try (with_reducible rfl)
                                rotate_left
                                try simp (maxSteps := 4000000) only [Act.put, List.setIfInBounds_toArray, List.set_cons_zero, List.set_cons_succ, List.getElem_toArray, List.getElem_cons_zero, List.getElem_cons_succ]
                                refine wpAnyH_take (i := 2) (v := ?_) rfl (by kernel_rfl) (by kernel_rfl) (by kernel_rfl) (fun _ _ _ h => h) (Or.inl ⟨by kernel_rfl, ?_⟩) (by assumption) ?_
                                rotate_left
                                · (intro w hSw; (try dsimp only at hSw); go_simp)
                                  try (with_reducible rfl)
                                rotate_left
                                try simp (maxSteps := 4000000) only [Act.put, List.setIfInBounds_toArray, List.set_cons_zero, List.set_cons_succ, List.getElem_toArray, List.getElem_cons_zero, List.getElem_cons_succ]
                                refine wpAnyH_take (i := 3) (v := ?_) rfl (by kernel_rfl) (by kernel_rfl) (by kernel_rfl) (fun _ _ _ h => h) (Or.inl ⟨by kernel_rfl, ?_⟩) (by assumption) ?_
                                rotate_left
                                · (intro w hSw; (try dsimp only at hSw); go_simp)
                                  try (with_reducible rfl)
                                rotate_left
                                try simp (maxSteps := 4000000) only [Act.put, List.setIfInBounds_toArray, List.set_cons_zero, List.set_cons_succ, List.getElem_toArray, List.getElem_cons_zero, List.getElem_cons_succ]
                                refine wpAnyH_take (i := 4) (v := ?_) rfl (by kernel_rfl) (by kernel_rfl) (by kernel_rfl) (fun _ _ _ h => h) (Or.inl ⟨by kernel_rfl, ?_⟩) (by assumption) ?_
                                rotate_left
                                · (intro w hSw; (try dsimp only at hSw); go_simp)
                                  try (with_reducible rfl)
                                rotate_left
                                try simp (maxSteps := 4000000) only [Act.put, List.setIfInBounds_toArray, List.set_cons_zero, List.set_cons_succ, List.getElem_toArray, List.getElem_cons_zero, List.getElem_cons_succ]
                                refine wpAnyH_take (i := 5) (v := ?_) rfl (by kernel_rfl) (by kernel_rfl) (by kernel_rfl) (fun _ _ _ h => h) (Or.inl ⟨by kernel_rfl, ?_⟩) (by assumption) ?_
                                rotate_left
                                · (intro w hSw; (try dsimp only at hSw); go_simp)
                                  try (with_reducible rfl)
                                rotate_left
                                try simp (maxSteps := 4000000) only [Act.put, List.setIfInBounds_toArray, List.set_cons_zero, List.set_cons_succ, List.getElem_toArray, List.getElem_cons_zero, List.getElem_cons_succ]
                                refine wpAnyH_take (i := 6) (v := ?_) rfl (by kernel_rfl) (by kernel_rfl) (by kernel_rfl) (fun _ _ _ h => h) (Or.inl ⟨by kernel_rfl, ?_⟩) (by assumption) ?_
                                rotate_left
                                · (intro w hSw; (try dsimp only at hSw); go_simp)
                                  try (with_reducible rfl)
                                rotate_left
                                try simp (maxSteps := 4000000) only [Act.put, List.setIfInBounds_toArray, List.set_cons_zero, List.set_cons_succ, List.getElem_toArray, List.getElem_cons_zero, List.getElem_cons_succ]
                                refine wpAnyH_take (i := 7) (v := ?_) rfl (by kernel_rfl) (by kernel_rfl) (by kernel_rfl) (fun _ _ _ h => h) (Or.inl ⟨by kernel_rfl, ?_⟩) (by assumption) ?_
                                rotate_left
                                · (intro w hSw; (try dsimp only at hSw); go_simp)
                                  try (with_reducible rfl)
                                rotate_left
                                try simp (maxSteps := 4000000) only [Act.put, List.setIfInBounds_toArray, List.set_cons_zero, List.set_cons_succ, List.getElem_toArray, List.getElem_cons_zero, List.getElem_cons_succ]
                                refine wpAnyH_take (i := 8) (v := ?_) rfl (by kernel_rfl) (by kernel_rfl) (by kernel_rfl) (fun _ _ _ h => h) (Or.inl ⟨by kernel_rfl, ?_⟩) (by assumption) ?_
                                rotate_left
                                · (intro w hSw; (try dsimp only at hSw); go_simp)
                                  try (with_reducible rfl)
                                rotate_left
                                try simp (maxSteps := 4000000) only [Act.put, List.setIfInBounds_toArray, List.set_cons_zero, List.set_cons_succ, List.getElem_toArray, List.getElem_cons_zero, List.getElem_cons_succ]
                                refine wpAnyH_ready (rs := [9]) (by kernel_rfl) (by simp) ?_
                                refine AllReadyH.cons rfl (fun K2 hK2 => ?_) AllReadyH.nil
                                go_simp
                                refine (epast_is true N on p.ep _ hN (by omega) d1).mono ?_
                                rintro e x3 ⟨rfl, hb3⟩
                                have HW3 : Hid (Below wr.heap.size wr x3) := Lib.hid (thn (below_drewN (Below.refl _ wr) _) hb3)
                                have hs3 : (fun w' : World => w'.cell? ⟨G, 0, none⟩ = some (.int .i64 N) ∧ w'.cell? ⟨G, 1, none⟩ = some (.bool on) ∧ w'.cell? ⟨bm, off5 + 4, none⟩ = some (.int .i64 p.ep) ∧ w'.cell? ⟨bw, off7 + 4, none⟩ = some (.int .i64 q.ep)) x3 := ⟨(hb3.cell (p := ⟨G, 0, none⟩) zG).trans c0, (hb3.cell (p := ⟨G, 1, none⟩) zG).trans c1, (hb3.cell (p := ⟨bm, off5 + 4, none⟩) zM).trans r4, (hb3.cell (p := ⟨bw, off7 + 4, none⟩) zW).trans q4⟩
                                clear hb3
                                refine hK2.out _ _ hs3 (fun hHeld2 => ?_)
                                clear hK2 K2 hHeld
                                have hHeld := hHeld2
                                clear hHeld2 hs3
                                try simp (maxSteps := 4000000) only [Act.put, List.setIfInBounds_toArray, List.set_cons_zero, List.set_cons_succ]
                                refine wpAnyH_take (i := 10) (v := ?_) rfl (by kernel_rfl) (by kernel_rfl) (by kernel_rfl) (fun _ _ _ h => h) (Or.inl ⟨by kernel_rfl, ?_⟩) (by assumption) ?_
                                rotate_left
                                · (intro w hSw; (try dsimp only at hSw); go_simp)
                                  try (with_reducible rfl)
                                rotate_left
                                try simp (maxSteps := 4000000) only [Act.put, List.setIfInBounds_toArray, List.set_cons_zero, List.set_cons_succ, List.getElem_toArray, List.getElem_cons_zero, List.getElem_cons_succ]
                                refine wpAnyH_take (i := 11) (v := ?_) rfl (by kernel_rfl) (by kernel_rfl) (by kernel_rfl) (fun _ _ _ h => h) (Or.inl ⟨by kernel_rfl, ?_⟩) (by assumption) ?_
                                rotate_left
                                · (intro w hSw; (try dsimp only at hSw); go_simp)
                                  try (with_reducible rfl)
                                rotate_left
                                try simp (maxSteps := 4000000) only [Act.put, List.setIfInBounds_toArray, List.set_cons_zero, List.set_cons_succ, List.getElem_toArray, List.getElem_cons_zero, List.getElem_cons_succ]
                                refine wpAnyH_take (i := 12) (v := ?_) rfl (by kernel_rfl) (by kernel_rfl) (by kernel_rfl) (fun _ _ _ h => h) (Or.inl ⟨by kernel_rfl, ?_⟩) (by assumption) ?_
                                rotate_left
                                · (intro w hSw; (try dsimp only at hSw); go_simp)
                                  try (with_reducible rfl)
                                rotate_left
                                try simp (maxSteps := 4000000) only [Act.put, List.setIfInBounds_toArray, List.set_cons_zero, List.set_cons_succ, List.getElem_toArray, List.getElem_cons_zero, List.getElem_cons_succ]
                                refine wpAnyH_take (i := 13) (v := ?_) rfl (by kernel_rfl) (by kernel_rfl) (by kernel_rfl) (fun _ _ _ h => h) (Or.inl ⟨by kernel_rfl, ?_⟩) (by assumption) ?_
                                rotate_left
                                · (intro w hSw; (try dsimp only at hSw); go_simp)
                                  try (with_reducible rfl)
                                rotate_left
                                try simp (maxSteps := 4000000) only [Act.put, List.setIfInBounds_toArray, List.set_cons_zero, List.set_cons_succ, List.getElem_toArray, List.getElem_cons_zero, List.getElem_cons_succ]
                                refine wpAnyH_take (i := 14) (v := ?_) rfl (by kernel_rfl) (by kernel_rfl) (by kernel_rfl) (fun _ _ _ h => h) (Or.inl ⟨by kernel_rfl, ?_⟩) (by assumption) ?_
                                rotate_left
                                · (intro w hSw; (try dsimp only at hSw); go_simp)
                                  try (with_reducible rfl)
                                rotate_left
                                try simp (maxSteps := 4000000) only [Act.put, List.setIfInBounds_toArray, List.set_cons_zero, List.set_cons_succ, List.getElem_toArray, List.getElem_cons_zero, List.getElem_cons_succ]
                                refine wpAnyH_take (i := 15) (v := ?_) rfl (by kernel_rfl) (by kernel_rfl) (by kernel_rfl) (fun _ _ _ h => h) (Or.inl ⟨by kernel_rfl, ?_⟩) (by assumption) ?_
                                rotate_left
                                · (intro w hSw; (try dsimp only at hSw); go_simp)
                                  try (with_reducible rfl)
                                rotate_left
                                try simp (maxSteps := 4000000) only [Act.put, List.setIfInBounds_toArray, List.set_cons_zero, List.set_cons_succ, List.getElem_toArray, List.getElem_cons_zero, List.getElem_cons_succ]
                                refine wpAnyH_take (i := 16) (v := ?_) rfl (by kernel_rfl) (by kernel_rfl) (by kernel_rfl) (fun _ _ _ h => h) (Or.inl ⟨by kernel_rfl, ?_⟩) (by assumption) ?_
                                rotate_left
                                · (intro w hSw; (try dsimp only at hSw); go_simp)
                                  try (with_reducible rfl)
                                rotate_left
                                try simp (maxSteps := 4000000) only [Act.put, List.setIfInBounds_toArray, List.set_cons_zero, List.set_cons_succ, List.getElem_toArray, List.getElem_cons_zero, List.getElem_cons_succ]
                                refine wpAnyH_take (i := 17) (v := ?_) rfl (by kernel_rfl) (by kernel_rfl) (by kernel_rfl) (fun _ _ _ h => h) (Or.inl ⟨by kernel_rfl, ?_⟩) (by assumption) ?_
                                rotate_left
                                · (intro w hSw; (try dsimp only at hSw); go_simp)
                                  try (with_reducible rfl)
                                rotate_left
                                try simp (maxSteps := 4000000) only [Act.put, List.setIfInBounds_toArray, List.set_cons_zero, List.set_cons_succ, List.getElem_toArray, List.getElem_cons_zero, List.getElem_cons_succ]
                                refine wpAnyH_take (i := 18) (v := ?_) rfl (by kernel_rfl) (by kernel_rfl) (by kernel_rfl) (fun _ _ _ h => h) (Or.inl ⟨by kernel_rfl, ?_⟩) (by assumption) ?_
                                rotate_left
                                · (intro w hSw; (try dsimp only at hSw); go_simp)
                                  try (with_reducible rfl)
                                rotate_left
                                try simp (maxSteps := 4000000) only [Act.put, List.setIfInBounds_toArray, List.set_cons_zero, List.set_cons_succ, List.getElem_toArray, List.getElem_cons_zero, List.getElem_cons_succ]
                                refine wpAnyH_take (i := 19) (v := ?_) rfl (by kernel_rfl) (by kernel_rfl) (by kernel_rfl) (fun _ _ _ h => h) (Or.inl ⟨by kernel_rfl, ?_⟩) (by assumption) ?_
                                rotate_left
                                · (intro w hSw; (try dsimp only at hSw); go_simp)
                                  try (with_reducible rfl)
                                rotate_left
                                try simp (maxSteps := 4000000) only [Act.put, List.setIfInBounds_toArray, List.set_cons_zero, List.set_cons_succ, List.getElem_toArray, List.getElem_cons_zero, List.getElem_cons_succ]
                                refine wpAnyH_take (i := 20) (v := ?_) rfl (by kernel_rfl) (by kernel_rfl) (by kernel_rfl) (fun _ _ _ h => h) (Or.inl ⟨by kernel_rfl, ?_⟩) (by assumption) ?_
                                rotate_left
                                · (intro w hSw; (try dsimp only at hSw); go_simp)
                                  try (with_reducible rfl)
                                rotate_left
                                try simp (maxSteps := 4000000) only [Act.put, List.setIfInBounds_toArray, List.set_cons_zero, List.set_cons_succ, List.getElem_toArray, List.getElem_cons_zero, List.getElem_cons_succ]
                                refine wpAnyH_take (i := 21) (v := ?_) rfl (by kernel_rfl) (by kernel_rfl) (by kernel_rfl) (fun _ _ _ h => h) (Or.inl ⟨by kernel_rfl, ?_⟩) (by assumption) ?_
                                rotate_left
                                · (intro w hSw; (try dsimp only at hSw); go_simp)
                                  try (with_reducible rfl)
                                rotate_left
                                try simp (maxSteps := 4000000) only [Act.put, List.setIfInBounds_toArray, List.set_cons_zero, List.set_cons_succ, List.getElem_toArray, List.getElem_cons_zero, List.getElem_cons_succ]
                                refine wpAnyH_take (i := 22) (v := ?_) rfl (by kernel_rfl) (by kernel_rfl) (by kernel_rfl) (fun _ _ _ h => h) (Or.inl ⟨by kernel_rfl, ?_⟩) (by assumption) ?_
                                rotate_left
                                · (intro w hSw; (try dsimp only at hSw); go_simp)
                                  try (with_reducible rfl)
                                rotate_left
                                try simp (maxSteps := 4000000) only [Act.put, List.setIfInBounds_toArray, List.set_cons_zero, List.set_cons_succ, List.getElem_toArray, List.getElem_cons_zero, List.getElem_cons_succ]
                                refine wpAnyH_take (i := 23) (v := ?_) rfl (by kernel_rfl) (by kernel_rfl) (by kernel_rfl) (fun _ _ _ h => h) (Or.inl ⟨by kernel_rfl, ?_⟩) (by assumption) ?_
                                rotate_left
                                · (intro w hSw; (try dsimp only at hSw); go_simp)
                                  try (with_reducible rfl)
                                rotate_left
                                try simp (maxSteps := 4000000) only [Act.put, List.setIfInBounds_toArray, List.set_cons_zero, List.set_cons_succ, List.getElem_toArray, List.getElem_cons_zero, List.getElem_cons_succ]
                                refine wpAnyH_take (i := 24) (v := ?_) rfl (by kernel_rfl) (by kernel_rfl) (by kernel_rfl) (fun _ _ _ h => h) (Or.inl ⟨by kernel_rfl, ?_⟩) (by assumption) ?_
                                rotate_left
                                · (intro w hSw; (try dsimp only at hSw); go_simp)
                                  try (with_reducible rfl)
                                rotate_left
                                try simp (maxSteps := 4000000) only [Act.put, List.setIfInBounds_toArray, List.set_cons_zero, List.set_cons_succ, List.getElem_toArray, List.getElem_cons_zero, List.getElem_cons_succ]
                                refine wpAnyH_take (i := 25) (v := ?_) rfl (by kernel_rfl) (by kernel_rfl) (by kernel_rfl) (fun _ _ _ h => h) (Or.inl ⟨by kernel_rfl, ?_⟩) (by assumption) ?_
                                rotate_left
                                · (intro w hSw; (try dsimp only at hSw); go_simp)
                                  try (with_reducible rfl)
                                rotate_left
                                try simp (maxSteps := 4000000) only [Act.put, List.setIfInBounds_toArray, List.set_cons_zero, List.set_cons_succ, List.getElem_toArray, List.getElem_cons_zero, List.getElem_cons_succ]
                                refine wpAnyH_take (i := 26) (v := ?_) rfl (by kernel_rfl) (by kernel_rfl) (by kernel_rfl) (fun _ _ _ h => h) (Or.inl ⟨by kernel_rfl, ?_⟩) (by assumption) ?_
                                rotate_left
                                · (intro w hSw; (try dsimp only at hSw); go_simp)
                                  try (with_reducible rfl)
                                rotate_left
                                try simp (maxSteps := 4000000) only [Act.put, List.setIfInBounds_toArray, List.set_cons_zero, List.set_cons_succ, List.getElem_toArray, List.getElem_cons_zero, List.getElem_cons_succ]
                                refine wpAnyH_done (by kernel_rfl) ?_ _
                                go_wp2_with fail
                                go_meet
                                exact ⟨false, rfl, Lib.hid (by have := HTJ.out; simp; omega), Lib.hid (by first | exact HW3.out | exact below_drewN HW3.out _)⟩
                  case rest =>
                    obtain ⟨X, rfl, HX, HBx⟩ := hcut
                    have HS1 : Hid (QV B0 g b bm G w wc (.slice A5 L5 c5) (ms.drop j) ms N on) := Lib.hid (HS.out.below HBx.out)
                    have HW1 : Hid (VI bw wc (.slice A7 j c7) (ms.take j)) := Lib.hid (HW.out.below HBx.out)
                    obtain ⟨c0, c1, p0, p1, hG⟩ := HS1.out.2.2.2.1
                    clear HS HW HBx
                    cases X with
                    | true =>
                      as_aux_lemma =>
                        have hjT : j < T := by have := HX.out; simpa using this
                        clear HX
                        have hjl : j < ms.length := by omega
                        obtain ⟨p, hp⟩ : ∃ p, ms[j]? = some p := ⟨_, List.getElem?_eq_getElem hjl⟩
                        have hne : ms ≠ [] := by intro h; rw [h] at hjl; simp at hjl
                        obtain ⟨d1, d2, d3, d4⟩ := HD.out
                        have d1 := d1 hne
                        have hbl : b < wc.heap.size := by
                          rcases HS1.out.1.free with h | ⟨h, _⟩
                          · exact h
                          · exact absurd h hne
                        rcases vi_open HS1.out.2.1 with ⟨_, e⟩ | ⟨off5, c5', e5, m7, m8, m9, m10⟩
                        · exfalso
                          have := congrArg List.length e
                          rw [List.length_drop] at this
                          simp only [List.length_nil] at this
                          omega
                        · have hp0 : (ms.drop j)[0]? = some p := by rw [List.getElem?_drop]; exact hp
                          obtain ⟨r0, r1, r2, r3, r4⟩ := m10 0 p hp0
                          injection e5 with e1 e2 e3
                          subst e1; subst e3
                          simp only [Nat.zero_mul, Nat.add_zero] at r0 r1 r2 r3 r4
                          have HP := Lib.hid hp
                          have HNE := Lib.hid hne
                          have hL1 : (0 : Int) < L5 := by have := HL5.out; omega
                          have hL2 : (1 : Int) ≤ L5 := by omega
                          have hLn : 0 < L5 := by omega
                          have hdn : decide (0 < L5) = true := decide_eq_true hLn
                          have hd0 : decide ((0 : Int) < L5) = true := decide_eq_true hL1
                          have hc5 : L5 ≤ c5 := by rw [List.length_drop, HL5.out] at m8; exact m8
                          have hT60 : T ≤ 60 := by omega
                          have hfl : ((ms.take j).flatMap enc5).length = j * 5 := by rw [flat_len enc5 5 enc5_len, List.length_take]; congr 1; omega
                          have HVd := Lib.hid (vi_drop_n 1 HS1.out.2.1 (by rw [List.length_drop, HL5.out]) (by omega))
                          clear m10 m7 m8 m9 e2 hp0 hp hne
                          have hvz : VZ 5 bw wc (.slice A7 j c7) j ((ms.take j).flatMap enc5) := by have := HW1.out; unfold VI at this; rwa [List.length_take, Nat.min_eq_left (by omega)] at this
                          have HVZ := Lib.hid hvz
                          clear hvz hfl
                          go_wp2_with (at_builtin; refine app_vz tyItem rfl _ _ rfl bw (.slice A7 j c7) j ((ms.take j).flatMap enc5) rfl (HVZ.out.below (alc0 _ _)) ⟨wc.heap.size, 0, none⟩ 1 1 [.int .i64 p.at_, .int .i64 p.room, .int .i64 p.cls, .int .i64 p.thr, .int .i64 p.ep] rfl rfl (new5 wc p.at_ p.room p.cls p.thr p.ep _) (by simp [Value.oneCell']) (.inl (by decide)) (by omega) ?_)
                          rintro v' w' ⟨bw', hbw', hv', hs', ho', hl'⟩
                          obtain ⟨A9, c9, rfl, hnn⟩ : ∃ A c, v' = .slice A (j + 1) c ∧ (j + 1 = 0 → False) := by
                            obtain ⟨A, c, e, _⟩ := hv'
                            exact ⟨A, c, e, by omega⟩
                          have hsz : wc.heap.size < w'.heap.size := by simp at hs'; omega
                          have hBw' : B0 ≤ bw' := by
                            have := HS1.out.2.2.2.2.2.1.2.2.2.2
                            rcases hbw' with rfl | h
                            · exact hBw
                            · simp at h; omega
                          have hd' : bw' ≠ b ∧ bw' ≠ g ∧ bw' ≠ bm ∧ bw' ≠ G := by
                            have h1 := HS1.out.1.1
                            have h2 := HS1.out.2.2.2.2.1.2.2.1
                            rcases hbw' with rfl | h
                            · exact ⟨d1, d2, d3, d4⟩
                            · simp at h
                              exact ⟨by omega, by omega, by omega, by omega⟩
                          have HS2 : Hid (QV B0 g b bm G w w' (.slice (some ⟨bm, off5, none⟩) L5 c5) (ms.drop j) ms N on) := Lib.hid ((HS1.out.below (alc0 wc _)).oth hs' ho' (hl' B0 hBw (by have := HS1.out.2.2.2.2.2.1.2.2.2.2; simp; omega)) ⟨d2, d1, d3, d4⟩)
                          have hwv : VI bw' w' (.slice A9 (j + 1) c9) (ms.take (j + 1)) := by
                            show VZ 5 bw' w' _ (ms.take (j + 1)).length ((ms.take (j + 1)).flatMap enc5)
                            have e : ms.take (j + 1) = ms.take j ++ [p] := by rw [List.take_add_one, HP.out]; rfl
                            rw [e, List.flatMap_append, List.length_append, List.length_take, Nat.min_eq_left (by omega)]
                            exact hv'
                          have HWV := Lib.hid hwv
                          have hnv : Value.slice A9 (j + 1) c9 ≠ .slice none 0 0 := by simp
                          have HVd2 : Hid (VI bm w' (.slice (if c5 = 1 then some ⟨bm, off5, none⟩ else some ⟨bm, off5 + 1 * 5, none⟩) (L5 - 1) (c5 - 1)) (ms.drop (j + 1))) := Lib.hid (by
                            have := vi_drop_n 1 HS2.out.2.1 (by rw [List.length_drop, HL5.out]) (by omega)
                            rwa [List.drop_drop] at this)
                          have HDD : Hid ((ms ≠ [] → bw' ≠ b) ∧ bw' ≠ g ∧ bw' ≠ bm ∧ bw' ≠ G) := Lib.hid ⟨fun _ => hd'.1, hd'.2⟩
                          clear hv' hs' ho' hl' hbw' hwv hd' HVZ HS1 HW1 HVd r0 r1 r2 r3 r4 c0 c1 p0 p1
                          rcases (show c5 = 1 ∨ ¬ c5 = 1 by omega) with hc1 | hc1
                          · have HS3 : Hid (QV B0 g b bm G w w' (.slice (some ⟨bm, off5, none⟩) (L5 - 1) 0) (ms.drop (j + 1)) ms N on) := Lib.hid (HS2.out.tail (by have := HVd2.out; rw [if_pos hc1, hc1] at this; exact this) (by simp))
                            clear HS2 HVd2
                            go_wp2_with fail
                            go_roundw
                            case rel => exact ⟨j + 1, bw', by omega, HS3, HWV, hnv, hBw', HDD⟩
                            case measure => simp [lenV] <;> omega
                          · have HS3 : Hid (QV B0 g b bm G w w' (.slice (some ⟨bm, off5 + 5, none⟩) (L5 - 1) (c5 - 1)) (ms.drop (j + 1)) ms N on) := Lib.hid (HS2.out.tail (by have := HVd2.out; rw [if_neg hc1] at this; exact this) (by simp))
                            clear HS2 HVd2
                            go_wp2_with fail
                            go_roundw
                            case rel => exact ⟨j + 1, bw', by omega, HS3, HWV, hnv, hBw', HDD⟩
                            case measure => simp [lenV] <;> omega
                    | false =>
                      as_aux_lemma =>
                        obtain rfl : j = T := by have := HX.out; simp at this; omega
                        clear HX hj
                        go_wp2_with fail
                        refine (qtake_any g b ms N on wc HS1.out.1 hN (by omega) (by omega)).mono ?_
                        rintro e x2 ⟨b', b1, v8, rfl, hb', hf, hs, hv, hb1⟩
                        rw [HT.out] at hs hv
                        have HN2 : Hid (QV B0 g b' bm G w x2 (.slice A5 L5 c5) (ms.drop j) (ms.drop j) N on) := Lib.hid (HS1.out.fr hf hs hb')
                        have HWc : Hid (∀ k p, (ms.take j)[k]? = some p → ∃ off7, A7 = some ⟨bw, off7, none⟩ ∧ bw < x2.heap.size ∧ x2.cell? ⟨bw, off7 + k * 5, none⟩ = some (.int .i64 p.at_) ∧ x2.cell? ⟨bw, off7 + k * 5 + 1, none⟩ = some (.int .i64 p.room) ∧ x2.cell? ⟨bw, off7 + k * 5 + 2, none⟩ = some (.int .i64 p.cls) ∧ x2.cell? ⟨bw, off7 + k * 5 + 3, none⟩ = some (.int .i64 p.thr) ∧ x2.cell? ⟨bw, off7 + k * 5 + 4, none⟩ = some (.int .i64 p.ep)) := Lib.hid (fun k p hk => by
                          have hne : ms ≠ [] := by intro h; rw [h] at hk; simp at hk
                          obtain ⟨d1, d2, d3, d4⟩ := HD.out
                          have d1 := d1 hne
                          rcases vi_open HW1.out with ⟨_, e⟩ | ⟨off7, c7', e7, m7, m8, m9, m10⟩
                          · rw [e] at hk; simp at hk
                          · injection e7 with e1 e2 e3
                            have kb := hf.2.1 bw m7 d2 d1
                            obtain ⟨a0, a1, a2, a3, a4⟩ := m10 k p hk
                            exact ⟨off7, e1, Nat.lt_of_lt_of_le m7 hf.1, (World.cell?_of_block kb).trans a0, (World.cell?_of_block kb).trans a1, (World.cell?_of_block kb).trans a2, (World.cell?_of_block kb).trans a3, (World.cell?_of_block kb).trans a4⟩)
                        have HV := Lib.hid hv
                        have hl7 : (ms.take j).length = j := by rw [List.length_take]; omega
                        obtain ⟨A8, c8, rfl, _⟩ := hv
                        rw [hl7] at HV ⊢
                        have HL7 := Lib.hid hl7
                        have HBf : Hid (QB (i + 1) (ms.drop j) N) := Lib.hid ⟨by rw [List.length_drop]; have := HB.out.1; omega, hN, by omega, by omega, fun p hp => HB.out.2.2.2.2 p (List.mem_of_mem_drop hp)⟩
                        clear hf hs hb' hl7 HS1 HW1 HD c0 c1 p0 p1
                        go_wp2_with fail
                        go_loopw [9] (fun v9 wx => ∃ k : Nat, k ≤ j ∧ v9 = .int .i64 k ∧ Hid (Below x2.heap.size x2 wx)) (fun v9 _ => j - (intOf v9).toNat)
                        case atStart => exact ⟨0, by omega, rfl, Lib.hid (Below.refl _ _)⟩
                        case round =>
                          obtain ⟨k, hk, rfl, HX⟩ := hrel
                          by_cases hkj : k < j
                          · obtain ⟨p, hp⟩ : ∃ p, (ms.take j)[k]? = some p := ⟨_, List.getElem?_eq_getElem (by rw [HL7.out]; exact hkj)⟩
                            obtain ⟨off7, rfl, hbw, q0, q1, q2, q3, q4⟩ := HWc.out k p hp
                            rcases vi_open HV.out with ⟨_, e⟩ | ⟨off8, c8', e8, m7, m8, m9, m10⟩
                            · rw [e] at hp; simp at hp
                            · injection e8 with e1 e2 e3
                              subst e1; subst e3
                              obtain ⟨a0, a1, a2, a3, a4⟩ := m10 k p hp
                              have r0 := (HX.out.cell (p := ⟨bw, off7 + k * 5, none⟩) hbw).trans q0
                              have r1 := (HX.out.cell (p := ⟨bw, off7 + k * 5 + 1, none⟩) hbw).trans q1
                              have r2 := (HX.out.cell (p := ⟨bw, off7 + k * 5 + 2, none⟩) hbw).trans q2
                              have r3 := (HX.out.cell (p := ⟨bw, off7 + k * 5 + 3, none⟩) hbw).trans q3
                              have r4 := (HX.out.cell (p := ⟨bw, off7 + k * 5 + 4, none⟩) hbw).trans q4
                              have t0 := (HX.out.cell (p := ⟨b1, off8 + k * 5, none⟩) m7).trans a0
                              have t1 := (HX.out.cell (p := ⟨b1, off8 + k * 5 + 1, none⟩) m7).trans a1
                              have t2 := (HX.out.cell (p := ⟨b1, off8 + k * 5 + 2, none⟩) m7).trans a2
                              have t3 := (HX.out.cell (p := ⟨b1, off8 + k * 5 + 3, none⟩) m7).trans a3
                              have t4 := (HX.out.cell (p := ⟨b1, off8 + k * 5 + 4, none⟩) m7).trans a4
                              clear m10 a0 a1 a2 a3 a4 q0 q1 q2 q3 q4 hp e2
                              have i1 : (k : Int) < j := by omega
                              go_wp2_with fail
                              go_quiet (fail)
                              go_wp2_with fail
                              go_roundw
                              case rel => exact ⟨k + 1, by omega, by go_num, Lib.hid (below_drewN HX.out _)⟩
                              case measure => simp [intOf] <;> omega
                          · obtain rfl : k = j := by omega
                            have HF : Hid (QV B0 g b' bm G w wr (.slice A5 L5 c5) (ms.drop k) (ms.drop k) N on) := Lib.hid (HN2.out.below HX.out)
                            clear HN2 HX
                            go_wp2_with fail
                            go_meet
                            exact ⟨ms.drop k, b', bm, N, on, HF, HBf⟩
            · skip
              as_aux_lemma =>
                have hN := HB.out.2.1
                have hN2 := HB.out.2.2.1
                have hi60 := HB.out.2.2.2.1
                obtain ⟨c0, c1, p0, p1, hG⟩ := HN.out.2.2.2.1
                cases on with
                | true =>
                  have KH : ∀ x, Below wr.heap.size wr x → Hid (QV B0 g b bm G w ((x.setCell ⟨G, 0, none⟩ (.int .i64 N)).setCell ⟨G, 1, none⟩ (.bool true)) (.slice A4 ms.length c4) ms ms N true) := fun x hx => Lib.hid (HN.out.below hx).epo
                  have KB : Hid (QB (i + 1) ms N) := Lib.hid (HB.out.up (by omega))
                  have HE := Lib.hid HN.out.2.2.2.1
                  clear HB HN
                  go_wp2_with fail
                  refine (ebegin_on N _).mono ?_
                  rintro e x1 ⟨rfl, hb⟩
                  obtain ⟨k0, k1, k2, k3, k4⟩ := HE.out.keep hb.size (hb.block G hG)
                  have KH1 := KH _ hb
                  clear KH hb c0 c1 p0 p1 HE
                  go_wp2_with fail
                  go_meet
                  exact ⟨ms, b, bm, N, true, KH1, KB⟩
                | false =>
                  have KH : ∀ x, Below wr.heap.size wr x → Hid (QV B0 g b bm G w ((x.setCell ⟨G, 0, none⟩ (.int .i64 (N + 1))).setCell ⟨G, 1, none⟩ (.bool true)) (.slice A4 ms.length c4) ms ms (N + 1) true) := fun x hx => Lib.hid (HN.out.below hx).epo
                  have KB : Hid (QB (i + 1) ms (N + 1)) := Lib.hid ⟨by have := HB.out.1; omega, by omega, by omega, by omega, HB.out.2.2.2.2⟩
                  have HE := Lib.hid HN.out.2.2.2.1
                  clear HB HN
                  go_wp2_with fail
                  refine (ebegin_off N _ hN (by omega)).mono ?_
                  rintro e x1 ⟨rfl, hb⟩
                  obtain ⟨k0, k1, k2, k3, k4⟩ := HE.out.keep hb.size (hb.block G hG)
                  have KH1 := KH _ hb
                  clear KH hb c0 c1 p0 p1 HE
                  go_wp2_with fail
                  go_meet
                  exact ⟨ms, b, bm, N + 1, true, KH1, KB⟩
            · skip
              as_aux_lemma =>
                have hN := HB.out.2.1
                have hi60 := HB.out.2.2.2.1
                obtain ⟨c0, c1, p0, p1, hG⟩ := HN.out.2.2.2.1
                have KH : ∀ x, Below wr.heap.size wr x → Hid (QV B0 g b bm G w ((x.setCell ⟨G, 0, none⟩ (.int .i64 N)).setCell ⟨G, 1, none⟩ (.bool false)) (.slice A4 ms.length c4) ms ms N false) := fun x hx => Lib.hid (HN.out.below hx).epo
                have KB : Hid (QB (i + 1) ms N) := Lib.hid (HB.out.up (by omega))
                have HE := Lib.hid HN.out.2.2.2.1
                clear HB HN
                cases on with
                | true =>
                  go_wp2_with fail
                  refine (eend_on N _).mono ?_
                  rintro e x1 ⟨rfl, hb⟩
                  obtain ⟨k0, k1, k2, k3, k4⟩ := HE.out.keep hb.size (hb.block G hG)
                  have KH1 := KH _ hb
                  clear KH hb c0 c1 p0 p1 HE
                  go_wp2_with fail
                  go_meet
                  exact ⟨ms, b, bm, N, false, KH1, KB⟩
                | false =>
                  go_wp2_with fail
                  refine (eend_off N _).mono ?_
                  rintro e x1 ⟨rfl, hb⟩
                  obtain ⟨k0, k1, k2, k3, k4⟩ := HE.out.keep hb.size (hb.block G hG)
                  have KH1 := KH _ hb
                  clear KH hb c0 c1 p0 p1 HE
                  go_wp2_with fail
                  go_meet
                  exact ⟨ms, b, bm, N, false, KH1, KB⟩
            · skip
              skip
              skip
              have hi60 := HB.out.2.2.2.1
              have hml : ms.length ≤ 60 := by have := HB.out.1; omega
              have hN := HB.out.2.1
              have hN2 := HB.out.2.2.1
              have hB4 := HN.out.2.2.2.2.2.1.2.2.2.2
              obtain ⟨c0, c1, p0, p1, hG⟩ := HN.out.2.2.2.1
              have r1 := HRC.out wr HN.out.2.2.2.2.2.2
              have f1 := and1023 A1
              have f2 := and15 (A1 / 1024)
              have f3 := and15 (A1 / 16384)
              obtain ⟨R, hR, hR0, hR1⟩ : ∃ R, A1 % 1024 = R ∧ 0 ≤ R ∧ R ≤ 1023 := ⟨_, rfl, Int.emod_nonneg _ (by decide), by have := Int.emod_lt_of_pos A1 (show (0 : Int) < 1024 by decide); omega⟩
              obtain ⟨C, hC⟩ : ∃ C, A1 / 1024 % 16 = C := ⟨_, rfl⟩
              obtain ⟨D, hD⟩ : ∃ D, A1 / 16384 % 16 = D := ⟨_, rfl⟩
              rw [hR] at f1
              rw [hC] at f2
              rw [hD] at f3
              have hw16 : IntKind.i64.wrap (16 * (i : Int)) = 16 * (i : Int) := by rw [IntKind.wrap_i64]; omega
              have id1 : decide ((i : Int) < len1) = true := decide_eq_true t1
              have id0 : (0 : Int) ≤ i := by omega
              have idn : i < len1 := by omega
              have id2 : decide (i < len1) = true := decide_eq_true idn
              have HE := Lib.hid HN.out.2.2.2.1
              clear hR hC hD
              go_upto_region 6 with (fail)
              rw [show (T == 4) = false from by simpa using T4, show (T == 5) = false from by simpa using T5, show (T == 6) = false from by simpa using T6]
              clear T4 T5 T6
              have zR := World.block_lt_of_cell? _ _ r1
              go_cut [10] from 37 to 98 (fun v10 wx => ∃ X, v10 = .pointer (some ⟨X, 0, none⟩) ∧ Hid (wr.heap.size ≤ X) ∧ Hid (XI X wx ⟨16 * i, R, C, 0, N⟩) ∧ Hid (Below wr.heap.size wr wx))
              case first =>
                as_aux_lemma =>
                  refine wp_region_held_drew (S := fun w' => w'.cell? ⟨bb, off + i * 2 + 1, none⟩ = some (.int .i64 A1) ∧ w'.cell? ⟨G, 0, none⟩ = some (.int .i64 N) ∧ w'.cell? ⟨G, 1, none⟩ = some (.bool on)) (by kernel_rfl) ?_ (fun hHeld => ?_)
                  · exact ⟨r1, c0, c1⟩
                  refine wpAnyH_take (i := 0) (v := ?_) rfl (by kernel_rfl) (by kernel_rfl) (by kernel_rfl) (fun _ _ _ h => h) (Or.inl ⟨by kernel_rfl, ?_⟩) (by assumption) ?_
                  rotate_left
                  · (intro w hSw; (try dsimp only at hSw); go_simp)
                    try (with_reducible rfl)
                  rotate_left
                  try simp (maxSteps := 4000000) only [Act.put, List.setIfInBounds_toArray, List.set_cons_zero, List.set_cons_succ, List.getElem_toArray, List.getElem_cons_zero, List.getElem_cons_succ]
                  refine wpAnyH_take (i := 1) (v := ?_) rfl (by kernel_rfl) (by kernel_rfl) (by kernel_rfl) (fun _ _ _ h => h) (Or.inl ⟨by kernel_rfl, ?_⟩) (by assumption) ?_
                  rotate_left
                  · (intro w hSw; (try dsimp only at hSw); go_simp)
                    try (with_reducible rfl)
                  rotate_left
                  try simp (maxSteps := 4000000) only [Act.put, List.setIfInBounds_toArray, List.set_cons_zero, List.set_cons_succ, List.getElem_toArray, List.getElem_cons_zero, List.getElem_cons_succ]
                  refine wpAnyH_take (i := 2) (v := ?_) rfl (by kernel_rfl) (by kernel_rfl) (by kernel_rfl) (fun _ _ _ h => h) (Or.inl ⟨by kernel_rfl, ?_⟩) (by assumption) ?_
                  rotate_left
                  · (intro w hSw; (try dsimp only at hSw); go_simp)
                    try (with_reducible rfl)
                  rotate_left
                  try simp (maxSteps := 4000000) only [Act.put, List.setIfInBounds_toArray, List.set_cons_zero, List.set_cons_succ, List.getElem_toArray, List.getElem_cons_zero, List.getElem_cons_succ]
                  refine wpAnyH_take (i := 3) (v := ?_) rfl (by kernel_rfl) (by kernel_rfl) (by kernel_rfl) (fun _ _ _ h => h) (Or.inl ⟨by kernel_rfl, ?_⟩) (by assumption) ?_
                  rotate_left
                  · (intro w hSw; (try dsimp only at hSw); go_simp)
                    try (with_reducible rfl)
                  rotate_left
                  try simp (maxSteps := 4000000) only [Act.put, List.setIfInBounds_toArray, List.set_cons_zero, List.set_cons_succ, List.getElem_toArray, List.getElem_cons_zero, List.getElem_cons_succ]
                  refine wpAnyH_take (i := 4) (v := ?_) rfl (by kernel_rfl) (by kernel_rfl) (by kernel_rfl) (fun _ _ _ h => h) (Or.inl ⟨by kernel_rfl, ?_⟩) (by assumption) ?_
                  rotate_left
                  · (intro w hSw; (try dsimp only at hSw); go_simp)
                    try (with_reducible rfl)
                  rotate_left
                  try simp (maxSteps := 4000000) only [Act.put, List.setIfInBounds_toArray, List.set_cons_zero, List.set_cons_succ, List.getElem_toArray, List.getElem_cons_zero, List.getElem_cons_succ]
                  refine wpAnyH_take (i := 5) (v := ?_) rfl (by kernel_rfl) (by kernel_rfl) (by kernel_rfl) (fun _ _ _ h => h) (Or.inl ⟨by kernel_rfl, ?_⟩) (by assumption) ?_
                  rotate_left
                  · (intro w hSw; (try dsimp only at hSw); go_simp)
                    try (with_reducible rfl)
                  rotate_left
                  try simp (maxSteps := 4000000) only [Act.put, List.setIfInBounds_toArray, List.set_cons_zero, List.set_cons_succ, List.getElem_toArray, List.getElem_cons_zero, List.getElem_cons_succ]
                  refine wpAnyH_take (i := 6) (v := ?_) rfl (by kernel_rfl) (by kernel_rfl) (by kernel_rfl) (fun _ _ _ h => h) (Or.inl ⟨by kernel_rfl, ?_⟩) (by assumption) ?_
                  rotate_left
                  · (intro w hSw; (try dsimp only at hSw); go_simp)
                    try (with_reducible rfl)
                  rotate_left
                  try simp (maxSteps := 4000000) only [Act.put, List.setIfInBounds_toArray, List.set_cons_zero, List.set_cons_succ, List.getElem_toArray, List.getElem_cons_zero, List.getElem_cons_succ]
                  refine wpAnyH_take (i := 7) (v := ?_) rfl (by kernel_rfl) (by kernel_rfl) (by kernel_rfl) (fun _ _ _ h => h) (Or.inl ⟨by kernel_rfl, ?_⟩) (by assumption) ?_
                  rotate_left
                  · (intro w hSw; (try dsimp only at hSw); go_simp)
                    try (with_reducible rfl)
                  rotate_left
                  try simp (maxSteps := 4000000) only [Act.put, List.setIfInBounds_toArray, List.set_cons_zero, List.set_cons_succ, List.getElem_toArray, List.getElem_cons_zero, List.getElem_cons_succ]
                  refine wpAnyH_take (i := 8) (v := ?_) rfl (by kernel_rfl) (by kernel_rfl) (by kernel_rfl) (fun _ _ _ h => h) (Or.inl ⟨by kernel_rfl, ?_⟩) (by assumption) ?_
                  rotate_left
                  · (intro w hSw; (try dsimp only at hSw); go_simp)
                    try (with_reducible rfl)
                  rotate_left
                  try simp (maxSteps := 4000000) only [Act.put, List.setIfInBounds_toArray, List.set_cons_zero, List.set_cons_succ, List.getElem_toArray, List.getElem_cons_zero, List.getElem_cons_succ]
                  refine wpAnyH_take (i := 9) (v := ?_) rfl (by kernel_rfl) (by kernel_rfl) (by kernel_rfl) (fun _ _ _ h => h) (Or.inl ⟨by kernel_rfl, ?_⟩) (by assumption) ?_
                  rotate_left
                  · (intro w hSw; (try dsimp only at hSw); go_simp)
                    try (with_reducible rfl)
                  rotate_left
                  try simp (maxSteps := 4000000) only [Act.put, List.setIfInBounds_toArray, List.set_cons_zero, List.set_cons_succ, List.getElem_toArray, List.getElem_cons_zero, List.getElem_cons_succ]
                  refine wpAnyH_take (i := 10) (v := ?_) rfl (by kernel_rfl) (by kernel_rfl) (by kernel_rfl) (fun _ _ _ h => h) (Or.inl ⟨by kernel_rfl, ?_⟩) (by assumption) ?_
                  rotate_left
                  · (intro w hSw; (try dsimp only at hSw); go_simp)
                    try (with_reducible rfl)
                  rotate_left
                  try simp (maxSteps := 4000000) only [Act.put, List.setIfInBounds_toArray, List.set_cons_zero, List.set_cons_succ, List.getElem_toArray, List.getElem_cons_zero, List.getElem_cons_succ]
                  refine wpAnyH_take (i := 11) (v := ?_) rfl (by kernel_rfl) (by kernel_rfl) (by kernel_rfl) (fun _ _ _ h => h) (Or.inl ⟨by kernel_rfl, ?_⟩) (by assumption) ?_
                  rotate_left
                  · (intro w hSw; (try dsimp only at hSw); go_simp)
                    try (with_reducible rfl)
                  rotate_left
                  try simp (maxSteps := 4000000) only [Act.put, List.setIfInBounds_toArray, List.set_cons_zero, List.set_cons_succ, List.getElem_toArray, List.getElem_cons_zero, List.getElem_cons_succ]
                  refine wpAnyH_take (i := 12) (v := ?_) rfl (by kernel_rfl) (by kernel_rfl) (by kernel_rfl) (fun _ _ _ h => h) (Or.inl ⟨by kernel_rfl, ?_⟩) (by assumption) ?_
                  rotate_left
                  · (intro w hSw; (try dsimp only at hSw); go_simp)
                    try (with_reducible rfl)
                  rotate_left
                  try simp (maxSteps := 4000000) only [Act.put, List.setIfInBounds_toArray, List.set_cons_zero, List.set_cons_succ, List.getElem_toArray, List.getElem_cons_zero, List.getElem_cons_succ]
                  refine wpAnyH_take (i := 13) (v := ?_) rfl (by kernel_rfl) (by kernel_rfl) (by kernel_rfl) (fun _ _ _ h => h) (Or.inl ⟨by kernel_rfl, ?_⟩) (by assumption) ?_
                  rotate_left
                  · (intro w hSw; (try dsimp only at hSw); go_simp)
                    try (with_reducible rfl)
                  rotate_left
                  try simp (maxSteps := 4000000) only [Act.put, List.setIfInBounds_toArray, List.set_cons_zero, List.set_cons_succ, List.getElem_toArray, List.getElem_cons_zero, List.getElem_cons_succ]
                  refine wpAnyH_take (i := 14) (v := ?_) rfl (by kernel_rfl) (by kernel_rfl) (by kernel_rfl) (fun _ _ _ h => h) (Or.inl ⟨by kernel_rfl, ?_⟩) (by assumption) ?_
                  rotate_left
                  · (intro w hSw; (try dsimp only at hSw); go_simp)
                    try (with_reducible rfl)
                  rotate_left
                  try simp (maxSteps := 4000000) only [Act.put, List.setIfInBounds_toArray, List.set_cons_zero, List.set_cons_succ, List.getElem_toArray, List.getElem_cons_zero, List.getElem_cons_succ]
                  refine wpAnyH_take (i := 15) (v := ?_) rfl (by kernel_rfl) (by kernel_rfl) (by kernel_rfl) (fun _ _ _ h => h) (Or.inl ⟨by kernel_rfl, ?_⟩) (by assumption) ?_
                  rotate_left
                  · (intro w hSw; (try dsimp only at hSw); go_simp)
                    try (with_reducible rfl)
                  rotate_left
                  try simp (maxSteps := 4000000) only [Act.put, List.setIfInBounds_toArray, List.set_cons_zero, List.set_cons_succ, List.getElem_toArray, List.getElem_cons_zero, List.getElem_cons_succ]
                  refine wpAnyH_ready (rs := [16, 18]) (by kernel_rfl) (by simp) ?_
                  refine AllReadyH.cons rfl (fun K2 hK2 => ?_) (AllReadyH.cons rfl (fun K2 hK2 => ?_) AllReadyH.nil)
                  all_goals go_simp
                  · refine (enow N on _).mono ?_
                    rintro e x3 ⟨rfl, hb3⟩
                    have HW3 : Hid (Below wr.heap.size wr x3) := Lib.hid (thn ((Below.refl _ wr).drew) hb3)
                    have hs3 : (fun w' : World => w'.cell? ⟨bb, off + i * 2 + 1, none⟩ = some (.int .i64 A1) ∧ w'.cell? ⟨G, 0, none⟩ = some (.int .i64 N) ∧ w'.cell? ⟨G, 1, none⟩ = some (.bool on)) x3 := ⟨(hb3.cell (p := ⟨bb, off + i * 2 + 1, none⟩) zR).trans r1, (hb3.cell (p := ⟨G, 0, none⟩) hG).trans c0, (hb3.cell (p := ⟨G, 1, none⟩) hG).trans c1⟩
                    clear hb3
                    refine hK2.out _ _ hs3 (fun hHeld2 => ?_)
                    clear hK2 K2 hHeld
                    have hHeld := hHeld2
                    clear hHeld2
                    try simp (maxSteps := 4000000) only [Act.put, List.setIfInBounds_toArray, List.set_cons_zero, List.set_cons_succ]
                    refine wpAnyH_take (i := 17) (v := ?_) rfl (by kernel_rfl) (by kernel_rfl) (by kernel_rfl) (fun _ _ _ h => h) (Or.inl ⟨by kernel_rfl, ?_⟩) (by assumption) ?_
                    rotate_left
                    · (intro w hSw; (try dsimp only at hSw); go_simp)
                      try (with_reducible rfl)
                    rotate_left
                    try simp (maxSteps := 4000000) only [Act.put, List.setIfInBounds_toArray, List.set_cons_zero, List.set_cons_succ, List.getElem_toArray, List.getElem_cons_zero, List.getElem_cons_succ]
                    refine wpAnyH_ready (rs := [18]) (by kernel_rfl) (by simp) ?_
                    refine AllReadyH.cons rfl (fun K2 hK2 => ?_) AllReadyH.nil
                    go_simp
                    obtain ⟨W5, hW5⟩ : ∃ W5, x3.alloc (.cells #[.int .i64 0, .int .i64 0, .int .i64 0, .int .i64 0, .int .i64 0] 33) = W5 := ⟨_, rfl⟩
                    obtain ⟨X, hX⟩ : ∃ X, x3.heap.size = X := ⟨_, rfl⟩
                    have e5 : W5.cell? ⟨X, 0, none⟩ = some (.int .i64 0) ∧ W5.cell? ⟨X, 1, none⟩ = some (.int .i64 0) ∧ W5.cell? ⟨X, 2, none⟩ = some (.int .i64 0) ∧ W5.cell? ⟨X, 3, none⟩ = some (.int .i64 0) ∧ W5.cell? ⟨X, 4, none⟩ = some (.int .i64 0) := by rw [← hW5, ← hX]; refine ⟨?_, ?_, ?_, ?_, ?_⟩ <;> simp
                    have fz : ∀ o, W5.frozen? ⟨X, o, none⟩ = false := fun o => by rw [← hW5, ← hX]; simp
                    have HW5 : Hid (Below wr.heap.size wr W5) := Lib.hid (by rw [← hW5]; exact alc HW3.out _)
                    have hXw : Hid (wr.heap.size ≤ X) := Lib.hid (by rw [← hX]; exact HW3.out.size)
                    have hX5 : X < W5.heap.size := by rw [← hW5, ← hX]; simp
                    have zz : bb < wr.heap.size ∧ G < wr.heap.size := ⟨zR, hG⟩
                    have hs5 : (fun w' : World => w'.cell? ⟨bb, off + i * 2 + 1, none⟩ = some (.int .i64 A1) ∧ w'.cell? ⟨G, 0, none⟩ = some (.int .i64 N) ∧ w'.cell? ⟨G, 1, none⟩ = some (.bool on)) W5 := ⟨(HW5.out.cell (p := ⟨bb, off + i * 2 + 1, none⟩) zR).trans r1, (HW5.out.cell (p := ⟨G, 0, none⟩) hG).trans c0, (HW5.out.cell (p := ⟨G, 1, none⟩) hG).trans c1⟩
                    rw [hW5]
                    try rw [hX]
                    refine hK2.out _ _ hs5 (fun hHeld2 => ?_)
                    clear hs3 hs5 HW3
                    obtain ⟨e0, e1, e2, e3, e4⟩ := e5
                    clear hW5
                    clear hK2 K2 hHeld
                    have hHeld := hHeld2
                    clear hHeld2
                    try simp (maxSteps := 4000000) only [Act.put, List.setIfInBounds_toArray, List.set_cons_zero, List.set_cons_succ]
                    refine wpAnyH_ready (rs := [19]) (by kernel_rfl) (by simp) ?_
                    refine AllReadyH.cons rfl (fun K2 hK2 => ?_) AllReadyH.nil
                    go_simp
                    obtain ⟨W6, hW6⟩ : ∃ W6, (((((W5.setCell ⟨X, 0, none⟩ (.int .i64 (16 * (i : Int)))).setCell ⟨X, 1, none⟩ (.int .i64 R)).setCell ⟨X, 2, none⟩ (.int .i64 C)).setCell ⟨X, 3, none⟩ (.int .i64 0)).setCell ⟨X, 4, none⟩ (.int .i64 N)) = W6 := ⟨_, rfl⟩
                    have HXI : Hid (XI X W6 ⟨16 * i, R, C, 0, N⟩) := Lib.hid (by rw [← hW6]; exact xi_set ⟨16 * i, R, C, 0, N⟩ hX5 e0 e1 e2 e3 e4 fz)
                    have HW6 : Hid (Below wr.heap.size wr W6) := Lib.hid (by rw [← hW6]; exact (((((HW5.out.setCell hXw.out _).setCell hXw.out _).setCell hXw.out _).setCell hXw.out _).setCell hXw.out _))
                    rw [hW6]
                    clear hW6
                    have hs6 : (fun w' : World => w'.cell? ⟨bb, off + i * 2 + 1, none⟩ = some (.int .i64 A1) ∧ w'.cell? ⟨G, 0, none⟩ = some (.int .i64 N) ∧ w'.cell? ⟨G, 1, none⟩ = some (.bool on)) W6 := ⟨(HW6.out.cell (p := ⟨bb, off + i * 2 + 1, none⟩) zR).trans r1, (HW6.out.cell (p := ⟨G, 0, none⟩) hG).trans c0, (HW6.out.cell (p := ⟨G, 1, none⟩) hG).trans c1⟩
                    refine hK2.out _ _ hs6 (fun hHeld2 => ?_)
                    clear hK2 K2 hHeld
                    have hHeld := hHeld2
                    clear hHeld2 e0 e1 e2 e3 e4
                    try simp (maxSteps := 4000000) only [Act.put, List.setIfInBounds_toArray, List.set_cons_zero, List.set_cons_succ]
                    refine wpAnyH_done (by kernel_rfl) ?_ _
                    go_wp2_with fail
                    go_meet
                    exact ⟨X, rfl, hXw, (by first | exact HXI | exact Lib.hid (HXI.out.keep (Nat.le_refl _) rfl)), Lib.hid (by first | exact HW6.out | exact below_drewN HW6.out _)⟩
                  · skip
                    obtain ⟨W5, hW5⟩ : ∃ W5, (wr.alloc (.cells #[.int .i64 0, .int .i64 0, .int .i64 0, .int .i64 0, .int .i64 0] 33)).drew = W5 := ⟨_, rfl⟩
                    obtain ⟨X, hX⟩ : ∃ X, wr.heap.size = X := ⟨_, rfl⟩
                    have e5 : W5.cell? ⟨X, 0, none⟩ = some (.int .i64 0) ∧ W5.cell? ⟨X, 1, none⟩ = some (.int .i64 0) ∧ W5.cell? ⟨X, 2, none⟩ = some (.int .i64 0) ∧ W5.cell? ⟨X, 3, none⟩ = some (.int .i64 0) ∧ W5.cell? ⟨X, 4, none⟩ = some (.int .i64 0) := by rw [← hW5, ← hX]; refine ⟨?_, ?_, ?_, ?_, ?_⟩ <;> simp
                    have fz : ∀ o, W5.frozen? ⟨X, o, none⟩ = false := fun o => by rw [← hW5, ← hX]; simp
                    have HW5 : Hid (Below wr.heap.size wr W5) := Lib.hid (by rw [← hW5]; exact (alc0 wr _).drew)
                    have hXw : Hid (wr.heap.size ≤ X) := Lib.hid (by omega)
                    have hX5 : X < W5.heap.size := by rw [← hW5, ← hX]; simp
                    have hs5 : (fun w' : World => w'.cell? ⟨bb, off + i * 2 + 1, none⟩ = some (.int .i64 A1) ∧ w'.cell? ⟨G, 0, none⟩ = some (.int .i64 N) ∧ w'.cell? ⟨G, 1, none⟩ = some (.bool on)) W5 := ⟨(HW5.out.cell (p := ⟨bb, off + i * 2 + 1, none⟩) zR).trans r1, (HW5.out.cell (p := ⟨G, 0, none⟩) hG).trans c0, (HW5.out.cell (p := ⟨G, 1, none⟩) hG).trans c1⟩
                    rw [hW5]
                    try rw [hX]
                    refine hK2.out _ _ hs5 (fun hHeld2 => ?_)
                    clear hW5
                    clear hK2 K2 hHeld
                    have hHeld := hHeld2
                    clear hHeld2
                    try simp (maxSteps := 4000000) only [Act.put, List.setIfInBounds_toArray, List.set_cons_zero, List.set_cons_succ]
                    refine wpAnyH_ready (rs := [16]) (by kernel_rfl) (by simp) ?_
                    refine AllReadyH.cons rfl (fun K2 hK2 => ?_) AllReadyH.nil
                    go_simp
                    refine (enow N on _).mono ?_
                    rintro e x3 ⟨rfl, hb3⟩
                    have HW3 : Hid (Below wr.heap.size wr x3) := Lib.hid (thn HW5.out hb3)
                    have hs3 : (fun w' : World => w'.cell? ⟨bb, off + i * 2 + 1, none⟩ = some (.int .i64 A1) ∧ w'.cell? ⟨G, 0, none⟩ = some (.int .i64 N) ∧ w'.cell? ⟨G, 1, none⟩ = some (.bool on)) x3 := ⟨(HW3.out.cell (p := ⟨bb, off + i * 2 + 1, none⟩) zR).trans r1, (HW3.out.cell (p := ⟨G, 0, none⟩) hG).trans c0, (HW3.out.cell (p := ⟨G, 1, none⟩) hG).trans c1⟩
                    have k5 := hb3.block X hX5
                    obtain ⟨e0', e1', e2', e3', e4'⟩ := e5
                    have e0 := (World.cell?_of_block k5 (a := ⟨X, 0, none⟩)).trans e0'
                    have e1 := (World.cell?_of_block k5 (a := ⟨X, 1, none⟩)).trans e1'
                    have e2 := (World.cell?_of_block k5 (a := ⟨X, 2, none⟩)).trans e2'
                    have e3 := (World.cell?_of_block k5 (a := ⟨X, 3, none⟩)).trans e3'
                    have e4 := (World.cell?_of_block k5 (a := ⟨X, 4, none⟩)).trans e4'
                    have fz3 : ∀ o, x3.frozen? ⟨X, o, none⟩ = false := fun o => (World.frozen?_of_block k5 (a := ⟨X, o, none⟩)).trans (fz o)
                    have hX3 : X < x3.heap.size := Nat.lt_of_lt_of_le hX5 hb3.size
                    clear hb3 k5 e0' e1' e2' e3' e4' fz
                    refine hK2.out _ _ hs3 (fun hHeld2 => ?_)
                    clear hK2 K2 hHeld
                    have hHeld := hHeld2
                    clear hHeld2
                    try simp (maxSteps := 4000000) only [Act.put, List.setIfInBounds_toArray, List.set_cons_zero, List.set_cons_succ]
                    refine wpAnyH_take (i := 17) (v := ?_) rfl (by kernel_rfl) (by kernel_rfl) (by kernel_rfl) (fun _ _ _ h => h) (Or.inl ⟨by kernel_rfl, ?_⟩) (by assumption) ?_
                    rotate_left
                    · (intro w hSw; (try dsimp only at hSw); go_simp)
                      try (with_reducible rfl)
                    rotate_left
                    try simp (maxSteps := 4000000) only [Act.put, List.setIfInBounds_toArray, List.set_cons_zero, List.set_cons_succ, List.getElem_toArray, List.getElem_cons_zero, List.getElem_cons_succ]
                    refine wpAnyH_ready (rs := [19]) (by kernel_rfl) (by simp) ?_
                    refine AllReadyH.cons rfl (fun K2 hK2 => ?_) AllReadyH.nil
                    go_simp
                    obtain ⟨W6, hW6⟩ : ∃ W6, (((((x3.setCell ⟨X, 0, none⟩ (.int .i64 (16 * (i : Int)))).setCell ⟨X, 1, none⟩ (.int .i64 R)).setCell ⟨X, 2, none⟩ (.int .i64 C)).setCell ⟨X, 3, none⟩ (.int .i64 0)).setCell ⟨X, 4, none⟩ (.int .i64 N)) = W6 := ⟨_, rfl⟩
                    have HXI : Hid (XI X W6 ⟨16 * i, R, C, 0, N⟩) := Lib.hid (by rw [← hW6]; exact xi_set ⟨16 * i, R, C, 0, N⟩ hX3 e0 e1 e2 e3 e4 fz3)
                    have HW6 : Hid (Below wr.heap.size wr W6) := Lib.hid (by rw [← hW6]; exact (((((HW3.out.setCell hXw.out _).setCell hXw.out _).setCell hXw.out _).setCell hXw.out _).setCell hXw.out _))
                    rw [hW6]
                    clear hW6
                    have hs6 : (fun w' : World => w'.cell? ⟨bb, off + i * 2 + 1, none⟩ = some (.int .i64 A1) ∧ w'.cell? ⟨G, 0, none⟩ = some (.int .i64 N) ∧ w'.cell? ⟨G, 1, none⟩ = some (.bool on)) W6 := ⟨(HW6.out.cell (p := ⟨bb, off + i * 2 + 1, none⟩) zR).trans r1, (HW6.out.cell (p := ⟨G, 0, none⟩) hG).trans c0, (HW6.out.cell (p := ⟨G, 1, none⟩) hG).trans c1⟩
                    refine hK2.out _ _ hs6 (fun hHeld2 => ?_)
                    clear hK2 K2 hHeld
                    have hHeld := hHeld2
                    clear hHeld2 e0 e1 e2 e3 e4
                    try simp (maxSteps := 4000000) only [Act.put, List.setIfInBounds_toArray, List.set_cons_zero, List.set_cons_succ]
                    refine wpAnyH_done (by kernel_rfl) ?_ _
                    go_wp2_with fail
                    go_meet
                    exact ⟨X, rfl, hXw, (by first | exact HXI | exact Lib.hid (HXI.out.keep (Nat.le_refl _) rfl)), Lib.hid (by first | exact HW6.out | exact below_drewN HW6.out _)⟩
              case rest =>
                obtain ⟨X, rfl, HXw, HX, HBx⟩ := hcut
                obtain ⟨b', hbX, hQV⟩ := HN.out.fix X HXw.out
                have HQ : Hid (QV B0 g b' bm G w wc (.slice A4 ms.length c4) ms ms N on) := Lib.hid (hQV.below HBx.out)
                have hXd : X ≠ g ∧ X ≠ b' ∧ X ≠ bm ∧ X ≠ G := by
                  have h0 := HXw.out
                  have h1 := hQV.1.1
                  have h2 := hQV.2.2.2.2.1.2.2.1
                  exact ⟨by omega, Ne.symm hbX, by omega, by omega⟩
                have HXd := Lib.hid hXd
                have hBX : B0 ≤ X := by have := HXw.out; omega
                clear hQV HN HE hXd c0 c1 p0 p1 r1
                obtain ⟨P0, hP0⟩ : ∃ P0, 16 * (i : Int) = P0 := ⟨_, rfl⟩
                have hP9 : 0 ≤ P0 ∧ P0 ≤ 960 ∧ P0 ≠ 7 := by omega
                rw [hP0] at HX
                clear hP0 hw16
                have r1 := HRC.out wc HQ.out.2.2.2.2.2.2
                obtain ⟨x0, ⟨x1, x2, x3, x4, x5⟩, x6⟩ := HX.out
                go_upto_region 7 with (fail)
                go_cut [67] from 37 to 98 (fun v67 wx => ∃ Y : Bool, v67 = .bool Y ∧ Hid (Y = true → 0 < N) ∧ wc = wx)
                case first =>
                  by_cases hD : D = 15
                  · have hD2 : (D == 15) = true := by simpa using hD
                    by_cases hN0 : 0 < N
                    · have hN9 : decide (0 < N) = true := decide_eq_true hN0
                      go_wp2_with fail
                      go_meet
                      exact ⟨true, by first | rfl | simp [hD2], Lib.hid (fun _ => hN0), rfl⟩
                    · have hN9 : decide (0 < N) = false := decide_eq_false hN0
                      go_wp2_with fail
                      go_meet
                      exact ⟨false, by first | rfl | simp [hD2], Lib.hid (fun h => by simp at h), rfl⟩
                  · have hD2 : (D == 15) = false := by simpa using hD
                    go_wp2_with fail
                    go_meet
                    exact ⟨false, by first | rfl | simp [hD2], Lib.hid (fun h => by simp at h), rfl⟩
                case rest =>
                  obtain ⟨Y, rfl, HY, rfl⟩ := hcut
                  clear f1 f2 f3 r1
                  go_step
                  go_cut [10] from 37 to 98 (fun v10 wx => v10 = .pointer (some ⟨X, 0, none⟩) ∧ ∃ ep : Int, Hid (0 ≤ ep ∧ ep ≤ N) ∧ Hid (XI X wx ⟨P0, R, C, 0, ep⟩) ∧ Hid (QV B0 g b' bm G w wx (.slice A4 ms.length c4) ms ms N on))
                  case first =>
                    as_aux_lemma =>
                      cases Y with
                      | true =>
                        have hY := HY.out rfl
                        have hw : IntKind.i64.wrap (N - 1) = N - 1 := by rw [IntKind.wrap_i64]; omega
                        have y4 := x6 4
                        have HXe : Hid (XI X (wc.setCell ⟨X, 4, none⟩ (.int .i64 (N - 1))) ⟨P0, R, C, 0, N - 1⟩) := Lib.hid (HX.out.sete (N - 1))
                        have HQe : Hid (QV B0 g b' bm G w (wc.setCell ⟨X, 4, none⟩ (.int .i64 (N - 1))) (.slice A4 ms.length c4) ms ms N on) := Lib.hid (HQ.out.far HXd.out hBX)
                        go_wp2_with fail
                        go_meet
                        exact ⟨rfl, N - 1, Lib.hid ⟨by omega, by omega⟩, HXe, HQe⟩
                      | false =>
                        go_wp2_with fail
                        go_meet
                        exact ⟨rfl, N, Lib.hid ⟨by omega, by omega⟩, HX, HQ⟩
                  case rest =>
                    clear HX HQ x0 x1 x2 x3 x4 x5 x6 HY HBx
                    obtain ⟨rfl, ep, HEp, HX2, HQ2⟩ := hcut
                    obtain ⟨p, hp⟩ : ∃ p : It, (⟨P0, R, C, 0, ep⟩ : It) = p := ⟨_, rfl⟩
                    have HOK : Hid (OKI p) := Lib.hid (by rw [← hp]; have := HEp.out; exact ⟨⟨hR0, hR1⟩, ⟨this.1, Int.le_trans this.2 (by omega)⟩, hP9⟩)
                    rw [hp] at HX2
                    clear hp HEp hP9 hR0 hR1
                    obtain ⟨x0, ⟨cx0, cx1, cx2, cx3, cx4⟩, x6⟩ := HX2.out
                    go_upto_region 9 with (fail)
                    go_cut [11] from 37 to 98 (fun v11 wx => ∃ ok : Bool, v11 = .bool ok ∧ Hid ((ok = true ∧ (ms = [] ∨ ∃ l q, ms = l ++ [q] ∧ q.ep ≤ p.ep)) ∨ (ok = false ∧ ∃ l q, ms = l ++ [q] ∧ p.ep < q.ep)) ∧ Hid (XI X wx p) ∧ Hid (QV B0 g b' bm G w wx (.slice A4 ms.length c4) ms ms N on))
                    case first =>
                      as_aux_lemma =>
                        have HXq : ∀ q, Hid (XI X (wc.drewN q) p) := fun q => Lib.hid (HX2.out.keep (Nat.le_refl _) rfl)
                        have HQq : ∀ q, Hid (QV B0 g b' bm G w (wc.drewN q) (.slice A4 ms.length c4) ms ms N on) := fun q => Lib.hid (HQ2.out.drw q)
                        rcases List.eq_nil_or_concat ms with h0 | ⟨l, q, hlq⟩
                        · have HH := Lib.hid h0
                          have hb0 : ((ms.length : Int) == 0) = true := by rw [h0]; rfl
                          clear h0 HX2 HQ2 HB
                          go_wp2_with fail
                          go_quiet (fail)
                          go_wp2_with fail
                          go_meet
                          exact ⟨true, rfl, Lib.hid (.inl ⟨rfl, .inl HH.out⟩), HXq _, HQq _⟩
                        · rw [List.concat_eq_append] at hlq
                          have HH := Lib.hid hlq
                          rcases vi_open HQ2.out.2.1 with ⟨_, e⟩ | ⟨off5, c5, e5, m7, m8, m9, m10⟩
                          · rw [e] at hlq; simp at hlq
                          · obtain ⟨_, _, _, _, z4⟩ := m10 l.length q (by rw [hlq]; simp)
                            injection e5 with e1 e2 e3
                            subst e1; subst e3
                            have hl1 : ms.length = l.length + 1 := by rw [hlq]; simp
                            have i1 : IntKind.i64.wrap ((ms.length : Int) - 1) = l.length := by rw [IntKind.wrap_i64]; omega
                            have i2 : (ms.length : Int) - 1 = l.length := by omega
                            have i3 : (l.length : Int) < ms.length := by omega
                            have i4 : ((ms.length : Int) == 0) = false := by rw [beq_eq_false_iff_ne]; omega
                            have i5 : ¬ (ms.length : Int) = 0 := by omega
                            clear m10 m7 m8 m9 e2 HX2 HQ2 HB hlq hl1
                            by_cases hle : q.ep ≤ p.ep
                            · have hd : decide (q.ep ≤ p.ep) = true := decide_eq_true hle
                              go_wp2_with fail
                              go_quiet (fail)
                              go_wp2_with fail
                              go_meet
                              exact ⟨true, by first | rfl | simp [hle], Lib.hid (.inl ⟨rfl, .inr ⟨l, q, HH.out, hle⟩⟩), HXq _, HQq _⟩
                            · have hd : decide (q.ep ≤ p.ep) = false := decide_eq_false hle
                              go_wp2_with fail
                              go_quiet (fail)
                              go_wp2_with fail
                              go_meet
                              exact ⟨false, by first | rfl | simp [hle], Lib.hid (.inr ⟨rfl, l, q, HH.out, by omega⟩), HXq _, HQq _⟩
                    case rest =>
                      clear HX2 HQ2 x0 cx0 cx1 cx2 cx3 cx4 x6
                      obtain ⟨ok, rfl, HO, HX2, HQ2⟩ := hcut
                      obtain ⟨x0, ⟨cx0, cx1, cx2, cx3, cx4⟩, x6⟩ := HX2.out
                      cases ok with
                      | false =>
                        as_aux_lemma =>
                          obtain ⟨l, q, hlq, hlt⟩ : ∃ l q, ms = l ++ [q] ∧ p.ep < q.ep := by
                            rcases HO.out with ⟨h, _⟩ | ⟨_, h⟩
                            · simp at h
                            · exact h
                          have HLQ := Lib.hid hlq
                          have hll : l.length ≤ 100 := by have := congrArg List.length hlq; simp at this; omega
                          have HB9 : Hid (QB (i + 1) ms N) := Lib.hid (HB.out.up (by omega))
                          clear hlq HO
                          go_wp2_with fail
                          refine (qput_no g b' l q p.at_ p.room p.cls p.thr p.ep _ (by rw [← HLQ.out]; exact HQ2.out.1) hlt hll).mono ?_
                          rintro e x1 ⟨rfl, hb⟩
                          have HQ3 := Lib.hid (HQ2.out.below hb)
                          clear hb HQ2 HX2 x0 cx0 cx1 cx2 cx3 cx4 x6
                          go_wp2_with fail
                          go_meet
                          exact ⟨ms, b', bm, N, on, HQ3, HB9⟩
                      | true =>
                        skip
                        skip
                        have hlq : ms = [] ∨ ∃ l q, ms = l ++ [q] ∧ q.ep ≤ p.ep := by
                          rcases HO.out with ⟨_, h⟩ | ⟨h, _⟩
                          · exact h
                          · simp at h
                        have HLQ := Lib.hid hlq
                        have HB9 : Hid (QB (i + 1) (ms ++ [p]) N) := Lib.hid ⟨by rw [List.length_append]; have := HB.out.1; simp; omega, hN, by omega, by omega, fun y hy => by
                          rcases List.mem_append.1 hy with h | h
                          · exact HB.out.2.2.2.2 y h
                          · simp at h; subst h; exact HOK.out⟩
                        clear hlq HO
                        go_wp2_with fail
                        refine (qput_any g b' ms p _ HQ2.out.1 HLQ.out (by omega)).mono ?_
                        rintro e W5 ⟨rfl, b2, hb2, hf2, hs2⟩
                        have k5 := hf2.2.1 X x0 HXd.out.1 HXd.out.2.1
                        have HX3 := Lib.hid (HX2.out.keep hf2.1 k5)
                        have HV5 : Hid (QV B0 g b2 bm G w W5 (.slice A4 ms.length c4) ms (ms ++ [p]) N on) := Lib.hid (HQ2.out.fr hf2 hs2 hb2)
                        clear hb2 hf2 hs2 k5 HQ2 HX2 x0 cx0 cx1 cx2 cx3 cx4 x6
                        obtain ⟨hX, ⟨cx0, cx1, cx2, cx3, cx4⟩, x6⟩ := HX3.out
                        obtain ⟨off7, c7', e7, m7, m8, m9⟩ : ∃ off c', (Value.slice A4 ms.length c4) = .slice (some ⟨bm, off, none⟩) ms.length c' ∧ bm < W5.heap.size ∧ ms.length ≤ c' ∧ Hid (At W5 bm off (ms.flatMap enc5)) := by
                          obtain ⟨A, c, e, q1, q2, q3, q4, ⟨q5, q6, q7⟩ | ⟨off', q6, q7, q8, _⟩⟩ := HV5.out.2.1
                          · refine absurd ?_ HV5.out.2.2.1
                            rw [e, q5, q6, q7]
                          · exact ⟨off', c, by rw [e, q6], q7, q2, Lib.hid q8⟩
                        injection e7 with e1 e2 e3
                        subst e1; subst e3
                        have HFL : Hid ((ms.flatMap enc5).length = ms.length * 5) := Lib.hid (flat_len enc5 5 enc5_len ms)
                        have hXB : X ≠ bm := HXd.out.2.2.1
                        clear e2
                        go_wp2_with fail
                        go_region_law (first | (refine step_app_vz tyItem rfl (.tmp 93) (.tmp 94) rfl W5.heap.size (.slice (some ⟨W5.heap.size, 0, none⟩) 0 0) 0 [] (by simp [Act.eval, Act.put]) (vz_made 5 W5.drew _) ⟨bm, off7, none⟩ ms.length c4 (ms.flatMap enc5) (by simp [Act.eval, Act.put]) HFL.out (fun j u hu => by rw [addp]; exact (World.cell?_of_block (Below.heap_alloc W5.drew _ _ m7)).trans (m9.out j u hu)) (enc5_one ms) (by omega) ?_; rintro v' w' hp9 hnn9; simp only [Nat.zero_add, List.nil_append] at hp9; obtain ⟨b9, hb9, hv9, hs9, ho9, hl9⟩ := hp9; have k16 : w'.heap[X]? = W5.heap[X]? := (ho9 X (by simp <;> omega) (by omega)).trans (Below.heap_alloc W5.drew _ _ hX); have cy0 := (World.cell?_of_block k16 (a := ⟨X, 0, none⟩)).trans cx0; have cy1 := (World.cell?_of_block k16 (a := ⟨X, 1, none⟩)).trans cx1; have cy2 := (World.cell?_of_block k16 (a := ⟨X, 2, none⟩)).trans cx2; have cy3 := (World.cell?_of_block k16 (a := ⟨X, 3, none⟩)).trans cx3; have cy4 := (World.cell?_of_block k16 (a := ⟨X, 4, none⟩)).trans cx4; have hX9 : X < w'.heap.size := Nat.lt_of_lt_of_le hX (Nat.le_trans (by simp) hs9); have hB9 : Below W5.heap.size W5 w' := (alc ((Below.refl _ W5).drew) _).trans (hl9 _ (Nat.le_refl _) (by simp <;> omega)); have hb9' : W5.heap.size ≤ b9 := (by rcases hb9 with rfl | h; exact Nat.le_refl _; simp at h; omega); have hsz9 : W5.heap.size ≤ w'.heap.size := hB9.size; have hnv9 : v' ≠ .slice none 0 0 := fun h => by have := hnn9 h; simp at this) | (refine step_app_vz tyItem rfl (.tmp 93) (.tmp 94) rfl W5.heap.size (.slice (some ⟨W5.heap.size, 0, none⟩) 0 0) 0 [] (by simp [Act.eval, Act.put]) ((vz_made 5 W5.drew _).below (alc0 _ _)) ⟨bm, off7, none⟩ ms.length c4 (ms.flatMap enc5) (by simp [Act.eval, Act.put]) HFL.out (fun j u hu => by rw [addp]; exact (World.cell?_of_block ((Below.heap_alloc (W5.drew.alloc _) _ _ (by simp <;> omega)).trans (Below.heap_alloc W5.drew _ _ m7))).trans (m9.out j u hu)) (enc5_one ms) (by omega) ?_; rintro v' w' hp9 hnn9; simp only [Nat.zero_add, List.nil_append] at hp9; obtain ⟨b9, hb9, hv9, hs9, ho9, hl9⟩ := hp9; have hB9 : Below W5.heap.size W5 w' := (alc (alc ((Below.refl _ W5).drew) _) _).trans (hl9 _ (Nat.le_refl _) (by simp <;> omega)); have hb9' : W5.heap.size ≤ b9 := (by rcases hb9 with rfl | h; exact Nat.le_refl _; simp at h; omega); have hsz9 : W5.heap.size ≤ w'.heap.size := hB9.size; have hnv9 : v' ≠ .slice none 0 0 := (fun h => by have := hnn9 h; simp at this); have k72 := ho9 (W5.heap.size + 1) (by simp <;> omega) (by omega); have c42 : ∀ j u, ([.int .i64 p.at_, .int .i64 p.room, .int .i64 p.cls, .int .i64 p.thr, .int .i64 p.ep] : List Value)[j]? = some u → w'.cell? ((⟨W5.heap.size + 1, 0, none⟩ : Addr).add j) = some u := (fun j u hu => by have h := new5 (W5.drew.alloc (.cells #[] 33)) p.at_ p.room p.cls p.thr p.ep 33 j u hu; have hz1 : (W5.drew.alloc (.cells #[] 33)).heap.size = W5.heap.size + 1 := (by simp); rw [hz1] at h; rw [addp] at h ⊢; exact (World.cell?_of_block k72).trans h)) | (refine step_app_vz tyItem rfl (.tmp 93) (.tmp 94) rfl (W5.heap.size + 1) (.slice (some ⟨W5.heap.size + 1, 0, none⟩) 0 0) 0 [] (by simp [Act.eval, Act.put]) (by have h := vz_made 5 (W5.drew.alloc (.cells #[.int .i64 p.at_, .int .i64 p.room, .int .i64 p.cls, .int .i64 p.thr, .int .i64 p.ep] 33)) 33; have hz1 : (W5.drew.alloc (.cells #[.int .i64 p.at_, .int .i64 p.room, .int .i64 p.cls, .int .i64 p.thr, .int .i64 p.ep] 33)).heap.size = W5.heap.size + 1 := (by simp); rw [hz1] at h; exact h) ⟨bm, off7, none⟩ ms.length c4 (ms.flatMap enc5) (by simp [Act.eval, Act.put]) HFL.out (fun j u hu => by rw [addp]; exact (World.cell?_of_block ((Below.heap_alloc (W5.drew.alloc _) _ _ (by simp <;> omega)).trans (Below.heap_alloc W5.drew _ _ m7))).trans (m9.out j u hu)) (enc5_one ms) (by omega) ?_; rintro v' w' hp9 hnn9; simp only [Nat.zero_add, List.nil_append] at hp9; obtain ⟨b9, hb9, hv9, hs9, ho9, hl9⟩ := hp9; have hB9 : Below W5.heap.size W5 w' := (alc (alc ((Below.refl _ W5).drew) _) _).trans (hl9 _ (by omega) (by simp <;> omega)); have hb9' : W5.heap.size ≤ b9 := (by rcases hb9 with rfl | h; omega; simp at h; omega); have hsz9 : W5.heap.size ≤ w'.heap.size := hB9.size; have hnv9 : v' ≠ .slice none 0 0 := (fun h => by have := hnn9 h; simp at this); have k72 := ho9 W5.heap.size (by simp <;> omega) (by omega); have c42 : ∀ j u, ([.int .i64 p.at_, .int .i64 p.room, .int .i64 p.cls, .int .i64 p.thr, .int .i64 p.ep] : List Value)[j]? = some u → w'.cell? ((⟨W5.heap.size, 0, none⟩ : Addr).add j) = some u := (fun j u hu => by have h := new5 W5.drew p.at_ p.room p.cls p.thr p.ep 33 j u hu; rw [addp] at h ⊢; exact ((World.cell?_of_block k72).trans (World.cell?_of_block (Below.heap_alloc _ _ _ (by simp)))).trans h)) | (refine step_app_vz tyItem rfl (.tmp 95) (.tmp 97) rfl b9 v' ms.length (ms.flatMap enc5) (by simp [Act.eval, Act.put]) (hv9.below (alc0 w' _)) ⟨w'.heap.size, 0, none⟩ 1 1 [.int .i64 p.at_, .int .i64 p.room, .int .i64 p.cls, .int .i64 p.thr, .int .i64 p.ep] (by simp [Act.eval, Act.put]) rfl (new5 w' p.at_ p.room p.cls p.thr p.ep _) (by simp [Value.oneCell']) (by omega) ?_; rintro v'' w'' ⟨b8, hb8, hv8, hs8, ho8, hl8⟩ hnn8; have hB8 : Below W5.heap.size W5 w'' := (alc hB9 _).trans (hl8 _ hb9' (by simp <;> omega)); have hb8' : W5.heap.size ≤ b8 := (by rcases hb8 with rfl | h; omega; simp at h; omega)) | (refine step_app_vz tyItem rfl (.tmp 95) (.tmp 97) rfl b9 v' ms.length (ms.flatMap enc5) (by simp [Act.eval, Act.put]) hv9 ⟨W5.heap.size + 1, 0, none⟩ 1 1 [.int .i64 p.at_, .int .i64 p.room, .int .i64 p.cls, .int .i64 p.thr, .int .i64 p.ep] (by simp [Act.eval, Act.put]) rfl c42 (by simp [Value.oneCell']) (by omega) ?_; rintro v'' w'' ⟨b8, hb8, hv8, hs8, ho8, hl8⟩ hnn8; have hB8 : Below W5.heap.size W5 w'' := hB9.trans (hl8 _ hb9' (by omega)); have hb8' : W5.heap.size ≤ b8 := (by rcases hb8 with rfl | h; omega; omega)) | (refine step_app_vz tyItem rfl (.tmp 95) (.tmp 97) rfl b9 v' ms.length (ms.flatMap enc5) (by simp [Act.eval, Act.put]) hv9 ⟨W5.heap.size, 0, none⟩ 1 1 [.int .i64 p.at_, .int .i64 p.room, .int .i64 p.cls, .int .i64 p.thr, .int .i64 p.ep] (by simp [Act.eval, Act.put]) rfl c42 (by simp [Value.oneCell']) (by omega) ?_; rintro v'' w'' ⟨b8, hb8, hv8, hs8, ho8, hl8⟩ hnn8; have hB8 : Below W5.heap.size W5 w'' := hB9.trans (hl8 _ hb9' (by omega)); have hb8' : W5.heap.size ≤ b8 := (by rcases hb8 with rfl | h; omega; omega)))
                        all_goals
                          as_aux_lemma =>
                            have hva : VI b8 w'' v'' (ms ++ [p]) := by
                              show VZ 5 b8 w'' v'' (ms ++ [p]).length ((ms ++ [p]).flatMap enc5)
                              rw [List.flatMap_append, List.length_append]
                              exact hv8
                            have hnv : v'' ≠ .slice none 0 0 := fun h => hnv9 (hnn8 h)
                            obtain ⟨b7, hfin⟩ := HV5.out.newm hB8 hva hnv hb8'
                            have HFN := Lib.hid hfin
                            clear hfin hva hnv hB8 hb8' hb9' hB9 hs8 ho8 hl8 hv9 hs9 ho9 hl9 hb9 hb8 hnn8 hnn9 hnv9 hsz9 hv8
                            go_wp2_with fail
                            go_meet
                            exact ⟨ms ++ [p], b7, b8, N, on, HFN, HB9⟩
          case rest =>
            skip
            as_aux_lemma =>
              clear HN HB
              obtain ⟨ms2, b2, bm2, N2, on2, HN, HB⟩ := hcut
              have hml : ms2.length ≤ 61 := by have := HB.out.1; omega
              have hsh := HN.out.2.1
              obtain ⟨A7, c7, rfl, _⟩ := hsh
              go_wp2_with fail
              refine (qlist g b2 ms2 _ HN.out.1 (by omega)).mono ?_
              rintro e x1 ⟨bl, vl, rfl, hbl, hvl, hbel⟩
              have hsh := hvl
              obtain ⟨A8, c8, rfl, _⟩ := hsh
              have HL := Lib.hid hvl
              have HN2 := Lib.hid (HN.out.below hbel)
              clear hvl hbel HN
              have HN := HN2
              clear HN2
              go_wp2_with fail
              refine (qlen g b2 ms2 _ HN.out.1).mono ?_
              rintro e x2 ⟨rfl, rfl⟩
              go_wp2_with fail
              go_loopw [12, 13, 15] (fun v12 v13 v15 wx => ∃ j : Nat, j ≤ ms2.length ∧ v15 = .int .i64 j ∧ v12 = .int .i64 (sumR (ms2.take j)) ∧ v13 = .int .i64 (nbp ms2 j) ∧ Hid (Below x1.heap.size x1 wx)) (fun _ _ v15 _ => ms2.length - (intOf v15).toNat)
              case atStart => exact ⟨0, by omega, rfl, rfl, rfl, Lib.hid (Below.refl _ _)⟩
              case round =>
                obtain ⟨j, hj, rfl, rfl, rfl, HW⟩ := hrel
                by_cases hjl : j < ms2.length
                · rcases vi_open HL.out with ⟨_, rfl⟩ | ⟨off8, c8', e, p7, p8, p9, p10⟩
                  · simp at hjl
                  · rcases vi_open HN.out.2.1 with ⟨_, rfl⟩ | ⟨off7, c7', e7, m7, m8, m9, m10⟩
                    · simp at hjl
                    · injection e with e1 e2 e3
                      subst e1; subst e3
                      injection e7 with e1 e2 e3
                      subst e1; subst e3
                      obtain ⟨p, hpj⟩ : ∃ p, ms2[j]? = some p := ⟨_, List.getElem?_eq_getElem hjl⟩
                      obtain ⟨u0, u1, u2, u3, u4⟩ := p10 j p hpj
                      obtain ⟨y0, y1, y2, y3, y4⟩ := m10 j p hpj
                      have HCM : Hid (∀ k q, ms2[k]? = some q → wr.cell? ⟨bm2, off7 + k * 5 + 4, none⟩ = some (.int .i64 q.ep)) := Lib.hid fun k q hq => (HW.out.cell (p := ⟨bm2, off7 + k * 5 + 4, none⟩) m7).trans (m10 k q hq).2.2.2.2
                      have r0 := (HW.out.cell (p := ⟨bl, off8 + j * 5, none⟩) p7).trans u0
                      have r1 := (HW.out.cell (p := ⟨bl, off8 + j * 5 + 1, none⟩) p7).trans u1
                      have r2 := (HW.out.cell (p := ⟨bl, off8 + j * 5 + 2, none⟩) p7).trans u2
                      have r3 := (HW.out.cell (p := ⟨bl, off8 + j * 5 + 3, none⟩) p7).trans u3
                      have r4 := (HW.out.cell (p := ⟨bl, off8 + j * 5 + 4, none⟩) p7).trans u4
                      have t0 := (HW.out.cell (p := ⟨bm2, off7 + j * 5, none⟩) m7).trans y0
                      have t1 := (HW.out.cell (p := ⟨bm2, off7 + j * 5 + 1, none⟩) m7).trans y1
                      have t2 := (HW.out.cell (p := ⟨bm2, off7 + j * 5 + 2, none⟩) m7).trans y2
                      have t3 := (HW.out.cell (p := ⟨bm2, off7 + j * 5 + 3, none⟩) m7).trans y3
                      have t4 := (HW.out.cell (p := ⟨bm2, off7 + j * 5 + 4, none⟩) m7).trans y4
                      have hok := HB.out.2.2.2.2
                      have hb := sumR_bd (ms2.take j) (fun x hx => (hok x (List.mem_of_mem_take hx)).1)
                      have hpb := (hok p (List.mem_of_getElem? hpj)).1
                      have htl : (ms2.take j).length ≤ 61 := by rw [List.length_take]; omega
                      have hs := sumR_take ms2 j p hpj
                      have hnl := nbp_le ms2 j
                      have hany := anyAt_mem hpj
                      have HNB : Hid ((fst ms2 j → nbp ms2 (j + 1) = nbp ms2 j + 1) ∧ (¬ fst ms2 j → nbp ms2 (j + 1) = nbp ms2 j)) := Lib.hid ⟨nbp_yes ms2 j, nbp_no ms2 j⟩
                      obtain ⟨sm, hsd⟩ : ∃ s, sumR (ms2.take j) = s := ⟨_, rfl⟩
                      obtain ⟨nb, hnb⟩ : ∃ s, nbp ms2 j = s := ⟨_, rfl⟩
                      rw [hsd] at hs hb ⊢
                      rw [hnb] at hnl HNB ⊢
                      have HS := Lib.hid hs
                      have HP := Lib.hid hpj
                      have HANY := Lib.hid hany
                      clear p10 m10 u0 u1 u2 u3 u4 y0 y1 y2 y3 y4 hs hsd hnb hok hpj hany
                      have i1 : (j : Int) < ms2.length := by omega
                      have hw : IntKind.i64.wrap (sm + p.room) = sm + p.room := by rw [IntKind.wrap_i64]; omega
                      go_upto_region 38 with (fail)
                      go_cut [216] from 188 to 237 (fun v216 wx => ∃ X : Bool, v216 = .bool X ∧ Hid (nbp ms2 (j + 1) = if X then nb + 1 else nb) ∧ ∃ q, Hid (wx = wr.drewN q))
                      case first =>
                        rcases (show j = 0 ∨ ∃ k, j = k + 1 from by cases j with | zero => exact .inl rfl | succ k => exact .inr ⟨k, rfl⟩) with rfl | ⟨k, rfl⟩
                        · have HN1 := Lib.hid (HNB.out.1 (.inl rfl))
                          go_wp2_with fail
                          go_quiet (fail)
                          go_wp2_with fail
                          go_meet
                          exact ⟨true, rfl, Lib.hid (by rw [HN1.out]; rfl), _, Lib.hid rfl⟩
                        · obtain ⟨q, hq⟩ : ∃ q, ms2[k]? = some q := ⟨_, List.getElem?_eq_getElem (by omega)⟩
                          have z4 := HCM.out k q hq
                          have hk0 : ((k : Int) + 1 == 0) = false := by rw [beq_eq_false_iff_ne]; omega
                          have hk1 : (k : Int) + 1 - 1 = k := by omega
                          have hk2 : IntKind.i64.wrap ((k : Int) + 1 - 1) = k := by rw [IntKind.wrap_i64]; omega
                          have hk3 : (k : Int) < ms2.length := by omega
                          by_cases he : p.ep = q.ep
                          · have HN1 := Lib.hid (HNB.out.2 (fst_no ms2 k p q HP.out hq he))
                            have he2 : (p.ep == q.ep) = true := by simpa using he
                            have HE := Lib.hid he
                            clear he hq HP
                            go_wp2_with fail
                            go_quiet (fail)
                            go_wp2_with fail
                            go_meet
                            exact ⟨false, by first | rfl | (simp [HE.out]), Lib.hid (by rw [HN1.out]; rfl), _, Lib.hid rfl⟩
                          · have HN1 := Lib.hid (HNB.out.1 (fst_yes ms2 k p q HP.out hq he))
                            have he2 : (p.ep == q.ep) = false := by simpa using he
                            have HE := Lib.hid he
                            clear he hq HP
                            go_wp2_with fail
                            go_quiet (fail)
                            go_wp2_with fail
                            go_meet
                            exact ⟨true, by first | rfl | (simp [HE.out]), Lib.hid (by rw [HN1.out]; rfl), _, Lib.hid rfl⟩
                      case rest =>
                        obtain ⟨X, rfl, HXn, q9, HX⟩ := hcut
                        have HW9 : Hid (Below x1.heap.size x1 wc) := Lib.hid (by rw [HX.out]; exact below_drewN HW.out _)
                        have HC9 : Hid ((wc.cell? ⟨bl, off8 + j * 5, none⟩ = some (.int .i64 p.at_) ∧ wc.cell? ⟨bl, off8 + j * 5 + 1, none⟩ = some (.int .i64 p.room) ∧ wc.cell? ⟨bl, off8 + j * 5 + 2, none⟩ = some (.int .i64 p.cls) ∧ wc.cell? ⟨bl, off8 + j * 5 + 3, none⟩ = some (.int .i64 p.thr) ∧ wc.cell? ⟨bl, off8 + j * 5 + 4, none⟩ = some (.int .i64 p.ep)) ∧ wc.cell? ⟨bm2, off7 + j * 5, none⟩ = some (.int .i64 p.at_) ∧ wc.cell? ⟨bm2, off7 + j * 5 + 1, none⟩ = some (.int .i64 p.room) ∧ wc.cell? ⟨bm2, off7 + j * 5 + 2, none⟩ = some (.int .i64 p.cls) ∧ wc.cell? ⟨bm2, off7 + j * 5 + 3, none⟩ = some (.int .i64 p.thr) ∧ wc.cell? ⟨bm2, off7 + j * 5 + 4, none⟩ = some (.int .i64 p.ep)) := Lib.hid (by
                          rw [HX.out]
                          exact ⟨⟨r0, r1, r2, r3, r4⟩, t0, t1, t2, t3, t4⟩)
                        have HQ9 := Lib.hid (HN.out.1.below HW9.out)
                        clear HX HCM r0 r1 r2 r3 r4 t0 t1 t2 t3 t4 HNB
                        go_step
                        go_cut [13] from 188 to 237 (fun v13 wx => v13 = .int .i64 (nbp ms2 (j + 1)) ∧ wc = wx)
                        case first =>
                          cases X with
                          | true =>
                            go_wp2_with fail
                            go_meet
                            exact ⟨by rw [HXn.out]; go_num, rfl⟩
                          | false =>
                            go_wp2_with fail
                            go_meet
                            exact ⟨by rw [HXn.out]; rfl, rfl⟩
                        case rest =>
                          obtain ⟨rfl, rfl⟩ := hcut
                          obtain ⟨⟨r0, r1, r2, r3, r4⟩, t0, t1, t2, t3, t4⟩ := HC9.out
                          go_upto_region 40 with (fail)
                          have j0 : (0 : Int) ≤ j := by omega
                          have jd : decide ((j : Int) < ms2.length) = true := decide_eq_true i1
                          have jd2 : decide (j < ms2.length) = true := decide_eq_true hjl
                          have zb1 := World.block_lt_of_cell? _ _ r0
                          have zb2 := World.block_lt_of_cell? _ _ t0
                          refine wp_region_held_drew (S := fun w' => w'.cell? ⟨bl, off8 + j * 5, none⟩ = some (.int .i64 p.at_) ∧ w'.cell? ⟨bl, off8 + j * 5 + 1, none⟩ = some (.int .i64 p.room) ∧ w'.cell? ⟨bl, off8 + j * 5 + 2, none⟩ = some (.int .i64 p.cls) ∧ w'.cell? ⟨bl, off8 + j * 5 + 3, none⟩ = some (.int .i64 p.thr) ∧ w'.cell? ⟨bl, off8 + j * 5 + 4, none⟩ = some (.int .i64 p.ep) ∧ w'.cell? ⟨bm2, off7 + j * 5, none⟩ = some (.int .i64 p.at_) ∧ w'.cell? ⟨bm2, off7 + j * 5 + 1, none⟩ = some (.int .i64 p.room) ∧ w'.cell? ⟨bm2, off7 + j * 5 + 2, none⟩ = some (.int .i64 p.cls) ∧ w'.cell? ⟨bm2, off7 + j * 5 + 3, none⟩ = some (.int .i64 p.thr) ∧ w'.cell? ⟨bm2, off7 + j * 5 + 4, none⟩ = some (.int .i64 p.ep)) (by kernel_rfl) ?_ (fun hHeld => ?_)
                          · exact ⟨r0, r1, r2, r3, r4, t0, t1, t2, t3, t4⟩
                          refine wpAnyH_take (i := 0) (v := ?_) rfl (by kernel_rfl) (by kernel_rfl) (by kernel_rfl) (fun _ _ _ h => h) (Or.inl ⟨by kernel_rfl, ?_⟩) (by assumption) ?_
                          rotate_left
                          · (intro w hSw; (try dsimp only at hSw); go_simp)
                            try (with_reducible rfl)
                          rotate_left
                          try simp (maxSteps := 4000000) only [Act.put, List.setIfInBounds_toArray, List.set_cons_zero, List.set_cons_succ, List.getElem_toArray, List.getElem_cons_zero, List.getElem_cons_succ]
                          refine wpAnyH_take (i := 1) (v := ?_) rfl (by kernel_rfl) (by kernel_rfl) (by kernel_rfl) (fun _ _ _ h => h) (Or.inl ⟨by kernel_rfl, ?_⟩) (by assumption) ?_
                          rotate_left
                          · (intro w hSw; (try dsimp only at hSw); go_simp)
                            try (with_reducible rfl)
                          rotate_left
                          try simp (maxSteps := 4000000) only [Act.put, List.setIfInBounds_toArray, List.set_cons_zero, List.set_cons_succ, List.getElem_toArray, List.getElem_cons_zero, List.getElem_cons_succ]
                          refine wpAnyH_take (i := 2) (v := ?_) rfl (by kernel_rfl) (by kernel_rfl) (by kernel_rfl) (fun _ _ _ h => h) (Or.inl ⟨by kernel_rfl, ?_⟩) (by assumption) ?_
                          rotate_left
                          · (intro w hSw; (try dsimp only at hSw); go_simp)
                            try (with_reducible rfl)
                          rotate_left
                          try simp (maxSteps := 4000000) only [Act.put, List.setIfInBounds_toArray, List.set_cons_zero, List.set_cons_succ, List.getElem_toArray, List.getElem_cons_zero, List.getElem_cons_succ]
                          refine wpAnyH_take (i := 3) (v := ?_) rfl (by kernel_rfl) (by kernel_rfl) (by kernel_rfl) (fun _ _ _ h => h) (Or.inl ⟨by kernel_rfl, ?_⟩) (by assumption) ?_
                          rotate_left
                          · (intro w hSw; (try dsimp only at hSw); go_simp)
                            try (with_reducible rfl)
                          rotate_left
                          try simp (maxSteps := 4000000) only [Act.put, List.setIfInBounds_toArray, List.set_cons_zero, List.set_cons_succ, List.getElem_toArray, List.getElem_cons_zero, List.getElem_cons_succ]
                          refine wpAnyH_take (i := 4) (v := ?_) rfl (by kernel_rfl) (by kernel_rfl) (by kernel_rfl) (fun _ _ _ h => h) (Or.inl ⟨by kernel_rfl, ?_⟩) (by assumption) ?_
                          rotate_left
                          · (intro w hSw; (try dsimp only at hSw); go_simp)
                            try (with_reducible rfl)
                          rotate_left
                          try simp (maxSteps := 4000000) only [Act.put, List.setIfInBounds_toArray, List.set_cons_zero, List.set_cons_succ, List.getElem_toArray, List.getElem_cons_zero, List.getElem_cons_succ]
                          refine wpAnyH_take (i := 5) (v := ?_) rfl (by kernel_rfl) (by kernel_rfl) (by kernel_rfl) (fun _ _ _ h => h) (Or.inl ⟨by kernel_rfl, ?_⟩) (by assumption) ?_
                          rotate_left
                          · (intro w hSw; (try dsimp only at hSw); go_simp)
                            try (with_reducible rfl)
                          rotate_left
                          try simp (maxSteps := 4000000) only [Act.put, List.setIfInBounds_toArray, List.set_cons_zero, List.set_cons_succ, List.getElem_toArray, List.getElem_cons_zero, List.getElem_cons_succ]
                          refine wpAnyH_take (i := 6) (v := ?_) rfl (by kernel_rfl) (by kernel_rfl) (by kernel_rfl) (fun _ _ _ h => h) (Or.inl ⟨by kernel_rfl, ?_⟩) (by assumption) ?_
                          rotate_left
                          · (intro w hSw; (try dsimp only at hSw); go_simp)
                            try (with_reducible rfl)
                          rotate_left
                          try simp (maxSteps := 4000000) only [Act.put, List.setIfInBounds_toArray, List.set_cons_zero, List.set_cons_succ, List.getElem_toArray, List.getElem_cons_zero, List.getElem_cons_succ]
                          refine wpAnyH_take (i := 7) (v := ?_) rfl (by kernel_rfl) (by kernel_rfl) (by kernel_rfl) (fun _ _ _ h => h) (Or.inl ⟨by kernel_rfl, ?_⟩) (by assumption) ?_
                          rotate_left
                          · (intro w hSw; (try dsimp only at hSw); go_simp)
                            try (with_reducible rfl)
                          rotate_left
                          try simp (maxSteps := 4000000) only [Act.put, List.setIfInBounds_toArray, List.set_cons_zero, List.set_cons_succ, List.getElem_toArray, List.getElem_cons_zero, List.getElem_cons_succ]
                          refine wpAnyH_take (i := 8) (v := ?_) rfl (by kernel_rfl) (by kernel_rfl) (by kernel_rfl) (fun _ _ _ h => h) (Or.inl ⟨by kernel_rfl, ?_⟩) (by assumption) ?_
                          rotate_left
                          · (intro w hSw; (try dsimp only at hSw); go_simp)
                            try (with_reducible rfl)
                          rotate_left
                          try simp (maxSteps := 4000000) only [Act.put, List.setIfInBounds_toArray, List.set_cons_zero, List.set_cons_succ, List.getElem_toArray, List.getElem_cons_zero, List.getElem_cons_succ]
                          refine wpAnyH_take (i := 9) (v := ?_) rfl (by kernel_rfl) (by kernel_rfl) (by kernel_rfl) (fun _ _ _ h => h) (Or.inl ⟨by kernel_rfl, ?_⟩) (by assumption) ?_
                          rotate_left
                          · (intro w hSw; (try dsimp only at hSw); go_simp)
                            try (with_reducible rfl)
                          rotate_left
                          try simp (maxSteps := 4000000) only [Act.put, List.setIfInBounds_toArray, List.set_cons_zero, List.set_cons_succ, List.getElem_toArray, List.getElem_cons_zero, List.getElem_cons_succ]
                          refine wpAnyH_take (i := 10) (v := ?_) rfl (by kernel_rfl) (by kernel_rfl) (by kernel_rfl) (fun _ _ _ h => h) (Or.inl ⟨by kernel_rfl, ?_⟩) (by assumption) ?_
                          rotate_left
                          · (intro w hSw; (try dsimp only at hSw); go_simp)
                            try (with_reducible rfl)
                          rotate_left
                          try simp (maxSteps := 4000000) only [Act.put, List.setIfInBounds_toArray, List.set_cons_zero, List.set_cons_succ, List.getElem_toArray, List.getElem_cons_zero, List.getElem_cons_succ]
                          refine wpAnyH_take (i := 11) (v := ?_) rfl (by kernel_rfl) (by kernel_rfl) (by kernel_rfl) (fun _ _ _ h => h) (Or.inl ⟨by kernel_rfl, ?_⟩) (by assumption) ?_
                          rotate_left
                          · (intro w hSw; (try dsimp only at hSw); go_simp)
                            try (with_reducible rfl)
                          rotate_left
                          try simp (maxSteps := 4000000) only [Act.put, List.setIfInBounds_toArray, List.set_cons_zero, List.set_cons_succ, List.getElem_toArray, List.getElem_cons_zero, List.getElem_cons_succ]
                          refine wpAnyH_take (i := 12) (v := ?_) rfl (by kernel_rfl) (by kernel_rfl) (by kernel_rfl) (fun _ _ _ h => h) (Or.inl ⟨by kernel_rfl, ?_⟩) (by assumption) ?_
                          rotate_left
                          · (intro w hSw; (try dsimp only at hSw); go_simp)
                            try (with_reducible rfl)
                          rotate_left
                          try simp (maxSteps := 4000000) only [Act.put, List.setIfInBounds_toArray, List.set_cons_zero, List.set_cons_succ, List.getElem_toArray, List.getElem_cons_zero, List.getElem_cons_succ]
                          refine wpAnyH_take (i := 13) (v := ?_) rfl (by kernel_rfl) (by kernel_rfl) (by kernel_rfl) (fun _ _ _ h => h) (Or.inl ⟨by kernel_rfl, ?_⟩) (by assumption) ?_
                          rotate_left
                          · (intro w hSw; (try dsimp only at hSw); go_simp)
                            try (with_reducible rfl)
                          rotate_left
                          try simp (maxSteps := 4000000) only [Act.put, List.setIfInBounds_toArray, List.set_cons_zero, List.set_cons_succ, List.getElem_toArray, List.getElem_cons_zero, List.getElem_cons_succ]
                          refine wpAnyH_take (i := 14) (v := ?_) rfl (by kernel_rfl) (by kernel_rfl) (by kernel_rfl) (fun _ _ _ h => h) (Or.inl ⟨by kernel_rfl, ?_⟩) (by assumption) ?_
                          rotate_left
                          · (intro w hSw; (try dsimp only at hSw); go_simp)
                            try (with_reducible rfl)
                          rotate_left
                          try simp (maxSteps := 4000000) only [Act.put, List.setIfInBounds_toArray, List.set_cons_zero, List.set_cons_succ, List.getElem_toArray, List.getElem_cons_zero, List.getElem_cons_succ]
                          refine wpAnyH_take (i := 15) (v := ?_) rfl (by kernel_rfl) (by kernel_rfl) (by kernel_rfl) (fun _ _ _ h => h) (Or.inl ⟨by kernel_rfl, ?_⟩) (by assumption) ?_
                          rotate_left
                          · (intro w hSw; (try dsimp only at hSw); go_simp)
                            try (with_reducible rfl)
                          rotate_left
                          try simp (maxSteps := 4000000) only [Act.put, List.setIfInBounds_toArray, List.set_cons_zero, List.set_cons_succ, List.getElem_toArray, List.getElem_cons_zero, List.getElem_cons_succ]
                          refine wpAnyH_ready (rs := [16]) (by kernel_rfl) (by simp) ?_
                          refine AllReadyH.cons rfl (fun K2 hK2 => ?_) AllReadyH.nil
                          go_simp
                          refine (qhas g b2 ms2 p.at_ _ (HQ9.out.drw _) (by omega)).mono ?_
                          rintro e x3 ⟨rfl, hb3⟩
                          rw [HANY.out]
                          have HW3 : Hid (Below x1.heap.size x1 x3) := Lib.hid (thn (below_drewN HW9.out _) hb3)
                          have hs3 : (fun w' : World => w'.cell? ⟨bl, off8 + j * 5, none⟩ = some (.int .i64 p.at_) ∧ w'.cell? ⟨bl, off8 + j * 5 + 1, none⟩ = some (.int .i64 p.room) ∧ w'.cell? ⟨bl, off8 + j * 5 + 2, none⟩ = some (.int .i64 p.cls) ∧ w'.cell? ⟨bl, off8 + j * 5 + 3, none⟩ = some (.int .i64 p.thr) ∧ w'.cell? ⟨bl, off8 + j * 5 + 4, none⟩ = some (.int .i64 p.ep) ∧ w'.cell? ⟨bm2, off7 + j * 5, none⟩ = some (.int .i64 p.at_) ∧ w'.cell? ⟨bm2, off7 + j * 5 + 1, none⟩ = some (.int .i64 p.room) ∧ w'.cell? ⟨bm2, off7 + j * 5 + 2, none⟩ = some (.int .i64 p.cls) ∧ w'.cell? ⟨bm2, off7 + j * 5 + 3, none⟩ = some (.int .i64 p.thr) ∧ w'.cell? ⟨bm2, off7 + j * 5 + 4, none⟩ = some (.int .i64 p.ep)) x3 := ⟨(hb3.cell (p := ⟨bl, off8 + j * 5, none⟩) zb1).trans r0, (hb3.cell (p := ⟨bl, off8 + j * 5 + 1, none⟩) zb1).trans r1, (hb3.cell (p := ⟨bl, off8 + j * 5 + 2, none⟩) zb1).trans r2, (hb3.cell (p := ⟨bl, off8 + j * 5 + 3, none⟩) zb1).trans r3, (hb3.cell (p := ⟨bl, off8 + j * 5 + 4, none⟩) zb1).trans r4, (hb3.cell (p := ⟨bm2, off7 + j * 5, none⟩) zb2).trans t0, (hb3.cell (p := ⟨bm2, off7 + j * 5 + 1, none⟩) zb2).trans t1, (hb3.cell (p := ⟨bm2, off7 + j * 5 + 2, none⟩) zb2).trans t2, (hb3.cell (p := ⟨bm2, off7 + j * 5 + 3, none⟩) zb2).trans t3, (hb3.cell (p := ⟨bm2, off7 + j * 5 + 4, none⟩) zb2).trans t4⟩
                          clear hb3
                          refine hK2.out _ _ hs3 (fun hHeld2 => ?_)
                          clear hK2 K2 hHeld
                          have hHeld := hHeld2
                          clear hHeld2 hs3
                          try simp (maxSteps := 4000000) only [Act.put, List.setIfInBounds_toArray, List.set_cons_zero, List.set_cons_succ]
                          refine wpAnyH_take (i := 17) (v := ?_) rfl (by kernel_rfl) (by kernel_rfl) (by kernel_rfl) (fun _ _ _ h => h) (Or.inl ⟨by kernel_rfl, ?_⟩) (by assumption) ?_
                          rotate_left
                          · (intro w hSw; (try dsimp only at hSw); go_simp)
                            try (with_reducible rfl)
                          rotate_left
                          try simp (maxSteps := 4000000) only [Act.put, List.setIfInBounds_toArray, List.set_cons_zero, List.set_cons_succ, List.getElem_toArray, List.getElem_cons_zero, List.getElem_cons_succ]
                          refine wpAnyH_take (i := 18) (v := ?_) rfl (by kernel_rfl) (by kernel_rfl) (by kernel_rfl) (fun _ _ _ h => h) (Or.inl ⟨by kernel_rfl, ?_⟩) (by assumption) ?_
                          rotate_left
                          · (intro w hSw; (try dsimp only at hSw); go_simp)
                            try (with_reducible rfl)
                          rotate_left
                          try simp (maxSteps := 4000000) only [Act.put, List.setIfInBounds_toArray, List.set_cons_zero, List.set_cons_succ, List.getElem_toArray, List.getElem_cons_zero, List.getElem_cons_succ]
                          refine wpAnyH_done (by kernel_rfl) ?_ _
                          go_wp2_with fail
                          go_roundw
                          case rel => exact ⟨j + 1, by omega, by go_num, by rw [HS.out], rfl, Lib.hid (by first | exact HW3.out | exact below_drewN HW3.out _)⟩
                          case measure => simp [intOf] <;> omega
                · obtain rfl : j = ms2.length := by omega
                  rw [List.take_length]
                  have HQ := Lib.hid (HN.out.1.below HW.out)
                  have hok : ∀ p ∈ ms2, 0 ≤ p.room ∧ p.room ≤ 1023 := fun p hp => (HB.out.2.2.2.2 p hp).1
                  have HOK := Lib.hid hok
                  have HNW := Lib.hid (HN.out.below HW.out)
                  clear hok
                  go_wp2_with fail
                  refine (qbytes g b2 ms2 _ HQ.out (by omega) HOK.out).mono ?_
                  rintro e x3 ⟨rfl, hb3⟩
                  have HQ3 := Lib.hid (HQ.out.below hb3)
                  have HN3 := Lib.hid (HNW.out.below hb3)
                  clear hb3 HW HQ HNW
                  go_wp2_with fail
                  refine (qbatches g b2 ms2 _ HQ3.out (by omega)).mono ?_
                  rintro e x4 ⟨rfl, q4, hx4⟩
                  have HN4 : Hid (QV B0 g b2 bm2 G w x4 (.slice A7 ms2.length c7) ms2 ms2 N2 on2) := Lib.hid (by rw [hx4]; exact HN3.out.drw _)
                  clear hx4 HN3
                  go_wp2_with fail
                  go_roundw
                  case rel => exact ⟨i + 1, ms2, b2, bm2, N2, on2, by omega, by go_num, HN4, HB⟩
                  case measure => simp [intOf] <;> omega
    · obtain rfl : i = n1 := by omega
      as_aux_lemma =>
        have HBW := Lib.hid HN.out.2.2.2.2.2.2
        have hB4 := HN.out.2.2.2.2.2.1.2.2.2.2
        have hstop : ¬ ((i : Int) < len1) ∨ ((i : Int) < len1 ∧ ¬ ((i : Int) < 60)) := by omega
        have HQ := Lib.hid HN.out.1
        have hl60 : ms.length ≤ 60 := by have := HB.out.1; have := HB.out.2.2.2.1; omega
        have H7 := Lib.hid (anyAt_7 HB.out)
        have HE := Lib.hid HN.out.2.2.2.1
        have hG := HE.out.2.2.2.2
        clear HN HB
        rcases hstop with h | ⟨h, h'⟩
        all_goals
          go_wp2_with fail
          refine (awakeQuar _).mono ?_
          rintro e x1 ⟨rfl, q1⟩
          have HQ1 := Lib.hid (HQ.out.below q1)
          have HB1 := Lib.hid (HBW.out.trans (q1.mono hB4))
          have hs1 := q1.size
          obtain ⟨e0, e1, _⟩ := HE.out.keep q1.size (q1.block G hG)
          clear q1
          go_wp2_with fail
          refine (qhas g b ms 7 _ HQ1.out (by omega)).mono ?_
          rintro e x2 ⟨rfl, q2⟩
          have HB2 := Lib.hid (HB1.out.trans (q2.mono (by omega)))
          have hs2 := q2.size
          have e2 := (q2.cell (p := ⟨G, 0, none⟩) (by show G < _; omega)).trans e0
          have e3 := (q2.cell (p := ⟨G, 1, none⟩) (by show G < _; omega)).trans e1
          clear q2 e0 e1
          rw [H7.out]
          go_wp2_with fail
          refine (nqput _ _ _ _ _ _).mono ?_
          rintro e x3 ⟨rfl, q3⟩
          have HB3 := Lib.hid (HB2.out.trans (q3.mono (by omega)))
          have hs3 := q3.size
          have e0 := (q3.cell (p := ⟨G, 0, none⟩) (by show G < _; omega)).trans e2
          have e1 := (q3.cell (p := ⟨G, 1, none⟩) (by show G < _; omega)).trans e3
          clear q3 e2 e3
          go_wp2_with fail
          refine (nqtake _ _ _).mono ?_
          rintro e x4 ⟨rfl, q4⟩
          have HB4 := Lib.hid (HB3.out.trans (q4.mono (by omega)))
          have hs4 := q4.size
          clear q4
          go_wp2_with fail
          refine (nqlen _).mono ?_
          rintro e x5 ⟨rfl, rfl⟩
          go_wp2_with fail
          refine (nqbytes _).mono ?_
          rintro e x5 ⟨rfl, rfl⟩
          go_wp2_with fail
          refine (nqbatches _).mono ?_
          rintro e x5 ⟨rfl, rfl⟩
          go_wp2_with fail
          refine (nqlist _).mono ?_
          rintro e x5 ⟨rfl, rfl⟩
          go_wp2_with fail
          refine (nqhas _ _).mono ?_
          rintro e x5 ⟨rfl, q5⟩
          have HB5 := Lib.hid (HB4.out.trans (q5.mono (by omega)))
          clear q5
          go_wp2
          go_ret
          exact ⟨rfl, by rw [hB0]; exact HB5.out⟩
end Go.Proofs.Ytohamecjiidjdaa
