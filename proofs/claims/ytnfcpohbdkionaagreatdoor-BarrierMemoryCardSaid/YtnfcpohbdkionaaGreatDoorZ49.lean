/- BrMPtree. -/
import Derived.Test.YtnfcpohbdkionaaGreatDoorZ48
import Derived.Deep.RegionHeld3
import Derived.Deep.DeepCutAuto
namespace Go.Proofs.YtnfcpohbdkionaaGreatDoor
set_option maxRecDepth 100000
open Go.RowKit Go.ChangeMaps Go.MapKept
set_option linter.unusedVariables false
set_option linter.unusedSimpArgs false
set_option maxHeartbeats 100000000 in
theorem brStep_tree : brStep.1 := by
  intro sb0 sl0 b l c p t v b' l' c' p' t' v' W T zz0 v0 sb sl HSB zz1 zz2 v3 HY2 HZ2 HB2 x7 HX2 T3 HLT zz3 zz4 zz5 zz6; have HTAKE := Lib.hid (fun (w' : World) (h : SpAt x7 w' sb sl ∧ CapAt (W.heap.size + 1) w' b l c p t v ∧ CapAt (W.heap.size + 2) w' b' l' c' p' t' v') => And.intro h.1.2 (And.intro h.2.1.2 h.2.2.2))
  apply cut2
  intro hS4_89ab
  apply cut2
  intro hS4_89a
  apply cut2
  intro hS4_89b
  apply cut2
  intro hS4_8ab
  apply cut2
  intro hS4_9ab
  apply cut2
  intro hS3_89ab
  apply cut2
  intro hS4_89
  apply cut2
  intro hS4_8a
  apply cut2
  intro hS4_8b
  apply cut2
  intro hS4_9a
  apply cut2
  intro hS4_9b
  apply cut2
  intro hS4_ab
  apply cut2
  intro hS3_89a
  apply cut2
  intro hS3_89b
  apply cut2
  intro hS3_8ab
  apply cut2
  intro hS3_9ab
  apply cut2
  intro hS2_89ab
  apply cut2
  intro hS4_8
  apply cut2
  intro hS4_9
  apply cut2
  intro hS4_a
  apply cut2
  intro hS4_b
  apply cut2
  intro hS3_89
  apply cut2
  intro hS3_8a
  apply cut2
  intro hS3_8b
  apply cut2
  intro hS3_9a
  apply cut2
  intro hS3_9b
  apply cut2
  intro hS3_ab
  apply cut2
  intro hS2_89a
  apply cut2
  intro hS2_89b
  apply cut2
  intro hS2_8ab
  apply cut2
  intro hS2_9ab
  apply cut2
  intro hS1_89ab
  apply cut2
  intro hS4_
  apply cut2
  intro hS3_8
  apply cut2
  intro hS3_9
  apply cut2
  intro hS3_a
  apply cut2
  intro hS3_b
  apply cut2
  intro hS2_89
  apply cut2
  intro hS2_8a
  apply cut2
  intro hS2_8b
  apply cut2
  intro hS2_9a
  apply cut2
  intro hS2_9b
  apply cut2
  intro hS2_ab
  apply cut2
  intro hS1_89a
  apply cut2
  intro hS1_89b
  apply cut2
  intro hS1_8ab
  apply cut2
  intro hS1_9ab
  apply cut2
  intro hS0_89ab
  apply cut2
  intro hS3_
  apply cut2
  intro hS2_8
  apply cut2
  intro hS2_9
  apply cut2
  intro hS2_a
  apply cut2
  intro hS2_b
  apply cut2
  intro hS1_89
  apply cut2
  intro hS1_8a
  apply cut2
  intro hS1_8b
  apply cut2
  intro hS1_9a
  apply cut2
  intro hS1_9b
  apply cut2
  intro hS1_ab
  apply cut2
  intro hS0_89a
  apply cut2
  intro hS0_89b
  apply cut2
  intro hS0_8ab
  apply cut2
  intro hS0_9ab
  apply cut2
  intro hS2_
  apply cut2
  intro hS1_8
  apply cut2
  intro hS1_9
  apply cut2
  intro hS1_a
  apply cut2
  intro hS1_b
  apply cut2
  intro hS0_89
  apply cut2
  intro hS0_8a
  apply cut2
  intro hS0_8b
  apply cut2
  intro hS0_9a
  apply cut2
  intro hS0_9b
  apply cut2
  intro hS0_ab
  apply cut2
  intro hS1_
  apply cut2
  intro hS0_8
  apply cut2
  intro hS0_9
  apply cut2
  intro hS0_a
  apply cut2
  intro hS0_b
  · refine wp_region_held_drew (S := fun w' => SpAt x7 w' sb sl ∧ CapAt (W.heap.size + 1) w' b l c p t v ∧ CapAt (W.heap.size + 2) w' b' l' c' p' t' v') (by kernel_rfl) ?_ (fun hHeld => ?_)
    · exact ⟨HX2.out.below (Below.refl _ _).drew, HY2.out.below (Below.refl _ _).drew, HZ2.out.below (Below.refl _ _).drew⟩
    refine wpAnyH_take (i := 0) (v := ?_) rfl (by kernel_rfl) (by kernel_rfl) (by kernel_rfl) (fun _ _ _ h => h) (Or.inl ⟨by kernel_rfl, ?_⟩) (by assumption) ?_
    rotate_left
    · (intro w hSw; (try dsimp only at hSw); (try have hTk := Hid.out HTAKE _ hSw); go_simp)
      try (with_reducible rfl)
    rotate_left
    try simp only [Act.put, List.setIfInBounds_toArray, List.set_cons_zero, List.set_cons_succ, List.getElem_toArray, List.getElem_cons_zero, List.getElem_cons_succ]
    refine wpAnyH_take (i := 2) (v := ?_) rfl (by kernel_rfl) (by kernel_rfl) (by kernel_rfl) (fun _ _ _ h => h) (Or.inl ⟨by kernel_rfl, ?_⟩) (by assumption) ?_
    rotate_left
    · (intro w hSw; (try dsimp only at hSw); (try have hTk := Hid.out HTAKE _ hSw); go_simp)
      try (with_reducible rfl)
    rotate_left
    try simp only [Act.put, List.setIfInBounds_toArray, List.set_cons_zero, List.set_cons_succ, List.getElem_toArray, List.getElem_cons_zero, List.getElem_cons_succ]
    refine wpAnyH_take (i := 4) (v := ?_) rfl (by kernel_rfl) (by kernel_rfl) (by kernel_rfl) (fun _ _ _ h => h) (Or.inl ⟨by kernel_rfl, ?_⟩) (by assumption) ?_
    rotate_left
    · (intro w hSw; (try dsimp only at hSw); (try have hTk := Hid.out HTAKE _ hSw); go_simp)
      try (with_reducible rfl)
    rotate_left
    try simp only [Act.put, List.setIfInBounds_toArray, List.set_cons_zero, List.set_cons_succ, List.getElem_toArray, List.getElem_cons_zero, List.getElem_cons_succ]
    refine wpAnyH_take (i := 6) (v := ?_) rfl (by kernel_rfl) (by kernel_rfl) (by kernel_rfl) (fun _ _ _ h => h) (Or.inl ⟨by kernel_rfl, ?_⟩) (by assumption) ?_
    rotate_left
    · (intro w hSw; (try dsimp only at hSw); (try have hTk := Hid.out HTAKE _ hSw); go_simp)
      try (with_reducible rfl)
    rotate_left
    try simp only [Act.put, List.setIfInBounds_toArray, List.set_cons_zero, List.set_cons_succ, List.getElem_toArray, List.getElem_cons_zero, List.getElem_cons_succ]
    refine wpAnyH_ready (rs := [1, 8, 9, 10, 11]) (by kernel_rfl) (by simp) ?_; refine AllReadyH.cons rfl (fun K2 hK2 => ?_) (AllReadyH.cons rfl (fun K2 hK2 => ?_) (AllReadyH.cons rfl (fun K2 hK2 => ?_) (AllReadyH.cons rfl (fun K2 hK2 => ?_) (AllReadyH.cons rfl (fun K2 hK2 => ?_) AllReadyH.nil))))
    all_goals go_simp
    · with_reducible refine Calls.mono (w37made sb sl _ HSB.out.1 HSB.out.2.1 HSB.out.2.2.1 HSB.out.2.2.2 (T3.out.later (Below.refl _ _).drew)) ?_
      rintro e u2 ⟨B, lo, g, col, M, R, P, pg, pc, ws, rfl, hp0, hpa0, hB0, hb⟩; have HPL := Lib.hid (And.intro hp0 (And.intro hpa0 (show v3.heap.size ≤ B by exact hB0))); clear hp0 hpa0 hB0; have hbn : Below v3.heap.size v3 u2 := thn (Below.refl _ _).drew hb; clear hb; have hb := hbn; clear hbn; have HB9 := Lib.hid hb; refine hK2.out _ _ (⟨HX2.out.below hb, HY2.out.below hb, HZ2.out.below hb⟩) (fun hHeld2 => ?_)
      clear hb; clear hK2 K2 hHeld; have hHeld := hHeld2; clear hHeld2
      try simp only [Act.put, List.setIfInBounds_toArray, List.set_cons_zero, List.set_cons_succ]
      revert hHeld; revert HB9; revert HPL; revert B; revert lo; revert g; revert col; revert M; revert R; revert P; revert pg; revert pc; revert ws; revert u2; exact hS1_.out
    · obtain ⟨x8, u2, hx8, hw9, hz9, hb⟩ := pz_first v3
      rw [hw9]
      try rw [hx8]
      clear hw9; have HA8n := Lib.hid (And.intro hz9 (show v3.heap.size ≤ x8 by omega)); clear hx8 hz9; have HB9 := Lib.hid hb; have HA8 := HA8n; clear HA8n; refine hK2.out _ _ (⟨HX2.out.below hb, HY2.out.below hb, HZ2.out.below hb⟩) (fun hHeld2 => ?_); clear hb; clear hK2 K2 hHeld; have hHeld := hHeld2; clear hHeld2
      try simp only [Act.put, List.setIfInBounds_toArray, List.set_cons_zero, List.set_cons_succ]
      revert hHeld; revert HB9; revert HA8; revert x8; revert u2; exact hS0_8.out
    · obtain ⟨x9, u2, hx9, hw9, hz9, hb⟩ := pz_first v3
      rw [hw9]
      try rw [hx9]
      clear hw9; have HA9n := Lib.hid (And.intro hz9 (show v3.heap.size ≤ x9 by omega)); clear hx9 hz9; have HB9 := Lib.hid hb; have HA9 := HA9n; clear HA9n; refine hK2.out _ _ (⟨HX2.out.below hb, HY2.out.below hb, HZ2.out.below hb⟩) (fun hHeld2 => ?_); clear hb; clear hK2 K2 hHeld; have hHeld := hHeld2; clear hHeld2
      try simp only [Act.put, List.setIfInBounds_toArray, List.set_cons_zero, List.set_cons_succ]
      revert hHeld; revert HB9; revert HA9; revert x9; revert u2; exact hS0_9.out
    · obtain ⟨x10, u2, hx10, hw9, hz9, hb⟩ := cz_first v3
      rw [hw9]
      try rw [hx10]
      clear hw9; have HA10n := Lib.hid (And.intro hz9 (show v3.heap.size ≤ x10 by omega)); clear hx10 hz9; have HB9 := Lib.hid hb; have HA10 := HA10n; clear HA10n; refine hK2.out _ _ (⟨HX2.out.below hb, HY2.out.below hb, HZ2.out.below hb⟩) (fun hHeld2 => ?_); clear hb; clear hK2 K2 hHeld; have hHeld := hHeld2; clear hHeld2
      try simp only [Act.put, List.setIfInBounds_toArray, List.set_cons_zero, List.set_cons_succ]
      revert hHeld; revert HB9; revert HA10; revert x10; revert u2; exact hS0_a.out
    · obtain ⟨x11, u2, hx11, hw9, hz9, hb⟩ := cz_first v3
      rw [hw9]
      try rw [hx11]
      clear hw9; have HA11n := Lib.hid (And.intro hz9 (show v3.heap.size ≤ x11 by omega)); clear hx11 hz9; have HB9 := Lib.hid hb; have HA11 := HA11n; clear HA11n; refine hK2.out _ _ (⟨HX2.out.below hb, HY2.out.below hb, HZ2.out.below hb⟩) (fun hHeld2 => ?_); clear hb; clear hK2 K2 hHeld; have hHeld := hHeld2; clear hHeld2
      try simp only [Act.put, List.setIfInBounds_toArray, List.set_cons_zero, List.set_cons_succ]
      revert hHeld; revert HB9; revert HA11; revert x11; revert u2; exact hS0_b.out
  · intro u x11 HA11 HB9 hHeld
    refine wpAnyH_ready (rs := [1, 8, 9, 10]) (by kernel_rfl) (by simp) ?_; refine AllReadyH.cons rfl (fun K2 hK2 => ?_) (AllReadyH.cons rfl (fun K2 hK2 => ?_) (AllReadyH.cons rfl (fun K2 hK2 => ?_) (AllReadyH.cons rfl (fun K2 hK2 => ?_) AllReadyH.nil)))
    all_goals go_simp
    · with_reducible refine Calls.mono (w37made sb sl _ HSB.out.1 HSB.out.2.1 HSB.out.2.2.1 HSB.out.2.2.2 (T3.out.later HB9.out)) ?_
      rintro e u2 ⟨B, lo, g, col, M, R, P, pg, pc, ws, rfl, hp0, hpa0, hB0, hb⟩; have HPL := Lib.hid (And.intro hp0 (And.intro hpa0 (show v3.heap.size ≤ B by have := HB9.out.size; omega))); have HW11 : Hid (Away B col R g P x11) := Lib.hid (.inl (Nat.lt_of_lt_of_le HA11.out.1.1 hB0)); clear hp0 hpa0 hB0; replace HB9 := Lib.hid (thn HB9.out hb); replace HA11 := hbl HA11 hb; refine hK2.out _ _ (s3b hHeld hb) (fun hHeld2 => ?_)
      clear hb; clear hK2 K2 hHeld; have hHeld := hHeld2; clear hHeld2
      try simp only [Act.put, List.setIfInBounds_toArray, List.set_cons_zero, List.set_cons_succ]
      revert hHeld; revert HB9; revert HA11; revert HPL; revert HW11; revert x11; revert B; revert lo; revert g; revert col; revert M; revert R; revert P; revert pg; revert pc; revert ws; revert u2; exact hS1_b.out
    · obtain ⟨x8, u2, hx8, hw9, hz9, hb⟩ := pz_next u
      rw [hw9]
      try rw [hx8]
      clear hw9; have HA8n := Lib.hid (And.intro hz9 (show v3.heap.size ≤ x8 by have := HB9.out.size; omega))
      have hx8_11 : x8 ≠ x11 := by have h1 := HA11.out.1.1; omega
      clear hx8 hz9; replace HB9 := Lib.hid (thn HB9.out hb); replace HA11 := hbl HA11 hb; have HA8 := HA8n; clear HA8n; refine hK2.out _ _ (s3b hHeld hb) (fun hHeld2 => ?_); clear hb; clear hK2 K2 hHeld; have hHeld := hHeld2; clear hHeld2
      try simp only [Act.put, List.setIfInBounds_toArray, List.set_cons_zero, List.set_cons_succ]
      revert hHeld; revert HB9; revert HA8; revert HA11; revert hx8_11; revert x8; revert x11; revert u2; exact hS0_8b.out
    · obtain ⟨x9, u2, hx9, hw9, hz9, hb⟩ := pz_next u
      rw [hw9]
      try rw [hx9]
      clear hw9; have HA9n := Lib.hid (And.intro hz9 (show v3.heap.size ≤ x9 by have := HB9.out.size; omega))
      have hx9_11 : x9 ≠ x11 := by have h1 := HA11.out.1.1; omega
      clear hx9 hz9; replace HB9 := Lib.hid (thn HB9.out hb); replace HA11 := hbl HA11 hb; have HA9 := HA9n; clear HA9n; refine hK2.out _ _ (s3b hHeld hb) (fun hHeld2 => ?_); clear hb; clear hK2 K2 hHeld; have hHeld := hHeld2; clear hHeld2
      try simp only [Act.put, List.setIfInBounds_toArray, List.set_cons_zero, List.set_cons_succ]
      revert hHeld; revert HB9; revert HA9; revert HA11; revert hx9_11; revert x9; revert x11; revert u2; exact hS0_9b.out
    · obtain ⟨x10, u2, hx10, hw9, hz9, hb⟩ := cz_next u
      rw [hw9]
      try rw [hx10]
      clear hw9; have HA10n := Lib.hid (And.intro hz9 (show v3.heap.size ≤ x10 by have := HB9.out.size; omega))
      have hx10_11 : x10 ≠ x11 := by have h1 := HA11.out.1.1; omega
      clear hx10 hz9; replace HB9 := Lib.hid (thn HB9.out hb); replace HA11 := hbl HA11 hb; have HA10 := HA10n; clear HA10n; refine hK2.out _ _ (s3b hHeld hb) (fun hHeld2 => ?_); clear hb; clear hK2 K2 hHeld; have hHeld := hHeld2; clear hHeld2
      try simp only [Act.put, List.setIfInBounds_toArray, List.set_cons_zero, List.set_cons_succ]
      revert hHeld; revert HB9; revert HA10; revert HA11; revert hx10_11; revert x10; revert x11; revert u2; exact hS0_ab.out
  · intro u x10 HA10 HB9 hHeld
    refine wpAnyH_ready (rs := [1, 8, 9, 11]) (by kernel_rfl) (by simp) ?_; refine AllReadyH.cons rfl (fun K2 hK2 => ?_) (AllReadyH.cons rfl (fun K2 hK2 => ?_) (AllReadyH.cons rfl (fun K2 hK2 => ?_) (AllReadyH.cons rfl (fun K2 hK2 => ?_) AllReadyH.nil)))
    all_goals go_simp
    · with_reducible refine Calls.mono (w37made sb sl _ HSB.out.1 HSB.out.2.1 HSB.out.2.2.1 HSB.out.2.2.2 (T3.out.later HB9.out)) ?_
      rintro e u2 ⟨B, lo, g, col, M, R, P, pg, pc, ws, rfl, hp0, hpa0, hB0, hb⟩; have HPL := Lib.hid (And.intro hp0 (And.intro hpa0 (show v3.heap.size ≤ B by have := HB9.out.size; omega))); have HW10 : Hid (Away B col R g P x10) := Lib.hid (.inl (Nat.lt_of_lt_of_le HA10.out.1.1 hB0)); clear hp0 hpa0 hB0; replace HB9 := Lib.hid (thn HB9.out hb); replace HA10 := hbl HA10 hb; refine hK2.out _ _ (s3b hHeld hb) (fun hHeld2 => ?_)
      clear hb; clear hK2 K2 hHeld; have hHeld := hHeld2; clear hHeld2
      try simp only [Act.put, List.setIfInBounds_toArray, List.set_cons_zero, List.set_cons_succ]
      revert hHeld; revert HB9; revert HA10; revert HPL; revert HW10; revert x10; revert B; revert lo; revert g; revert col; revert M; revert R; revert P; revert pg; revert pc; revert ws; revert u2; exact hS1_a.out
    · obtain ⟨x8, u2, hx8, hw9, hz9, hb⟩ := pz_next u
      rw [hw9]
      try rw [hx8]
      clear hw9; have HA8n := Lib.hid (And.intro hz9 (show v3.heap.size ≤ x8 by have := HB9.out.size; omega))
      have hx8_10 : x8 ≠ x10 := by have h1 := HA10.out.1.1; omega
      clear hx8 hz9; replace HB9 := Lib.hid (thn HB9.out hb); replace HA10 := hbl HA10 hb; have HA8 := HA8n; clear HA8n; refine hK2.out _ _ (s3b hHeld hb) (fun hHeld2 => ?_); clear hb; clear hK2 K2 hHeld; have hHeld := hHeld2; clear hHeld2
      try simp only [Act.put, List.setIfInBounds_toArray, List.set_cons_zero, List.set_cons_succ]
      revert hHeld; revert HB9; revert HA8; revert HA10; revert hx8_10; revert x8; revert x10; revert u2; exact hS0_8a.out
    · obtain ⟨x9, u2, hx9, hw9, hz9, hb⟩ := pz_next u
      rw [hw9]
      try rw [hx9]
      clear hw9; have HA9n := Lib.hid (And.intro hz9 (show v3.heap.size ≤ x9 by have := HB9.out.size; omega))
      have hx9_10 : x9 ≠ x10 := by have h1 := HA10.out.1.1; omega
      clear hx9 hz9; replace HB9 := Lib.hid (thn HB9.out hb); replace HA10 := hbl HA10 hb; have HA9 := HA9n; clear HA9n; refine hK2.out _ _ (s3b hHeld hb) (fun hHeld2 => ?_); clear hb; clear hK2 K2 hHeld; have hHeld := hHeld2; clear hHeld2
      try simp only [Act.put, List.setIfInBounds_toArray, List.set_cons_zero, List.set_cons_succ]
      revert hHeld; revert HB9; revert HA9; revert HA10; revert hx9_10; revert x9; revert x10; revert u2; exact hS0_9a.out
    · obtain ⟨x11, u2, hx11, hw9, hz9, hb⟩ := cz_next u
      rw [hw9]
      try rw [hx11]
      clear hw9; have HA11n := Lib.hid (And.intro hz9 (show v3.heap.size ≤ x11 by have := HB9.out.size; omega))
      have hx10_11 : x10 ≠ x11 := by have h1 := HA10.out.1.1; omega
      clear hx11 hz9; replace HB9 := Lib.hid (thn HB9.out hb); replace HA10 := hbl HA10 hb; have HA11 := HA11n; clear HA11n; refine hK2.out _ _ (s3b hHeld hb) (fun hHeld2 => ?_); clear hb; clear hK2 K2 hHeld; have hHeld := hHeld2; clear hHeld2
      try simp only [Act.put, List.setIfInBounds_toArray, List.set_cons_zero, List.set_cons_succ]
      revert hHeld; revert HB9; revert HA10; revert HA11; revert hx10_11; revert x10; revert x11; revert u2; exact hS0_ab.out
  · intro u x9 HA9 HB9 hHeld
    refine wpAnyH_ready (rs := [1, 8, 10, 11]) (by kernel_rfl) (by simp) ?_; refine AllReadyH.cons rfl (fun K2 hK2 => ?_) (AllReadyH.cons rfl (fun K2 hK2 => ?_) (AllReadyH.cons rfl (fun K2 hK2 => ?_) (AllReadyH.cons rfl (fun K2 hK2 => ?_) AllReadyH.nil)))
    all_goals go_simp
    · with_reducible refine Calls.mono (w37made sb sl _ HSB.out.1 HSB.out.2.1 HSB.out.2.2.1 HSB.out.2.2.2 (T3.out.later HB9.out)) ?_
      rintro e u2 ⟨B, lo, g, col, M, R, P, pg, pc, ws, rfl, hp0, hpa0, hB0, hb⟩; have HPL := Lib.hid (And.intro hp0 (And.intro hpa0 (show v3.heap.size ≤ B by have := HB9.out.size; omega))); have HW9 : Hid (Away B col R g P x9) := Lib.hid (.inl (Nat.lt_of_lt_of_le HA9.out.1.1 hB0)); clear hp0 hpa0 hB0; replace HB9 := Lib.hid (thn HB9.out hb); replace HA9 := hpl HA9 hb; refine hK2.out _ _ (s3b hHeld hb) (fun hHeld2 => ?_)
      clear hb; clear hK2 K2 hHeld; have hHeld := hHeld2; clear hHeld2
      try simp only [Act.put, List.setIfInBounds_toArray, List.set_cons_zero, List.set_cons_succ]
      revert hHeld; revert HB9; revert HA9; revert HPL; revert HW9; revert x9; revert B; revert lo; revert g; revert col; revert M; revert R; revert P; revert pg; revert pc; revert ws; revert u2; exact hS1_9.out
    · obtain ⟨x8, u2, hx8, hw9, hz9, hb⟩ := pz_next u
      rw [hw9]
      try rw [hx8]
      clear hw9; have HA8n := Lib.hid (And.intro hz9 (show v3.heap.size ≤ x8 by have := HB9.out.size; omega))
      have hx8_9 : x8 ≠ x9 := by have h1 := HA9.out.1.1; omega
      clear hx8 hz9; replace HB9 := Lib.hid (thn HB9.out hb); replace HA9 := hpl HA9 hb; have HA8 := HA8n; clear HA8n; refine hK2.out _ _ (s3b hHeld hb) (fun hHeld2 => ?_); clear hb; clear hK2 K2 hHeld; have hHeld := hHeld2; clear hHeld2
      try simp only [Act.put, List.setIfInBounds_toArray, List.set_cons_zero, List.set_cons_succ]
      revert hHeld; revert HB9; revert HA8; revert HA9; revert hx8_9; revert x8; revert x9; revert u2; exact hS0_89.out
    · obtain ⟨x10, u2, hx10, hw9, hz9, hb⟩ := cz_next u
      rw [hw9]
      try rw [hx10]
      clear hw9; have HA10n := Lib.hid (And.intro hz9 (show v3.heap.size ≤ x10 by have := HB9.out.size; omega))
      have hx9_10 : x9 ≠ x10 := by have h1 := HA9.out.1.1; omega
      clear hx10 hz9; replace HB9 := Lib.hid (thn HB9.out hb); replace HA9 := hpl HA9 hb; have HA10 := HA10n; clear HA10n; refine hK2.out _ _ (s3b hHeld hb) (fun hHeld2 => ?_); clear hb; clear hK2 K2 hHeld; have hHeld := hHeld2; clear hHeld2
      try simp only [Act.put, List.setIfInBounds_toArray, List.set_cons_zero, List.set_cons_succ]
      revert hHeld; revert HB9; revert HA9; revert HA10; revert hx9_10; revert x9; revert x10; revert u2; exact hS0_9a.out
    · obtain ⟨x11, u2, hx11, hw9, hz9, hb⟩ := cz_next u
      rw [hw9]
      try rw [hx11]
      clear hw9; have HA11n := Lib.hid (And.intro hz9 (show v3.heap.size ≤ x11 by have := HB9.out.size; omega))
      have hx9_11 : x9 ≠ x11 := by have h1 := HA9.out.1.1; omega
      clear hx11 hz9; replace HB9 := Lib.hid (thn HB9.out hb); replace HA9 := hpl HA9 hb; have HA11 := HA11n; clear HA11n; refine hK2.out _ _ (s3b hHeld hb) (fun hHeld2 => ?_); clear hb; clear hK2 K2 hHeld; have hHeld := hHeld2; clear hHeld2
      try simp only [Act.put, List.setIfInBounds_toArray, List.set_cons_zero, List.set_cons_succ]
      revert hHeld; revert HB9; revert HA9; revert HA11; revert hx9_11; revert x9; revert x11; revert u2; exact hS0_9b.out
  · intro u x8 HA8 HB9 hHeld
    refine wpAnyH_ready (rs := [1, 9, 10, 11]) (by kernel_rfl) (by simp) ?_; refine AllReadyH.cons rfl (fun K2 hK2 => ?_) (AllReadyH.cons rfl (fun K2 hK2 => ?_) (AllReadyH.cons rfl (fun K2 hK2 => ?_) (AllReadyH.cons rfl (fun K2 hK2 => ?_) AllReadyH.nil)))
    all_goals go_simp
    · with_reducible refine Calls.mono (w37made sb sl _ HSB.out.1 HSB.out.2.1 HSB.out.2.2.1 HSB.out.2.2.2 (T3.out.later HB9.out)) ?_
      rintro e u2 ⟨B, lo, g, col, M, R, P, pg, pc, ws, rfl, hp0, hpa0, hB0, hb⟩; have HPL := Lib.hid (And.intro hp0 (And.intro hpa0 (show v3.heap.size ≤ B by have := HB9.out.size; omega))); have HW8 : Hid (Away B col R g P x8) := Lib.hid (.inl (Nat.lt_of_lt_of_le HA8.out.1.1 hB0)); clear hp0 hpa0 hB0; replace HB9 := Lib.hid (thn HB9.out hb); replace HA8 := hpl HA8 hb; refine hK2.out _ _ (s3b hHeld hb) (fun hHeld2 => ?_)
      clear hb; clear hK2 K2 hHeld; have hHeld := hHeld2; clear hHeld2
      try simp only [Act.put, List.setIfInBounds_toArray, List.set_cons_zero, List.set_cons_succ]
      revert hHeld; revert HB9; revert HA8; revert HPL; revert HW8; revert x8; revert B; revert lo; revert g; revert col; revert M; revert R; revert P; revert pg; revert pc; revert ws; revert u2; exact hS1_8.out
    · obtain ⟨x9, u2, hx9, hw9, hz9, hb⟩ := pz_next u
      rw [hw9]
      try rw [hx9]
      clear hw9; have HA9n := Lib.hid (And.intro hz9 (show v3.heap.size ≤ x9 by have := HB9.out.size; omega))
      have hx8_9 : x8 ≠ x9 := by have h1 := HA8.out.1.1; omega
      clear hx9 hz9; replace HB9 := Lib.hid (thn HB9.out hb); replace HA8 := hpl HA8 hb; have HA9 := HA9n; clear HA9n; refine hK2.out _ _ (s3b hHeld hb) (fun hHeld2 => ?_); clear hb; clear hK2 K2 hHeld; have hHeld := hHeld2; clear hHeld2
      try simp only [Act.put, List.setIfInBounds_toArray, List.set_cons_zero, List.set_cons_succ]
      revert hHeld; revert HB9; revert HA8; revert HA9; revert hx8_9; revert x8; revert x9; revert u2; exact hS0_89.out
    · obtain ⟨x10, u2, hx10, hw9, hz9, hb⟩ := cz_next u
      rw [hw9]
      try rw [hx10]
      clear hw9; have HA10n := Lib.hid (And.intro hz9 (show v3.heap.size ≤ x10 by have := HB9.out.size; omega))
      have hx8_10 : x8 ≠ x10 := by have h1 := HA8.out.1.1; omega
      clear hx10 hz9; replace HB9 := Lib.hid (thn HB9.out hb); replace HA8 := hpl HA8 hb; have HA10 := HA10n; clear HA10n; refine hK2.out _ _ (s3b hHeld hb) (fun hHeld2 => ?_); clear hb; clear hK2 K2 hHeld; have hHeld := hHeld2; clear hHeld2
      try simp only [Act.put, List.setIfInBounds_toArray, List.set_cons_zero, List.set_cons_succ]
      revert hHeld; revert HB9; revert HA8; revert HA10; revert hx8_10; revert x8; revert x10; revert u2; exact hS0_8a.out
    · obtain ⟨x11, u2, hx11, hw9, hz9, hb⟩ := cz_next u
      rw [hw9]
      try rw [hx11]
      clear hw9; have HA11n := Lib.hid (And.intro hz9 (show v3.heap.size ≤ x11 by have := HB9.out.size; omega))
      have hx8_11 : x8 ≠ x11 := by have h1 := HA8.out.1.1; omega
      clear hx11 hz9; replace HB9 := Lib.hid (thn HB9.out hb); replace HA8 := hpl HA8 hb; have HA11 := HA11n; clear HA11n; refine hK2.out _ _ (s3b hHeld hb) (fun hHeld2 => ?_); clear hb; clear hK2 K2 hHeld; have hHeld := hHeld2; clear hHeld2
      try simp only [Act.put, List.setIfInBounds_toArray, List.set_cons_zero, List.set_cons_succ]
      revert hHeld; revert HB9; revert HA8; revert HA11; revert hx8_11; revert x8; revert x11; revert u2; exact hS0_8b.out
  · intro u ws pc pg P R M col g lo B HPL HB9 hHeld
    refine wpAnyH_ready (rs := [3, 8, 9, 10, 11]) (by kernel_rfl) (by simp) ?_; refine AllReadyH.cons rfl (fun K2 hK2 => ?_) (AllReadyH.cons rfl (fun K2 hK2 => ?_) (AllReadyH.cons rfl (fun K2 hK2 => ?_) (AllReadyH.cons rfl (fun K2 hK2 => ?_) (AllReadyH.cons rfl (fun K2 hK2 => ?_) AllReadyH.nil))))
    all_goals go_simp
    · with_reducible refine Calls.mono (w37made sb sl _ HSB.out.1 HSB.out.2.1 HSB.out.2.2.1 HSB.out.2.2.2 (T3.out.later HB9.out)) ?_
      rintro e u2 ⟨B', lo', g', col', M', R', P', pg', pc', ws', rfl, hp0, hpa0, hB0, hb⟩; have HPLn : Hid (TWO v3.heap.size B lo g col M R P pg pc ws B' lo' g' col' M' R' P' pg' pc' ws' u2 s37b s37b ∧ (PaintIs sb sl ws ∧ PaintIs sb sl ws')) := Lib.hid (And.intro (TWO.mk' HPL.out.1 hb hp0 hB0 HPL.out.2.2 HB9.out.size) (And.intro HPL.out.2.1 hpa0)); clear HPL; have HPL := HPLn; clear HPLn; clear hp0 hpa0 hB0
      replace HB9 := Lib.hid (thn HB9.out hb); refine hK2.out _ _ (s3b hHeld hb) (fun hHeld2 => ?_); clear hb; clear hK2 K2 hHeld; have hHeld := hHeld2; clear hHeld2
      try simp only [Act.put, List.setIfInBounds_toArray, List.set_cons_zero, List.set_cons_succ]
      revert hHeld; revert HB9; revert HPL; revert B; revert lo; revert g; revert col; revert M; revert R; revert P; revert pg; revert pc; revert ws; revert B'; revert lo'; revert g'; revert col'; revert M'; revert R'; revert P'; revert pg'; revert pc'; revert ws'; revert u2; exact hS2_.out
    · obtain ⟨x8, u2, hx8, hw9, hz9, hb⟩ := pz_next u
      rw [hw9]
      try rw [hx8]
      clear hw9; have HA8n := Lib.hid (And.intro hz9 (show v3.heap.size ≤ x8 by have := HB9.out.size; omega)); have HW8 : Hid (Away B col R g P x8) := Lib.hid (HPL.out.1.fresh (Nat.le_of_eq hx8)); clear hx8 hz9; replace HB9 := Lib.hid (thn HB9.out hb); replace HPL := Lib.hid (And.intro (HPL.out.1.later hb) HPL.out.2); have HA8 := HA8n; clear HA8n; refine hK2.out _ _ (s3b hHeld hb) (fun hHeld2 => ?_); clear hb
      clear hK2 K2 hHeld; have hHeld := hHeld2; clear hHeld2
      try simp only [Act.put, List.setIfInBounds_toArray, List.set_cons_zero, List.set_cons_succ]
      revert hHeld; revert HB9; revert HA8; revert HPL; revert HW8; revert x8; revert B; revert lo; revert g; revert col; revert M; revert R; revert P; revert pg; revert pc; revert ws; revert u2; exact hS1_8.out
    · obtain ⟨x9, u2, hx9, hw9, hz9, hb⟩ := pz_next u
      rw [hw9]
      try rw [hx9]
      clear hw9; have HA9n := Lib.hid (And.intro hz9 (show v3.heap.size ≤ x9 by have := HB9.out.size; omega)); have HW9 : Hid (Away B col R g P x9) := Lib.hid (HPL.out.1.fresh (Nat.le_of_eq hx9)); clear hx9 hz9; replace HB9 := Lib.hid (thn HB9.out hb); replace HPL := Lib.hid (And.intro (HPL.out.1.later hb) HPL.out.2); have HA9 := HA9n; clear HA9n; refine hK2.out _ _ (s3b hHeld hb) (fun hHeld2 => ?_); clear hb
      clear hK2 K2 hHeld; have hHeld := hHeld2; clear hHeld2
      try simp only [Act.put, List.setIfInBounds_toArray, List.set_cons_zero, List.set_cons_succ]
      revert hHeld; revert HB9; revert HA9; revert HPL; revert HW9; revert x9; revert B; revert lo; revert g; revert col; revert M; revert R; revert P; revert pg; revert pc; revert ws; revert u2; exact hS1_9.out
    · obtain ⟨x10, u2, hx10, hw9, hz9, hb⟩ := cz_next u
      rw [hw9]
      try rw [hx10]
      clear hw9; have HA10n := Lib.hid (And.intro hz9 (show v3.heap.size ≤ x10 by have := HB9.out.size; omega)); have HW10 : Hid (Away B col R g P x10) := Lib.hid (HPL.out.1.fresh (Nat.le_of_eq hx10)); clear hx10 hz9; replace HB9 := Lib.hid (thn HB9.out hb); replace HPL := Lib.hid (And.intro (HPL.out.1.later hb) HPL.out.2); have HA10 := HA10n; clear HA10n; refine hK2.out _ _ (s3b hHeld hb) (fun hHeld2 => ?_)
      clear hb; clear hK2 K2 hHeld; have hHeld := hHeld2; clear hHeld2
      try simp only [Act.put, List.setIfInBounds_toArray, List.set_cons_zero, List.set_cons_succ]
      revert hHeld; revert HB9; revert HA10; revert HPL; revert HW10; revert x10; revert B; revert lo; revert g; revert col; revert M; revert R; revert P; revert pg; revert pc; revert ws; revert u2; exact hS1_a.out
    · obtain ⟨x11, u2, hx11, hw9, hz9, hb⟩ := cz_next u
      rw [hw9]
      try rw [hx11]
      clear hw9; have HA11n := Lib.hid (And.intro hz9 (show v3.heap.size ≤ x11 by have := HB9.out.size; omega)); have HW11 : Hid (Away B col R g P x11) := Lib.hid (HPL.out.1.fresh (Nat.le_of_eq hx11)); clear hx11 hz9; replace HB9 := Lib.hid (thn HB9.out hb); replace HPL := Lib.hid (And.intro (HPL.out.1.later hb) HPL.out.2); have HA11 := HA11n; clear HA11n; refine hK2.out _ _ (s3b hHeld hb) (fun hHeld2 => ?_)
      clear hb; clear hK2 K2 hHeld; have hHeld := hHeld2; clear hHeld2
      try simp only [Act.put, List.setIfInBounds_toArray, List.set_cons_zero, List.set_cons_succ]
      revert hHeld; revert HB9; revert HA11; revert HPL; revert HW11; revert x11; revert B; revert lo; revert g; revert col; revert M; revert R; revert P; revert pg; revert pc; revert ws; revert u2; exact hS1_b.out
  · intro u x11 x10 hx10_11 HA11 HA10 HB9 hHeld
    refine wpAnyH_ready (rs := [1, 8, 9]) (by kernel_rfl) (by simp) ?_; refine AllReadyH.cons rfl (fun K2 hK2 => ?_) (AllReadyH.cons rfl (fun K2 hK2 => ?_) (AllReadyH.cons rfl (fun K2 hK2 => ?_) AllReadyH.nil))
    all_goals go_simp
    · with_reducible refine Calls.mono (w37made sb sl _ HSB.out.1 HSB.out.2.1 HSB.out.2.2.1 HSB.out.2.2.2 (T3.out.later HB9.out)) ?_
      rintro e u2 ⟨B, lo, g, col, M, R, P, pg, pc, ws, rfl, hp0, hpa0, hB0, hb⟩; have HPL := Lib.hid (And.intro hp0 (And.intro hpa0 (show v3.heap.size ≤ B by have := HB9.out.size; omega))); have HW10 : Hid (Away B col R g P x10) := Lib.hid (.inl (Nat.lt_of_lt_of_le HA10.out.1.1 hB0)); have HW11 : Hid (Away B col R g P x11) := Lib.hid (.inl (Nat.lt_of_lt_of_le HA11.out.1.1 hB0)); clear hp0 hpa0 hB0; replace HB9 := Lib.hid (thn HB9.out hb)
      replace HA10 := hbl HA10 hb; replace HA11 := hbl HA11 hb; refine hK2.out _ _ (s3b hHeld hb) (fun hHeld2 => ?_); clear hb; clear hK2 K2 hHeld; have hHeld := hHeld2; clear hHeld2
      try simp only [Act.put, List.setIfInBounds_toArray, List.set_cons_zero, List.set_cons_succ]
      revert hHeld; revert HB9; revert HA10; revert HA11; revert hx10_11; revert HPL; revert HW10; revert HW11; revert x10; revert x11; revert B; revert lo; revert g; revert col; revert M; revert R; revert P; revert pg; revert pc; revert ws; revert u2; exact hS1_ab.out
    · obtain ⟨x8, u2, hx8, hw9, hz9, hb⟩ := pz_next u
      rw [hw9]
      try rw [hx8]
      clear hw9; have HA8n := Lib.hid (And.intro hz9 (show v3.heap.size ≤ x8 by have := HB9.out.size; omega))
      have hx8_10 : x8 ≠ x10 := by have h1 := HA10.out.1.1; omega
      have hx8_11 : x8 ≠ x11 := by have h1 := HA11.out.1.1; omega
      clear hx8 hz9; replace HB9 := Lib.hid (thn HB9.out hb); replace HA10 := hbl HA10 hb; replace HA11 := hbl HA11 hb; have HA8 := HA8n; clear HA8n; refine hK2.out _ _ (s3b hHeld hb) (fun hHeld2 => ?_); clear hb; clear hK2 K2 hHeld; have hHeld := hHeld2; clear hHeld2
      try simp only [Act.put, List.setIfInBounds_toArray, List.set_cons_zero, List.set_cons_succ]
      revert hHeld; revert HB9; revert HA8; revert HA10; revert HA11; revert hx8_10; revert hx8_11; revert hx10_11; revert x8; revert x10; revert x11; revert u2; exact hS0_8ab.out
    · obtain ⟨x9, u2, hx9, hw9, hz9, hb⟩ := pz_next u
      rw [hw9]
      try rw [hx9]
      clear hw9; have HA9n := Lib.hid (And.intro hz9 (show v3.heap.size ≤ x9 by have := HB9.out.size; omega))
      have hx9_10 : x9 ≠ x10 := by have h1 := HA10.out.1.1; omega
      have hx9_11 : x9 ≠ x11 := by have h1 := HA11.out.1.1; omega
      clear hx9 hz9; replace HB9 := Lib.hid (thn HB9.out hb); replace HA10 := hbl HA10 hb; replace HA11 := hbl HA11 hb; have HA9 := HA9n; clear HA9n; refine hK2.out _ _ (s3b hHeld hb) (fun hHeld2 => ?_); clear hb; clear hK2 K2 hHeld; have hHeld := hHeld2; clear hHeld2
      try simp only [Act.put, List.setIfInBounds_toArray, List.set_cons_zero, List.set_cons_succ]
      revert hHeld; revert HB9; revert HA9; revert HA10; revert HA11; revert hx9_10; revert hx9_11; revert hx10_11; revert x9; revert x10; revert x11; revert u2; exact hS0_9ab.out
  · intro u x11 x9 hx9_11 HA11 HA9 HB9 hHeld
    refine wpAnyH_ready (rs := [1, 8, 10]) (by kernel_rfl) (by simp) ?_; refine AllReadyH.cons rfl (fun K2 hK2 => ?_) (AllReadyH.cons rfl (fun K2 hK2 => ?_) (AllReadyH.cons rfl (fun K2 hK2 => ?_) AllReadyH.nil))
    all_goals go_simp
    · with_reducible refine Calls.mono (w37made sb sl _ HSB.out.1 HSB.out.2.1 HSB.out.2.2.1 HSB.out.2.2.2 (T3.out.later HB9.out)) ?_
      rintro e u2 ⟨B, lo, g, col, M, R, P, pg, pc, ws, rfl, hp0, hpa0, hB0, hb⟩; have HPL := Lib.hid (And.intro hp0 (And.intro hpa0 (show v3.heap.size ≤ B by have := HB9.out.size; omega))); have HW9 : Hid (Away B col R g P x9) := Lib.hid (.inl (Nat.lt_of_lt_of_le HA9.out.1.1 hB0)); have HW11 : Hid (Away B col R g P x11) := Lib.hid (.inl (Nat.lt_of_lt_of_le HA11.out.1.1 hB0)); clear hp0 hpa0 hB0; replace HB9 := Lib.hid (thn HB9.out hb)
      replace HA9 := hpl HA9 hb; replace HA11 := hbl HA11 hb; refine hK2.out _ _ (s3b hHeld hb) (fun hHeld2 => ?_); clear hb; clear hK2 K2 hHeld; have hHeld := hHeld2; clear hHeld2
      try simp only [Act.put, List.setIfInBounds_toArray, List.set_cons_zero, List.set_cons_succ]
      revert hHeld; revert HB9; revert HA9; revert HA11; revert hx9_11; revert HPL; revert HW9; revert HW11; revert x9; revert x11; revert B; revert lo; revert g; revert col; revert M; revert R; revert P; revert pg; revert pc; revert ws; revert u2; exact hS1_9b.out
    · obtain ⟨x8, u2, hx8, hw9, hz9, hb⟩ := pz_next u
      rw [hw9]
      try rw [hx8]
      clear hw9; have HA8n := Lib.hid (And.intro hz9 (show v3.heap.size ≤ x8 by have := HB9.out.size; omega))
      have hx8_9 : x8 ≠ x9 := by have h1 := HA9.out.1.1; omega
      have hx8_11 : x8 ≠ x11 := by have h1 := HA11.out.1.1; omega
      clear hx8 hz9; replace HB9 := Lib.hid (thn HB9.out hb); replace HA9 := hpl HA9 hb; replace HA11 := hbl HA11 hb; have HA8 := HA8n; clear HA8n; refine hK2.out _ _ (s3b hHeld hb) (fun hHeld2 => ?_); clear hb; clear hK2 K2 hHeld; have hHeld := hHeld2; clear hHeld2
      try simp only [Act.put, List.setIfInBounds_toArray, List.set_cons_zero, List.set_cons_succ]
      revert hHeld; revert HB9; revert HA8; revert HA9; revert HA11; revert hx8_9; revert hx8_11; revert hx9_11; revert x8; revert x9; revert x11; revert u2; exact hS0_89b.out
    · obtain ⟨x10, u2, hx10, hw9, hz9, hb⟩ := cz_next u
      rw [hw9]
      try rw [hx10]
      clear hw9; have HA10n := Lib.hid (And.intro hz9 (show v3.heap.size ≤ x10 by have := HB9.out.size; omega))
      have hx9_10 : x9 ≠ x10 := by have h1 := HA9.out.1.1; omega
      have hx10_11 : x10 ≠ x11 := by have h1 := HA11.out.1.1; omega
      clear hx10 hz9; replace HB9 := Lib.hid (thn HB9.out hb); replace HA9 := hpl HA9 hb; replace HA11 := hbl HA11 hb; have HA10 := HA10n; clear HA10n; refine hK2.out _ _ (s3b hHeld hb) (fun hHeld2 => ?_); clear hb; clear hK2 K2 hHeld; have hHeld := hHeld2; clear hHeld2
      try simp only [Act.put, List.setIfInBounds_toArray, List.set_cons_zero, List.set_cons_succ]
      revert hHeld; revert HB9; revert HA9; revert HA10; revert HA11; revert hx9_10; revert hx9_11; revert hx10_11; revert x9; revert x10; revert x11; revert u2; exact hS0_9ab.out
  · intro u x10 x9 hx9_10 HA10 HA9 HB9 hHeld
    refine wpAnyH_ready (rs := [1, 8, 11]) (by kernel_rfl) (by simp) ?_; refine AllReadyH.cons rfl (fun K2 hK2 => ?_) (AllReadyH.cons rfl (fun K2 hK2 => ?_) (AllReadyH.cons rfl (fun K2 hK2 => ?_) AllReadyH.nil))
    all_goals go_simp
    · with_reducible refine Calls.mono (w37made sb sl _ HSB.out.1 HSB.out.2.1 HSB.out.2.2.1 HSB.out.2.2.2 (T3.out.later HB9.out)) ?_
      rintro e u2 ⟨B, lo, g, col, M, R, P, pg, pc, ws, rfl, hp0, hpa0, hB0, hb⟩; have HPL := Lib.hid (And.intro hp0 (And.intro hpa0 (show v3.heap.size ≤ B by have := HB9.out.size; omega))); have HW9 : Hid (Away B col R g P x9) := Lib.hid (.inl (Nat.lt_of_lt_of_le HA9.out.1.1 hB0)); have HW10 : Hid (Away B col R g P x10) := Lib.hid (.inl (Nat.lt_of_lt_of_le HA10.out.1.1 hB0)); clear hp0 hpa0 hB0; replace HB9 := Lib.hid (thn HB9.out hb)
      replace HA9 := hpl HA9 hb; replace HA10 := hbl HA10 hb; refine hK2.out _ _ (s3b hHeld hb) (fun hHeld2 => ?_); clear hb; clear hK2 K2 hHeld; have hHeld := hHeld2; clear hHeld2
      try simp only [Act.put, List.setIfInBounds_toArray, List.set_cons_zero, List.set_cons_succ]
      revert hHeld; revert HB9; revert HA9; revert HA10; revert hx9_10; revert HPL; revert HW9; revert HW10; revert x9; revert x10; revert B; revert lo; revert g; revert col; revert M; revert R; revert P; revert pg; revert pc; revert ws; revert u2; exact hS1_9a.out
    · obtain ⟨x8, u2, hx8, hw9, hz9, hb⟩ := pz_next u
      rw [hw9]
      try rw [hx8]
      clear hw9; have HA8n := Lib.hid (And.intro hz9 (show v3.heap.size ≤ x8 by have := HB9.out.size; omega))
      have hx8_9 : x8 ≠ x9 := by have h1 := HA9.out.1.1; omega
      have hx8_10 : x8 ≠ x10 := by have h1 := HA10.out.1.1; omega
      clear hx8 hz9; replace HB9 := Lib.hid (thn HB9.out hb); replace HA9 := hpl HA9 hb; replace HA10 := hbl HA10 hb; have HA8 := HA8n; clear HA8n; refine hK2.out _ _ (s3b hHeld hb) (fun hHeld2 => ?_); clear hb; clear hK2 K2 hHeld; have hHeld := hHeld2; clear hHeld2
      try simp only [Act.put, List.setIfInBounds_toArray, List.set_cons_zero, List.set_cons_succ]
      revert hHeld; revert HB9; revert HA8; revert HA9; revert HA10; revert hx8_9; revert hx8_10; revert hx9_10; revert x8; revert x9; revert x10; revert u2; exact hS0_89a.out
    · obtain ⟨x11, u2, hx11, hw9, hz9, hb⟩ := cz_next u
      rw [hw9]
      try rw [hx11]
      clear hw9; have HA11n := Lib.hid (And.intro hz9 (show v3.heap.size ≤ x11 by have := HB9.out.size; omega))
      have hx9_11 : x9 ≠ x11 := by have h1 := HA9.out.1.1; omega
      have hx10_11 : x10 ≠ x11 := by have h1 := HA10.out.1.1; omega
      clear hx11 hz9; replace HB9 := Lib.hid (thn HB9.out hb); replace HA9 := hpl HA9 hb; replace HA10 := hbl HA10 hb; have HA11 := HA11n; clear HA11n; refine hK2.out _ _ (s3b hHeld hb) (fun hHeld2 => ?_); clear hb; clear hK2 K2 hHeld; have hHeld := hHeld2; clear hHeld2
      try simp only [Act.put, List.setIfInBounds_toArray, List.set_cons_zero, List.set_cons_succ]
      revert hHeld; revert HB9; revert HA9; revert HA10; revert HA11; revert hx9_10; revert hx9_11; revert hx10_11; revert x9; revert x10; revert x11; revert u2; exact hS0_9ab.out
  · intro u x11 x8 hx8_11 HA11 HA8 HB9 hHeld
    refine wpAnyH_ready (rs := [1, 9, 10]) (by kernel_rfl) (by simp) ?_; refine AllReadyH.cons rfl (fun K2 hK2 => ?_) (AllReadyH.cons rfl (fun K2 hK2 => ?_) (AllReadyH.cons rfl (fun K2 hK2 => ?_) AllReadyH.nil))
    all_goals go_simp
    · with_reducible refine Calls.mono (w37made sb sl _ HSB.out.1 HSB.out.2.1 HSB.out.2.2.1 HSB.out.2.2.2 (T3.out.later HB9.out)) ?_
      rintro e u2 ⟨B, lo, g, col, M, R, P, pg, pc, ws, rfl, hp0, hpa0, hB0, hb⟩; have HPL := Lib.hid (And.intro hp0 (And.intro hpa0 (show v3.heap.size ≤ B by have := HB9.out.size; omega))); have HW8 : Hid (Away B col R g P x8) := Lib.hid (.inl (Nat.lt_of_lt_of_le HA8.out.1.1 hB0)); have HW11 : Hid (Away B col R g P x11) := Lib.hid (.inl (Nat.lt_of_lt_of_le HA11.out.1.1 hB0)); clear hp0 hpa0 hB0; replace HB9 := Lib.hid (thn HB9.out hb)
      replace HA8 := hpl HA8 hb; replace HA11 := hbl HA11 hb; refine hK2.out _ _ (s3b hHeld hb) (fun hHeld2 => ?_); clear hb; clear hK2 K2 hHeld; have hHeld := hHeld2; clear hHeld2
      try simp only [Act.put, List.setIfInBounds_toArray, List.set_cons_zero, List.set_cons_succ]
      revert hHeld; revert HB9; revert HA8; revert HA11; revert hx8_11; revert HPL; revert HW8; revert HW11; revert x8; revert x11; revert B; revert lo; revert g; revert col; revert M; revert R; revert P; revert pg; revert pc; revert ws; revert u2; exact hS1_8b.out
    · obtain ⟨x9, u2, hx9, hw9, hz9, hb⟩ := pz_next u
      rw [hw9]
      try rw [hx9]
      clear hw9; have HA9n := Lib.hid (And.intro hz9 (show v3.heap.size ≤ x9 by have := HB9.out.size; omega))
      have hx8_9 : x8 ≠ x9 := by have h1 := HA8.out.1.1; omega
      have hx9_11 : x9 ≠ x11 := by have h1 := HA11.out.1.1; omega
      clear hx9 hz9; replace HB9 := Lib.hid (thn HB9.out hb); replace HA8 := hpl HA8 hb; replace HA11 := hbl HA11 hb; have HA9 := HA9n; clear HA9n; refine hK2.out _ _ (s3b hHeld hb) (fun hHeld2 => ?_); clear hb; clear hK2 K2 hHeld; have hHeld := hHeld2; clear hHeld2
      try simp only [Act.put, List.setIfInBounds_toArray, List.set_cons_zero, List.set_cons_succ]
      revert hHeld; revert HB9; revert HA8; revert HA9; revert HA11; revert hx8_9; revert hx8_11; revert hx9_11; revert x8; revert x9; revert x11; revert u2; exact hS0_89b.out
    · obtain ⟨x10, u2, hx10, hw9, hz9, hb⟩ := cz_next u
      rw [hw9]
      try rw [hx10]
      clear hw9; have HA10n := Lib.hid (And.intro hz9 (show v3.heap.size ≤ x10 by have := HB9.out.size; omega))
      have hx8_10 : x8 ≠ x10 := by have h1 := HA8.out.1.1; omega
      have hx10_11 : x10 ≠ x11 := by have h1 := HA11.out.1.1; omega
      clear hx10 hz9; replace HB9 := Lib.hid (thn HB9.out hb); replace HA8 := hpl HA8 hb; replace HA11 := hbl HA11 hb; have HA10 := HA10n; clear HA10n; refine hK2.out _ _ (s3b hHeld hb) (fun hHeld2 => ?_); clear hb; clear hK2 K2 hHeld; have hHeld := hHeld2; clear hHeld2
      try simp only [Act.put, List.setIfInBounds_toArray, List.set_cons_zero, List.set_cons_succ]
      revert hHeld; revert HB9; revert HA8; revert HA10; revert HA11; revert hx8_10; revert hx8_11; revert hx10_11; revert x8; revert x10; revert x11; revert u2; exact hS0_8ab.out
  · intro u x10 x8 hx8_10 HA10 HA8 HB9 hHeld
    refine wpAnyH_ready (rs := [1, 9, 11]) (by kernel_rfl) (by simp) ?_; refine AllReadyH.cons rfl (fun K2 hK2 => ?_) (AllReadyH.cons rfl (fun K2 hK2 => ?_) (AllReadyH.cons rfl (fun K2 hK2 => ?_) AllReadyH.nil))
    all_goals go_simp
    · with_reducible refine Calls.mono (w37made sb sl _ HSB.out.1 HSB.out.2.1 HSB.out.2.2.1 HSB.out.2.2.2 (T3.out.later HB9.out)) ?_
      rintro e u2 ⟨B, lo, g, col, M, R, P, pg, pc, ws, rfl, hp0, hpa0, hB0, hb⟩; have HPL := Lib.hid (And.intro hp0 (And.intro hpa0 (show v3.heap.size ≤ B by have := HB9.out.size; omega))); have HW8 : Hid (Away B col R g P x8) := Lib.hid (.inl (Nat.lt_of_lt_of_le HA8.out.1.1 hB0)); have HW10 : Hid (Away B col R g P x10) := Lib.hid (.inl (Nat.lt_of_lt_of_le HA10.out.1.1 hB0)); clear hp0 hpa0 hB0; replace HB9 := Lib.hid (thn HB9.out hb)
      replace HA8 := hpl HA8 hb; replace HA10 := hbl HA10 hb; refine hK2.out _ _ (s3b hHeld hb) (fun hHeld2 => ?_); clear hb; clear hK2 K2 hHeld; have hHeld := hHeld2; clear hHeld2
      try simp only [Act.put, List.setIfInBounds_toArray, List.set_cons_zero, List.set_cons_succ]
      revert hHeld; revert HB9; revert HA8; revert HA10; revert hx8_10; revert HPL; revert HW8; revert HW10; revert x8; revert x10; revert B; revert lo; revert g; revert col; revert M; revert R; revert P; revert pg; revert pc; revert ws; revert u2; exact hS1_8a.out
    · obtain ⟨x9, u2, hx9, hw9, hz9, hb⟩ := pz_next u
      rw [hw9]
      try rw [hx9]
      clear hw9; have HA9n := Lib.hid (And.intro hz9 (show v3.heap.size ≤ x9 by have := HB9.out.size; omega))
      have hx8_9 : x8 ≠ x9 := by have h1 := HA8.out.1.1; omega
      have hx9_10 : x9 ≠ x10 := by have h1 := HA10.out.1.1; omega
      clear hx9 hz9; replace HB9 := Lib.hid (thn HB9.out hb); replace HA8 := hpl HA8 hb; replace HA10 := hbl HA10 hb; have HA9 := HA9n; clear HA9n; refine hK2.out _ _ (s3b hHeld hb) (fun hHeld2 => ?_); clear hb; clear hK2 K2 hHeld; have hHeld := hHeld2; clear hHeld2
      try simp only [Act.put, List.setIfInBounds_toArray, List.set_cons_zero, List.set_cons_succ]
      revert hHeld; revert HB9; revert HA8; revert HA9; revert HA10; revert hx8_9; revert hx8_10; revert hx9_10; revert x8; revert x9; revert x10; revert u2; exact hS0_89a.out
    · obtain ⟨x11, u2, hx11, hw9, hz9, hb⟩ := cz_next u
      rw [hw9]
      try rw [hx11]
      clear hw9; have HA11n := Lib.hid (And.intro hz9 (show v3.heap.size ≤ x11 by have := HB9.out.size; omega))
      have hx8_11 : x8 ≠ x11 := by have h1 := HA8.out.1.1; omega
      have hx10_11 : x10 ≠ x11 := by have h1 := HA10.out.1.1; omega
      clear hx11 hz9; replace HB9 := Lib.hid (thn HB9.out hb); replace HA8 := hpl HA8 hb; replace HA10 := hbl HA10 hb; have HA11 := HA11n; clear HA11n; refine hK2.out _ _ (s3b hHeld hb) (fun hHeld2 => ?_); clear hb; clear hK2 K2 hHeld; have hHeld := hHeld2; clear hHeld2
      try simp only [Act.put, List.setIfInBounds_toArray, List.set_cons_zero, List.set_cons_succ]
      revert hHeld; revert HB9; revert HA8; revert HA10; revert HA11; revert hx8_10; revert hx8_11; revert hx10_11; revert x8; revert x10; revert x11; revert u2; exact hS0_8ab.out
  · intro u x9 x8 hx8_9 HA9 HA8 HB9 hHeld
    refine wpAnyH_ready (rs := [1, 10, 11]) (by kernel_rfl) (by simp) ?_; refine AllReadyH.cons rfl (fun K2 hK2 => ?_) (AllReadyH.cons rfl (fun K2 hK2 => ?_) (AllReadyH.cons rfl (fun K2 hK2 => ?_) AllReadyH.nil))
    all_goals go_simp
    · with_reducible refine Calls.mono (w37made sb sl _ HSB.out.1 HSB.out.2.1 HSB.out.2.2.1 HSB.out.2.2.2 (T3.out.later HB9.out)) ?_
      rintro e u2 ⟨B, lo, g, col, M, R, P, pg, pc, ws, rfl, hp0, hpa0, hB0, hb⟩; have HPL := Lib.hid (And.intro hp0 (And.intro hpa0 (show v3.heap.size ≤ B by have := HB9.out.size; omega))); have HW8 : Hid (Away B col R g P x8) := Lib.hid (.inl (Nat.lt_of_lt_of_le HA8.out.1.1 hB0)); have HW9 : Hid (Away B col R g P x9) := Lib.hid (.inl (Nat.lt_of_lt_of_le HA9.out.1.1 hB0)); clear hp0 hpa0 hB0; replace HB9 := Lib.hid (thn HB9.out hb)
      replace HA8 := hpl HA8 hb; replace HA9 := hpl HA9 hb; refine hK2.out _ _ (s3b hHeld hb) (fun hHeld2 => ?_); clear hb; clear hK2 K2 hHeld; have hHeld := hHeld2; clear hHeld2
      try simp only [Act.put, List.setIfInBounds_toArray, List.set_cons_zero, List.set_cons_succ]
      revert hHeld; revert HB9; revert HA8; revert HA9; revert hx8_9; revert HPL; revert HW8; revert HW9; revert x8; revert x9; revert B; revert lo; revert g; revert col; revert M; revert R; revert P; revert pg; revert pc; revert ws; revert u2; exact hS1_89.out
    · obtain ⟨x10, u2, hx10, hw9, hz9, hb⟩ := cz_next u
      rw [hw9]
      try rw [hx10]
      clear hw9; have HA10n := Lib.hid (And.intro hz9 (show v3.heap.size ≤ x10 by have := HB9.out.size; omega))
      have hx8_10 : x8 ≠ x10 := by have h1 := HA8.out.1.1; omega
      have hx9_10 : x9 ≠ x10 := by have h1 := HA9.out.1.1; omega
      clear hx10 hz9; replace HB9 := Lib.hid (thn HB9.out hb); replace HA8 := hpl HA8 hb; replace HA9 := hpl HA9 hb; have HA10 := HA10n; clear HA10n; refine hK2.out _ _ (s3b hHeld hb) (fun hHeld2 => ?_); clear hb; clear hK2 K2 hHeld; have hHeld := hHeld2; clear hHeld2
      try simp only [Act.put, List.setIfInBounds_toArray, List.set_cons_zero, List.set_cons_succ]
      revert hHeld; revert HB9; revert HA8; revert HA9; revert HA10; revert hx8_9; revert hx8_10; revert hx9_10; revert x8; revert x9; revert x10; revert u2; exact hS0_89a.out
    · obtain ⟨x11, u2, hx11, hw9, hz9, hb⟩ := cz_next u
      rw [hw9]
      try rw [hx11]
      clear hw9; have HA11n := Lib.hid (And.intro hz9 (show v3.heap.size ≤ x11 by have := HB9.out.size; omega))
      have hx8_11 : x8 ≠ x11 := by have h1 := HA8.out.1.1; omega
      have hx9_11 : x9 ≠ x11 := by have h1 := HA9.out.1.1; omega
      clear hx11 hz9; replace HB9 := Lib.hid (thn HB9.out hb); replace HA8 := hpl HA8 hb; replace HA9 := hpl HA9 hb; have HA11 := HA11n; clear HA11n; refine hK2.out _ _ (s3b hHeld hb) (fun hHeld2 => ?_); clear hb; clear hK2 K2 hHeld; have hHeld := hHeld2; clear hHeld2
      try simp only [Act.put, List.setIfInBounds_toArray, List.set_cons_zero, List.set_cons_succ]
      revert hHeld; revert HB9; revert HA8; revert HA9; revert HA11; revert hx8_9; revert hx8_11; revert hx9_11; revert x8; revert x9; revert x11; revert u2; exact hS0_89b.out
  · intro u ws pc pg P R M col g lo B x11 HW11 HPL HA11 HB9 hHeld
    refine wpAnyH_ready (rs := [3, 8, 9, 10]) (by kernel_rfl) (by simp) ?_; refine AllReadyH.cons rfl (fun K2 hK2 => ?_) (AllReadyH.cons rfl (fun K2 hK2 => ?_) (AllReadyH.cons rfl (fun K2 hK2 => ?_) (AllReadyH.cons rfl (fun K2 hK2 => ?_) AllReadyH.nil)))
    all_goals go_simp
    · with_reducible refine Calls.mono (w37made sb sl _ HSB.out.1 HSB.out.2.1 HSB.out.2.2.1 HSB.out.2.2.2 (T3.out.later HB9.out)) ?_
      rintro e u2 ⟨B', lo', g', col', M', R', P', pg', pc', ws', rfl, hp0, hpa0, hB0, hb⟩; have HPLn : Hid (TWO v3.heap.size B lo g col M R P pg pc ws B' lo' g' col' M' R' P' pg' pc' ws' u2 s37b s37b ∧ (PaintIs sb sl ws ∧ PaintIs sb sl ws')) := Lib.hid (And.intro (TWO.mk' HPL.out.1 hb hp0 hB0 HPL.out.2.2 HB9.out.size) (And.intro HPL.out.2.1 hpa0)); clear HPL; have HPL := HPLn; clear HPLn; replace HW11 : Hid (Away B col R g P x11 ∧ Away B' col' R' g' P' x11) := Lib.hid ⟨HW11.out, .inl (Nat.lt_of_lt_of_le HA11.out.1.1 hB0)⟩
      clear hp0 hpa0 hB0; replace HB9 := Lib.hid (thn HB9.out hb); replace HA11 := hbl HA11 hb; refine hK2.out _ _ (s3b hHeld hb) (fun hHeld2 => ?_); clear hb; clear hK2 K2 hHeld; have hHeld := hHeld2; clear hHeld2
      try simp only [Act.put, List.setIfInBounds_toArray, List.set_cons_zero, List.set_cons_succ]
      revert hHeld; revert HB9; revert HA11; revert HPL; revert HW11; revert x11; revert B; revert lo; revert g; revert col; revert M; revert R; revert P; revert pg; revert pc; revert ws; revert B'; revert lo'; revert g'; revert col'; revert M'; revert R'; revert P'; revert pg'; revert pc'; revert ws'; revert u2; exact hS2_b.out
    · obtain ⟨x8, u2, hx8, hw9, hz9, hb⟩ := pz_next u
      rw [hw9]
      try rw [hx8]
      clear hw9; have HA8n := Lib.hid (And.intro hz9 (show v3.heap.size ≤ x8 by have := HB9.out.size; omega))
      have hx8_11 : x8 ≠ x11 := by have h1 := HA11.out.1.1; omega
      have HW8 : Hid (Away B col R g P x8) := Lib.hid (HPL.out.1.fresh (Nat.le_of_eq hx8)); clear hx8 hz9; replace HB9 := Lib.hid (thn HB9.out hb); replace HA11 := hbl HA11 hb; replace HPL := Lib.hid (And.intro (HPL.out.1.later hb) HPL.out.2); have HA8 := HA8n; clear HA8n; refine hK2.out _ _ (s3b hHeld hb) (fun hHeld2 => ?_); clear hb; clear hK2 K2 hHeld; have hHeld := hHeld2; clear hHeld2
      try simp only [Act.put, List.setIfInBounds_toArray, List.set_cons_zero, List.set_cons_succ]
      revert hHeld; revert HB9; revert HA8; revert HA11; revert hx8_11; revert HPL; revert HW8; revert HW11; revert x8; revert x11; revert B; revert lo; revert g; revert col; revert M; revert R; revert P; revert pg; revert pc; revert ws; revert u2; exact hS1_8b.out
    · obtain ⟨x9, u2, hx9, hw9, hz9, hb⟩ := pz_next u
      rw [hw9]
      try rw [hx9]
      clear hw9; have HA9n := Lib.hid (And.intro hz9 (show v3.heap.size ≤ x9 by have := HB9.out.size; omega))
      have hx9_11 : x9 ≠ x11 := by have h1 := HA11.out.1.1; omega
      have HW9 : Hid (Away B col R g P x9) := Lib.hid (HPL.out.1.fresh (Nat.le_of_eq hx9)); clear hx9 hz9; replace HB9 := Lib.hid (thn HB9.out hb); replace HA11 := hbl HA11 hb; replace HPL := Lib.hid (And.intro (HPL.out.1.later hb) HPL.out.2); have HA9 := HA9n; clear HA9n; refine hK2.out _ _ (s3b hHeld hb) (fun hHeld2 => ?_); clear hb; clear hK2 K2 hHeld; have hHeld := hHeld2; clear hHeld2
      try simp only [Act.put, List.setIfInBounds_toArray, List.set_cons_zero, List.set_cons_succ]
      revert hHeld; revert HB9; revert HA9; revert HA11; revert hx9_11; revert HPL; revert HW9; revert HW11; revert x9; revert x11; revert B; revert lo; revert g; revert col; revert M; revert R; revert P; revert pg; revert pc; revert ws; revert u2; exact hS1_9b.out
    · obtain ⟨x10, u2, hx10, hw9, hz9, hb⟩ := cz_next u
      rw [hw9]
      try rw [hx10]
      clear hw9; have HA10n := Lib.hid (And.intro hz9 (show v3.heap.size ≤ x10 by have := HB9.out.size; omega))
      have hx10_11 : x10 ≠ x11 := by have h1 := HA11.out.1.1; omega
      have HW10 : Hid (Away B col R g P x10) := Lib.hid (HPL.out.1.fresh (Nat.le_of_eq hx10)); clear hx10 hz9; replace HB9 := Lib.hid (thn HB9.out hb); replace HA11 := hbl HA11 hb; replace HPL := Lib.hid (And.intro (HPL.out.1.later hb) HPL.out.2); have HA10 := HA10n; clear HA10n; refine hK2.out _ _ (s3b hHeld hb) (fun hHeld2 => ?_); clear hb; clear hK2 K2 hHeld; have hHeld := hHeld2; clear hHeld2
      try simp only [Act.put, List.setIfInBounds_toArray, List.set_cons_zero, List.set_cons_succ]
      revert hHeld; revert HB9; revert HA10; revert HA11; revert hx10_11; revert HPL; revert HW10; revert HW11; revert x10; revert x11; revert B; revert lo; revert g; revert col; revert M; revert R; revert P; revert pg; revert pc; revert ws; revert u2; exact hS1_ab.out
  · intro u ws pc pg P R M col g lo B x10 HW10 HPL HA10 HB9 hHeld
    refine wpAnyH_ready (rs := [3, 8, 9, 11]) (by kernel_rfl) (by simp) ?_; refine AllReadyH.cons rfl (fun K2 hK2 => ?_) (AllReadyH.cons rfl (fun K2 hK2 => ?_) (AllReadyH.cons rfl (fun K2 hK2 => ?_) (AllReadyH.cons rfl (fun K2 hK2 => ?_) AllReadyH.nil)))
    all_goals go_simp
    · with_reducible refine Calls.mono (w37made sb sl _ HSB.out.1 HSB.out.2.1 HSB.out.2.2.1 HSB.out.2.2.2 (T3.out.later HB9.out)) ?_
      rintro e u2 ⟨B', lo', g', col', M', R', P', pg', pc', ws', rfl, hp0, hpa0, hB0, hb⟩; have HPLn : Hid (TWO v3.heap.size B lo g col M R P pg pc ws B' lo' g' col' M' R' P' pg' pc' ws' u2 s37b s37b ∧ (PaintIs sb sl ws ∧ PaintIs sb sl ws')) := Lib.hid (And.intro (TWO.mk' HPL.out.1 hb hp0 hB0 HPL.out.2.2 HB9.out.size) (And.intro HPL.out.2.1 hpa0)); clear HPL; have HPL := HPLn; clear HPLn; replace HW10 : Hid (Away B col R g P x10 ∧ Away B' col' R' g' P' x10) := Lib.hid ⟨HW10.out, .inl (Nat.lt_of_lt_of_le HA10.out.1.1 hB0)⟩
      clear hp0 hpa0 hB0; replace HB9 := Lib.hid (thn HB9.out hb); replace HA10 := hbl HA10 hb; refine hK2.out _ _ (s3b hHeld hb) (fun hHeld2 => ?_); clear hb; clear hK2 K2 hHeld; have hHeld := hHeld2; clear hHeld2
      try simp only [Act.put, List.setIfInBounds_toArray, List.set_cons_zero, List.set_cons_succ]
      revert hHeld; revert HB9; revert HA10; revert HPL; revert HW10; revert x10; revert B; revert lo; revert g; revert col; revert M; revert R; revert P; revert pg; revert pc; revert ws; revert B'; revert lo'; revert g'; revert col'; revert M'; revert R'; revert P'; revert pg'; revert pc'; revert ws'; revert u2; exact hS2_a.out
    · obtain ⟨x8, u2, hx8, hw9, hz9, hb⟩ := pz_next u
      rw [hw9]
      try rw [hx8]
      clear hw9; have HA8n := Lib.hid (And.intro hz9 (show v3.heap.size ≤ x8 by have := HB9.out.size; omega))
      have hx8_10 : x8 ≠ x10 := by have h1 := HA10.out.1.1; omega
      have HW8 : Hid (Away B col R g P x8) := Lib.hid (HPL.out.1.fresh (Nat.le_of_eq hx8)); clear hx8 hz9; replace HB9 := Lib.hid (thn HB9.out hb); replace HA10 := hbl HA10 hb; replace HPL := Lib.hid (And.intro (HPL.out.1.later hb) HPL.out.2); have HA8 := HA8n; clear HA8n; refine hK2.out _ _ (s3b hHeld hb) (fun hHeld2 => ?_); clear hb; clear hK2 K2 hHeld; have hHeld := hHeld2; clear hHeld2
      try simp only [Act.put, List.setIfInBounds_toArray, List.set_cons_zero, List.set_cons_succ]
      revert hHeld; revert HB9; revert HA8; revert HA10; revert hx8_10; revert HPL; revert HW8; revert HW10; revert x8; revert x10; revert B; revert lo; revert g; revert col; revert M; revert R; revert P; revert pg; revert pc; revert ws; revert u2; exact hS1_8a.out
    · obtain ⟨x9, u2, hx9, hw9, hz9, hb⟩ := pz_next u
      rw [hw9]
      try rw [hx9]
      clear hw9; have HA9n := Lib.hid (And.intro hz9 (show v3.heap.size ≤ x9 by have := HB9.out.size; omega))
      have hx9_10 : x9 ≠ x10 := by have h1 := HA10.out.1.1; omega
      have HW9 : Hid (Away B col R g P x9) := Lib.hid (HPL.out.1.fresh (Nat.le_of_eq hx9)); clear hx9 hz9; replace HB9 := Lib.hid (thn HB9.out hb); replace HA10 := hbl HA10 hb; replace HPL := Lib.hid (And.intro (HPL.out.1.later hb) HPL.out.2); have HA9 := HA9n; clear HA9n; refine hK2.out _ _ (s3b hHeld hb) (fun hHeld2 => ?_); clear hb; clear hK2 K2 hHeld; have hHeld := hHeld2; clear hHeld2
      try simp only [Act.put, List.setIfInBounds_toArray, List.set_cons_zero, List.set_cons_succ]
      revert hHeld; revert HB9; revert HA9; revert HA10; revert hx9_10; revert HPL; revert HW9; revert HW10; revert x9; revert x10; revert B; revert lo; revert g; revert col; revert M; revert R; revert P; revert pg; revert pc; revert ws; revert u2; exact hS1_9a.out
    · obtain ⟨x11, u2, hx11, hw9, hz9, hb⟩ := cz_next u
      rw [hw9]
      try rw [hx11]
      clear hw9; have HA11n := Lib.hid (And.intro hz9 (show v3.heap.size ≤ x11 by have := HB9.out.size; omega))
      have hx10_11 : x10 ≠ x11 := by have h1 := HA10.out.1.1; omega
      have HW11 : Hid (Away B col R g P x11) := Lib.hid (HPL.out.1.fresh (Nat.le_of_eq hx11)); clear hx11 hz9; replace HB9 := Lib.hid (thn HB9.out hb); replace HA10 := hbl HA10 hb; replace HPL := Lib.hid (And.intro (HPL.out.1.later hb) HPL.out.2); have HA11 := HA11n; clear HA11n; refine hK2.out _ _ (s3b hHeld hb) (fun hHeld2 => ?_); clear hb; clear hK2 K2 hHeld; have hHeld := hHeld2; clear hHeld2
      try simp only [Act.put, List.setIfInBounds_toArray, List.set_cons_zero, List.set_cons_succ]
      revert hHeld; revert HB9; revert HA10; revert HA11; revert hx10_11; revert HPL; revert HW10; revert HW11; revert x10; revert x11; revert B; revert lo; revert g; revert col; revert M; revert R; revert P; revert pg; revert pc; revert ws; revert u2; exact hS1_ab.out
  · intro u ws pc pg P R M col g lo B x9 HW9 HPL HA9 HB9 hHeld
    refine wpAnyH_ready (rs := [3, 8, 10, 11]) (by kernel_rfl) (by simp) ?_; refine AllReadyH.cons rfl (fun K2 hK2 => ?_) (AllReadyH.cons rfl (fun K2 hK2 => ?_) (AllReadyH.cons rfl (fun K2 hK2 => ?_) (AllReadyH.cons rfl (fun K2 hK2 => ?_) AllReadyH.nil)))
    all_goals go_simp
    · with_reducible refine Calls.mono (w37made sb sl _ HSB.out.1 HSB.out.2.1 HSB.out.2.2.1 HSB.out.2.2.2 (T3.out.later HB9.out)) ?_
      rintro e u2 ⟨B', lo', g', col', M', R', P', pg', pc', ws', rfl, hp0, hpa0, hB0, hb⟩; have HPLn : Hid (TWO v3.heap.size B lo g col M R P pg pc ws B' lo' g' col' M' R' P' pg' pc' ws' u2 s37b s37b ∧ (PaintIs sb sl ws ∧ PaintIs sb sl ws')) := Lib.hid (And.intro (TWO.mk' HPL.out.1 hb hp0 hB0 HPL.out.2.2 HB9.out.size) (And.intro HPL.out.2.1 hpa0)); clear HPL; have HPL := HPLn; clear HPLn; replace HW9 : Hid (Away B col R g P x9 ∧ Away B' col' R' g' P' x9) := Lib.hid ⟨HW9.out, .inl (Nat.lt_of_lt_of_le HA9.out.1.1 hB0)⟩
      clear hp0 hpa0 hB0; replace HB9 := Lib.hid (thn HB9.out hb); replace HA9 := hpl HA9 hb; refine hK2.out _ _ (s3b hHeld hb) (fun hHeld2 => ?_); clear hb; clear hK2 K2 hHeld; have hHeld := hHeld2; clear hHeld2
      try simp only [Act.put, List.setIfInBounds_toArray, List.set_cons_zero, List.set_cons_succ]
      revert hHeld; revert HB9; revert HA9; revert HPL; revert HW9; revert x9; revert B; revert lo; revert g; revert col; revert M; revert R; revert P; revert pg; revert pc; revert ws; revert B'; revert lo'; revert g'; revert col'; revert M'; revert R'; revert P'; revert pg'; revert pc'; revert ws'; revert u2; exact hS2_9.out
    · obtain ⟨x8, u2, hx8, hw9, hz9, hb⟩ := pz_next u
      rw [hw9]
      try rw [hx8]
      clear hw9; have HA8n := Lib.hid (And.intro hz9 (show v3.heap.size ≤ x8 by have := HB9.out.size; omega))
      have hx8_9 : x8 ≠ x9 := by have h1 := HA9.out.1.1; omega
      have HW8 : Hid (Away B col R g P x8) := Lib.hid (HPL.out.1.fresh (Nat.le_of_eq hx8)); clear hx8 hz9; replace HB9 := Lib.hid (thn HB9.out hb); replace HA9 := hpl HA9 hb; replace HPL := Lib.hid (And.intro (HPL.out.1.later hb) HPL.out.2); have HA8 := HA8n; clear HA8n; refine hK2.out _ _ (s3b hHeld hb) (fun hHeld2 => ?_); clear hb; clear hK2 K2 hHeld; have hHeld := hHeld2; clear hHeld2
      try simp only [Act.put, List.setIfInBounds_toArray, List.set_cons_zero, List.set_cons_succ]
      revert hHeld; revert HB9; revert HA8; revert HA9; revert hx8_9; revert HPL; revert HW8; revert HW9; revert x8; revert x9; revert B; revert lo; revert g; revert col; revert M; revert R; revert P; revert pg; revert pc; revert ws; revert u2; exact hS1_89.out
    · obtain ⟨x10, u2, hx10, hw9, hz9, hb⟩ := cz_next u
      rw [hw9]
      try rw [hx10]
      clear hw9; have HA10n := Lib.hid (And.intro hz9 (show v3.heap.size ≤ x10 by have := HB9.out.size; omega))
      have hx9_10 : x9 ≠ x10 := by have h1 := HA9.out.1.1; omega
      have HW10 : Hid (Away B col R g P x10) := Lib.hid (HPL.out.1.fresh (Nat.le_of_eq hx10)); clear hx10 hz9; replace HB9 := Lib.hid (thn HB9.out hb); replace HA9 := hpl HA9 hb; replace HPL := Lib.hid (And.intro (HPL.out.1.later hb) HPL.out.2); have HA10 := HA10n; clear HA10n; refine hK2.out _ _ (s3b hHeld hb) (fun hHeld2 => ?_); clear hb; clear hK2 K2 hHeld; have hHeld := hHeld2; clear hHeld2
      try simp only [Act.put, List.setIfInBounds_toArray, List.set_cons_zero, List.set_cons_succ]
      revert hHeld; revert HB9; revert HA9; revert HA10; revert hx9_10; revert HPL; revert HW9; revert HW10; revert x9; revert x10; revert B; revert lo; revert g; revert col; revert M; revert R; revert P; revert pg; revert pc; revert ws; revert u2; exact hS1_9a.out
    · obtain ⟨x11, u2, hx11, hw9, hz9, hb⟩ := cz_next u
      rw [hw9]
      try rw [hx11]
      clear hw9; have HA11n := Lib.hid (And.intro hz9 (show v3.heap.size ≤ x11 by have := HB9.out.size; omega))
      have hx9_11 : x9 ≠ x11 := by have h1 := HA9.out.1.1; omega
      have HW11 : Hid (Away B col R g P x11) := Lib.hid (HPL.out.1.fresh (Nat.le_of_eq hx11)); clear hx11 hz9; replace HB9 := Lib.hid (thn HB9.out hb); replace HA9 := hpl HA9 hb; replace HPL := Lib.hid (And.intro (HPL.out.1.later hb) HPL.out.2); have HA11 := HA11n; clear HA11n; refine hK2.out _ _ (s3b hHeld hb) (fun hHeld2 => ?_); clear hb; clear hK2 K2 hHeld; have hHeld := hHeld2; clear hHeld2
      try simp only [Act.put, List.setIfInBounds_toArray, List.set_cons_zero, List.set_cons_succ]
      revert hHeld; revert HB9; revert HA9; revert HA11; revert hx9_11; revert HPL; revert HW9; revert HW11; revert x9; revert x11; revert B; revert lo; revert g; revert col; revert M; revert R; revert P; revert pg; revert pc; revert ws; revert u2; exact hS1_9b.out
  · intro u ws pc pg P R M col g lo B x8 HW8 HPL HA8 HB9 hHeld
    refine wpAnyH_ready (rs := [3, 9, 10, 11]) (by kernel_rfl) (by simp) ?_; refine AllReadyH.cons rfl (fun K2 hK2 => ?_) (AllReadyH.cons rfl (fun K2 hK2 => ?_) (AllReadyH.cons rfl (fun K2 hK2 => ?_) (AllReadyH.cons rfl (fun K2 hK2 => ?_) AllReadyH.nil)))
    all_goals go_simp
    · with_reducible refine Calls.mono (w37made sb sl _ HSB.out.1 HSB.out.2.1 HSB.out.2.2.1 HSB.out.2.2.2 (T3.out.later HB9.out)) ?_
      rintro e u2 ⟨B', lo', g', col', M', R', P', pg', pc', ws', rfl, hp0, hpa0, hB0, hb⟩; have HPLn : Hid (TWO v3.heap.size B lo g col M R P pg pc ws B' lo' g' col' M' R' P' pg' pc' ws' u2 s37b s37b ∧ (PaintIs sb sl ws ∧ PaintIs sb sl ws')) := Lib.hid (And.intro (TWO.mk' HPL.out.1 hb hp0 hB0 HPL.out.2.2 HB9.out.size) (And.intro HPL.out.2.1 hpa0)); clear HPL; have HPL := HPLn; clear HPLn; replace HW8 : Hid (Away B col R g P x8 ∧ Away B' col' R' g' P' x8) := Lib.hid ⟨HW8.out, .inl (Nat.lt_of_lt_of_le HA8.out.1.1 hB0)⟩
      clear hp0 hpa0 hB0; replace HB9 := Lib.hid (thn HB9.out hb); replace HA8 := hpl HA8 hb; refine hK2.out _ _ (s3b hHeld hb) (fun hHeld2 => ?_); clear hb; clear hK2 K2 hHeld; have hHeld := hHeld2; clear hHeld2
      try simp only [Act.put, List.setIfInBounds_toArray, List.set_cons_zero, List.set_cons_succ]
      revert hHeld; revert HB9; revert HA8; revert HPL; revert HW8; revert x8; revert B; revert lo; revert g; revert col; revert M; revert R; revert P; revert pg; revert pc; revert ws; revert B'; revert lo'; revert g'; revert col'; revert M'; revert R'; revert P'; revert pg'; revert pc'; revert ws'; revert u2; exact hS2_8.out
    · obtain ⟨x9, u2, hx9, hw9, hz9, hb⟩ := pz_next u
      rw [hw9]
      try rw [hx9]
      clear hw9; have HA9n := Lib.hid (And.intro hz9 (show v3.heap.size ≤ x9 by have := HB9.out.size; omega))
      have hx8_9 : x8 ≠ x9 := by have h1 := HA8.out.1.1; omega
      have HW9 : Hid (Away B col R g P x9) := Lib.hid (HPL.out.1.fresh (Nat.le_of_eq hx9)); clear hx9 hz9; replace HB9 := Lib.hid (thn HB9.out hb); replace HA8 := hpl HA8 hb; replace HPL := Lib.hid (And.intro (HPL.out.1.later hb) HPL.out.2); have HA9 := HA9n; clear HA9n; refine hK2.out _ _ (s3b hHeld hb) (fun hHeld2 => ?_); clear hb; clear hK2 K2 hHeld; have hHeld := hHeld2; clear hHeld2
      try simp only [Act.put, List.setIfInBounds_toArray, List.set_cons_zero, List.set_cons_succ]
      revert hHeld; revert HB9; revert HA8; revert HA9; revert hx8_9; revert HPL; revert HW8; revert HW9; revert x8; revert x9; revert B; revert lo; revert g; revert col; revert M; revert R; revert P; revert pg; revert pc; revert ws; revert u2; exact hS1_89.out
    · obtain ⟨x10, u2, hx10, hw9, hz9, hb⟩ := cz_next u
      rw [hw9]
      try rw [hx10]
      clear hw9; have HA10n := Lib.hid (And.intro hz9 (show v3.heap.size ≤ x10 by have := HB9.out.size; omega))
      have hx8_10 : x8 ≠ x10 := by have h1 := HA8.out.1.1; omega
      have HW10 : Hid (Away B col R g P x10) := Lib.hid (HPL.out.1.fresh (Nat.le_of_eq hx10)); clear hx10 hz9; replace HB9 := Lib.hid (thn HB9.out hb); replace HA8 := hpl HA8 hb; replace HPL := Lib.hid (And.intro (HPL.out.1.later hb) HPL.out.2); have HA10 := HA10n; clear HA10n; refine hK2.out _ _ (s3b hHeld hb) (fun hHeld2 => ?_); clear hb; clear hK2 K2 hHeld; have hHeld := hHeld2; clear hHeld2
      try simp only [Act.put, List.setIfInBounds_toArray, List.set_cons_zero, List.set_cons_succ]
      revert hHeld; revert HB9; revert HA8; revert HA10; revert hx8_10; revert HPL; revert HW8; revert HW10; revert x8; revert x10; revert B; revert lo; revert g; revert col; revert M; revert R; revert P; revert pg; revert pc; revert ws; revert u2; exact hS1_8a.out
    · obtain ⟨x11, u2, hx11, hw9, hz9, hb⟩ := cz_next u
      rw [hw9]
      try rw [hx11]
      clear hw9; have HA11n := Lib.hid (And.intro hz9 (show v3.heap.size ≤ x11 by have := HB9.out.size; omega))
      have hx8_11 : x8 ≠ x11 := by have h1 := HA8.out.1.1; omega
      have HW11 : Hid (Away B col R g P x11) := Lib.hid (HPL.out.1.fresh (Nat.le_of_eq hx11)); clear hx11 hz9; replace HB9 := Lib.hid (thn HB9.out hb); replace HA8 := hpl HA8 hb; replace HPL := Lib.hid (And.intro (HPL.out.1.later hb) HPL.out.2); have HA11 := HA11n; clear HA11n; refine hK2.out _ _ (s3b hHeld hb) (fun hHeld2 => ?_); clear hb; clear hK2 K2 hHeld; have hHeld := hHeld2; clear hHeld2
      try simp only [Act.put, List.setIfInBounds_toArray, List.set_cons_zero, List.set_cons_succ]
      revert hHeld; revert HB9; revert HA8; revert HA11; revert hx8_11; revert HPL; revert HW8; revert HW11; revert x8; revert x11; revert B; revert lo; revert g; revert col; revert M; revert R; revert P; revert pg; revert pc; revert ws; revert u2; exact hS1_8b.out
  · intro u ws' pc' pg' P' R' M' col' g' lo' B' ws pc pg P R M col g lo B HPL HB9 hHeld
    refine wpAnyH_ready (rs := [5, 8, 9, 10, 11]) (by kernel_rfl) (by simp) ?_; refine AllReadyH.cons rfl (fun K2 hK2 => ?_) (AllReadyH.cons rfl (fun K2 hK2 => ?_) (AllReadyH.cons rfl (fun K2 hK2 => ?_) (AllReadyH.cons rfl (fun K2 hK2 => ?_) (AllReadyH.cons rfl (fun K2 hK2 => ?_) AllReadyH.nil))))
    all_goals go_simp
    · with_reducible refine Calls.mono (few37 b l c p t v _) ?_
      rintro e u2 ⟨b1, l1, c1, p1, t1, rfl, hq1, hb⟩; have HQ1 : Hid (FB37 b1 l1 c1 p1 t1) := Lib.hid hq1; clear hq1; replace HB9 := Lib.hid (thn HB9.out hb); replace HPL := Lib.hid (And.intro (HPL.out.1.later hb) HPL.out.2); refine hK2.out _ _ (s3b hHeld hb) (fun hHeld2 => ?_); clear hb; clear hK2 K2 hHeld; have hHeld := hHeld2; clear hHeld2
      try simp only [Act.put, List.setIfInBounds_toArray, List.set_cons_zero, List.set_cons_succ]
      revert hHeld; revert HB9; revert HPL; revert HQ1; revert B; revert lo; revert g; revert col; revert M; revert R; revert P; revert pg; revert pc; revert ws; revert B'; revert lo'; revert g'; revert col'; revert M'; revert R'; revert P'; revert pg'; revert pc'; revert ws'; revert b1; revert l1; revert c1; revert p1; revert t1; revert u2; exact hS3_.out
    · obtain ⟨x8, u2, hx8, hw9, hz9, hb⟩ := pz_next u
      rw [hw9]
      try rw [hx8]
      clear hw9; have HA8n := Lib.hid (And.intro hz9 (show v3.heap.size ≤ x8 by have := HB9.out.size; omega)); have HW8 := HPL.out.1.fr (Nat.le_of_eq hx8); clear hx8 hz9; replace HB9 := Lib.hid (thn HB9.out hb); replace HPL := Lib.hid (And.intro (HPL.out.1.later hb) HPL.out.2); have HA8 := HA8n; clear HA8n; refine hK2.out _ _ (s3b hHeld hb) (fun hHeld2 => ?_); clear hb; clear hK2 K2 hHeld; have hHeld := hHeld2
      clear hHeld2
      try simp only [Act.put, List.setIfInBounds_toArray, List.set_cons_zero, List.set_cons_succ]
      revert hHeld; revert HB9; revert HA8; revert HPL; revert HW8; revert x8; revert B; revert lo; revert g; revert col; revert M; revert R; revert P; revert pg; revert pc; revert ws; revert B'; revert lo'; revert g'; revert col'; revert M'; revert R'; revert P'; revert pg'; revert pc'; revert ws'; revert u2; exact hS2_8.out
    · obtain ⟨x9, u2, hx9, hw9, hz9, hb⟩ := pz_next u
      rw [hw9]
      try rw [hx9]
      clear hw9; have HA9n := Lib.hid (And.intro hz9 (show v3.heap.size ≤ x9 by have := HB9.out.size; omega)); have HW9 := HPL.out.1.fr (Nat.le_of_eq hx9); clear hx9 hz9; replace HB9 := Lib.hid (thn HB9.out hb); replace HPL := Lib.hid (And.intro (HPL.out.1.later hb) HPL.out.2); have HA9 := HA9n; clear HA9n; refine hK2.out _ _ (s3b hHeld hb) (fun hHeld2 => ?_); clear hb; clear hK2 K2 hHeld; have hHeld := hHeld2
      clear hHeld2
      try simp only [Act.put, List.setIfInBounds_toArray, List.set_cons_zero, List.set_cons_succ]
      revert hHeld; revert HB9; revert HA9; revert HPL; revert HW9; revert x9; revert B; revert lo; revert g; revert col; revert M; revert R; revert P; revert pg; revert pc; revert ws; revert B'; revert lo'; revert g'; revert col'; revert M'; revert R'; revert P'; revert pg'; revert pc'; revert ws'; revert u2; exact hS2_9.out
    · obtain ⟨x10, u2, hx10, hw9, hz9, hb⟩ := cz_next u
      rw [hw9]
      try rw [hx10]
      clear hw9; have HA10n := Lib.hid (And.intro hz9 (show v3.heap.size ≤ x10 by have := HB9.out.size; omega)); have HW10 := HPL.out.1.fr (Nat.le_of_eq hx10); clear hx10 hz9; replace HB9 := Lib.hid (thn HB9.out hb); replace HPL := Lib.hid (And.intro (HPL.out.1.later hb) HPL.out.2); have HA10 := HA10n; clear HA10n; refine hK2.out _ _ (s3b hHeld hb) (fun hHeld2 => ?_); clear hb; clear hK2 K2 hHeld; have hHeld := hHeld2
      clear hHeld2
      try simp only [Act.put, List.setIfInBounds_toArray, List.set_cons_zero, List.set_cons_succ]
      revert hHeld; revert HB9; revert HA10; revert HPL; revert HW10; revert x10; revert B; revert lo; revert g; revert col; revert M; revert R; revert P; revert pg; revert pc; revert ws; revert B'; revert lo'; revert g'; revert col'; revert M'; revert R'; revert P'; revert pg'; revert pc'; revert ws'; revert u2; exact hS2_a.out
    · obtain ⟨x11, u2, hx11, hw9, hz9, hb⟩ := cz_next u
      rw [hw9]
      try rw [hx11]
      clear hw9; have HA11n := Lib.hid (And.intro hz9 (show v3.heap.size ≤ x11 by have := HB9.out.size; omega)); have HW11 := HPL.out.1.fr (Nat.le_of_eq hx11); clear hx11 hz9; replace HB9 := Lib.hid (thn HB9.out hb); replace HPL := Lib.hid (And.intro (HPL.out.1.later hb) HPL.out.2); have HA11 := HA11n; clear HA11n; refine hK2.out _ _ (s3b hHeld hb) (fun hHeld2 => ?_); clear hb; clear hK2 K2 hHeld; have hHeld := hHeld2
      clear hHeld2
      try simp only [Act.put, List.setIfInBounds_toArray, List.set_cons_zero, List.set_cons_succ]
      revert hHeld; revert HB9; revert HA11; revert HPL; revert HW11; revert x11; revert B; revert lo; revert g; revert col; revert M; revert R; revert P; revert pg; revert pc; revert ws; revert B'; revert lo'; revert g'; revert col'; revert M'; revert R'; revert P'; revert pg'; revert pc'; revert ws'; revert u2; exact hS2_b.out
  · intro u x11 x10 x9 hx10_11 hx9_11 hx9_10 HA11 HA10 HA9 HB9 hHeld
    refine wpAnyH_ready (rs := [1, 8]) (by kernel_rfl) (by simp) ?_; refine AllReadyH.cons rfl (fun K2 hK2 => ?_) (AllReadyH.cons rfl (fun K2 hK2 => ?_) AllReadyH.nil)
    all_goals go_simp
    · with_reducible refine Calls.mono (w37made sb sl _ HSB.out.1 HSB.out.2.1 HSB.out.2.2.1 HSB.out.2.2.2 (T3.out.later HB9.out)) ?_
      rintro e u2 ⟨B, lo, g, col, M, R, P, pg, pc, ws, rfl, hp0, hpa0, hB0, hb⟩; have HPL := Lib.hid (And.intro hp0 (And.intro hpa0 (show v3.heap.size ≤ B by have := HB9.out.size; omega))); have HW9 : Hid (Away B col R g P x9) := Lib.hid (.inl (Nat.lt_of_lt_of_le HA9.out.1.1 hB0)); have HW10 : Hid (Away B col R g P x10) := Lib.hid (.inl (Nat.lt_of_lt_of_le HA10.out.1.1 hB0)); have HW11 : Hid (Away B col R g P x11) := Lib.hid (.inl (Nat.lt_of_lt_of_le HA11.out.1.1 hB0))
      clear hp0 hpa0 hB0; replace HB9 := Lib.hid (thn HB9.out hb); replace HA9 := hpl HA9 hb; replace HA10 := hbl HA10 hb; replace HA11 := hbl HA11 hb; refine hK2.out _ _ (s3b hHeld hb) (fun hHeld2 => ?_); clear hb; clear hK2 K2 hHeld; have hHeld := hHeld2; clear hHeld2
      try simp only [Act.put, List.setIfInBounds_toArray, List.set_cons_zero, List.set_cons_succ]
      revert hHeld; revert HB9; revert HA9; revert HA10; revert HA11; revert hx9_10; revert hx9_11; revert hx10_11; revert HPL; revert HW9; revert HW10; revert HW11; revert x9; revert x10; revert x11; revert B; revert lo; revert g; revert col; revert M; revert R; revert P; revert pg; revert pc; revert ws; revert u2; exact hS1_9ab.out
    · obtain ⟨x8, u2, hx8, hw9, hz9, hb⟩ := pz_next u
      rw [hw9]
      try rw [hx8]
      clear hw9; have HA8n := Lib.hid (And.intro hz9 (show v3.heap.size ≤ x8 by have := HB9.out.size; omega))
      have hx8_9 : x8 ≠ x9 := by have h1 := HA9.out.1.1; omega
      have hx8_10 : x8 ≠ x10 := by have h1 := HA10.out.1.1; omega
      have hx8_11 : x8 ≠ x11 := by have h1 := HA11.out.1.1; omega
      clear hx8 hz9; replace HB9 := Lib.hid (thn HB9.out hb); replace HA9 := hpl HA9 hb; replace HA10 := hbl HA10 hb; replace HA11 := hbl HA11 hb; have HA8 := HA8n; clear HA8n; refine hK2.out _ _ (s3b hHeld hb) (fun hHeld2 => ?_); clear hb; clear hK2 K2 hHeld; have hHeld := hHeld2; clear hHeld2
      try simp only [Act.put, List.setIfInBounds_toArray, List.set_cons_zero, List.set_cons_succ]
      revert hHeld; revert HB9; revert HA8; revert HA9; revert HA10; revert HA11; revert hx8_9; revert hx8_10; revert hx8_11; revert hx9_10; revert hx9_11; revert hx10_11; revert x8; revert x9; revert x10; revert x11; revert u2; exact hS0_89ab.out
  · intro u x11 x10 x8 hx10_11 hx8_11 hx8_10 HA11 HA10 HA8 HB9 hHeld
    refine wpAnyH_ready (rs := [1, 9]) (by kernel_rfl) (by simp) ?_; refine AllReadyH.cons rfl (fun K2 hK2 => ?_) (AllReadyH.cons rfl (fun K2 hK2 => ?_) AllReadyH.nil)
    all_goals go_simp
    · with_reducible refine Calls.mono (w37made sb sl _ HSB.out.1 HSB.out.2.1 HSB.out.2.2.1 HSB.out.2.2.2 (T3.out.later HB9.out)) ?_
      rintro e u2 ⟨B, lo, g, col, M, R, P, pg, pc, ws, rfl, hp0, hpa0, hB0, hb⟩; have HPL := Lib.hid (And.intro hp0 (And.intro hpa0 (show v3.heap.size ≤ B by have := HB9.out.size; omega))); have HW8 : Hid (Away B col R g P x8) := Lib.hid (.inl (Nat.lt_of_lt_of_le HA8.out.1.1 hB0)); have HW10 : Hid (Away B col R g P x10) := Lib.hid (.inl (Nat.lt_of_lt_of_le HA10.out.1.1 hB0)); have HW11 : Hid (Away B col R g P x11) := Lib.hid (.inl (Nat.lt_of_lt_of_le HA11.out.1.1 hB0))
      clear hp0 hpa0 hB0; replace HB9 := Lib.hid (thn HB9.out hb); replace HA8 := hpl HA8 hb; replace HA10 := hbl HA10 hb; replace HA11 := hbl HA11 hb; refine hK2.out _ _ (s3b hHeld hb) (fun hHeld2 => ?_); clear hb; clear hK2 K2 hHeld; have hHeld := hHeld2; clear hHeld2
      try simp only [Act.put, List.setIfInBounds_toArray, List.set_cons_zero, List.set_cons_succ]
      revert hHeld; revert HB9; revert HA8; revert HA10; revert HA11; revert hx8_10; revert hx8_11; revert hx10_11; revert HPL; revert HW8; revert HW10; revert HW11; revert x8; revert x10; revert x11; revert B; revert lo; revert g; revert col; revert M; revert R; revert P; revert pg; revert pc; revert ws; revert u2; exact hS1_8ab.out
    · obtain ⟨x9, u2, hx9, hw9, hz9, hb⟩ := pz_next u
      rw [hw9]
      try rw [hx9]
      clear hw9; have HA9n := Lib.hid (And.intro hz9 (show v3.heap.size ≤ x9 by have := HB9.out.size; omega))
      have hx8_9 : x8 ≠ x9 := by have h1 := HA8.out.1.1; omega
      have hx9_10 : x9 ≠ x10 := by have h1 := HA10.out.1.1; omega
      have hx9_11 : x9 ≠ x11 := by have h1 := HA11.out.1.1; omega
      clear hx9 hz9; replace HB9 := Lib.hid (thn HB9.out hb); replace HA8 := hpl HA8 hb; replace HA10 := hbl HA10 hb; replace HA11 := hbl HA11 hb; have HA9 := HA9n; clear HA9n; refine hK2.out _ _ (s3b hHeld hb) (fun hHeld2 => ?_); clear hb; clear hK2 K2 hHeld; have hHeld := hHeld2; clear hHeld2
      try simp only [Act.put, List.setIfInBounds_toArray, List.set_cons_zero, List.set_cons_succ]
      revert hHeld; revert HB9; revert HA8; revert HA9; revert HA10; revert HA11; revert hx8_9; revert hx8_10; revert hx8_11; revert hx9_10; revert hx9_11; revert hx10_11; revert x8; revert x9; revert x10; revert x11; revert u2; exact hS0_89ab.out
  · intro u x11 x9 x8 hx9_11 hx8_11 hx8_9 HA11 HA9 HA8 HB9 hHeld
    refine wpAnyH_ready (rs := [1, 10]) (by kernel_rfl) (by simp) ?_; refine AllReadyH.cons rfl (fun K2 hK2 => ?_) (AllReadyH.cons rfl (fun K2 hK2 => ?_) AllReadyH.nil)
    all_goals go_simp
    · with_reducible refine Calls.mono (w37made sb sl _ HSB.out.1 HSB.out.2.1 HSB.out.2.2.1 HSB.out.2.2.2 (T3.out.later HB9.out)) ?_
      rintro e u2 ⟨B, lo, g, col, M, R, P, pg, pc, ws, rfl, hp0, hpa0, hB0, hb⟩; have HPL := Lib.hid (And.intro hp0 (And.intro hpa0 (show v3.heap.size ≤ B by have := HB9.out.size; omega))); have HW8 : Hid (Away B col R g P x8) := Lib.hid (.inl (Nat.lt_of_lt_of_le HA8.out.1.1 hB0)); have HW9 : Hid (Away B col R g P x9) := Lib.hid (.inl (Nat.lt_of_lt_of_le HA9.out.1.1 hB0)); have HW11 : Hid (Away B col R g P x11) := Lib.hid (.inl (Nat.lt_of_lt_of_le HA11.out.1.1 hB0))
      clear hp0 hpa0 hB0; replace HB9 := Lib.hid (thn HB9.out hb); replace HA8 := hpl HA8 hb; replace HA9 := hpl HA9 hb; replace HA11 := hbl HA11 hb; refine hK2.out _ _ (s3b hHeld hb) (fun hHeld2 => ?_); clear hb; clear hK2 K2 hHeld; have hHeld := hHeld2; clear hHeld2
      try simp only [Act.put, List.setIfInBounds_toArray, List.set_cons_zero, List.set_cons_succ]
      revert hHeld; revert HB9; revert HA8; revert HA9; revert HA11; revert hx8_9; revert hx8_11; revert hx9_11; revert HPL; revert HW8; revert HW9; revert HW11; revert x8; revert x9; revert x11; revert B; revert lo; revert g; revert col; revert M; revert R; revert P; revert pg; revert pc; revert ws; revert u2; exact hS1_89b.out
    · obtain ⟨x10, u2, hx10, hw9, hz9, hb⟩ := cz_next u
      rw [hw9]
      try rw [hx10]
      clear hw9; have HA10n := Lib.hid (And.intro hz9 (show v3.heap.size ≤ x10 by have := HB9.out.size; omega))
      have hx8_10 : x8 ≠ x10 := by have h1 := HA8.out.1.1; omega
      have hx9_10 : x9 ≠ x10 := by have h1 := HA9.out.1.1; omega
      have hx10_11 : x10 ≠ x11 := by have h1 := HA11.out.1.1; omega
      clear hx10 hz9; replace HB9 := Lib.hid (thn HB9.out hb); replace HA8 := hpl HA8 hb; replace HA9 := hpl HA9 hb; replace HA11 := hbl HA11 hb; have HA10 := HA10n; clear HA10n; refine hK2.out _ _ (s3b hHeld hb) (fun hHeld2 => ?_); clear hb; clear hK2 K2 hHeld; have hHeld := hHeld2; clear hHeld2
      try simp only [Act.put, List.setIfInBounds_toArray, List.set_cons_zero, List.set_cons_succ]
      revert hHeld; revert HB9; revert HA8; revert HA9; revert HA10; revert HA11; revert hx8_9; revert hx8_10; revert hx8_11; revert hx9_10; revert hx9_11; revert hx10_11; revert x8; revert x9; revert x10; revert x11; revert u2; exact hS0_89ab.out
  · intro u x10 x9 x8 hx9_10 hx8_10 hx8_9 HA10 HA9 HA8 HB9 hHeld
    refine wpAnyH_ready (rs := [1, 11]) (by kernel_rfl) (by simp) ?_; refine AllReadyH.cons rfl (fun K2 hK2 => ?_) (AllReadyH.cons rfl (fun K2 hK2 => ?_) AllReadyH.nil)
    all_goals go_simp
    · with_reducible refine Calls.mono (w37made sb sl _ HSB.out.1 HSB.out.2.1 HSB.out.2.2.1 HSB.out.2.2.2 (T3.out.later HB9.out)) ?_
      rintro e u2 ⟨B, lo, g, col, M, R, P, pg, pc, ws, rfl, hp0, hpa0, hB0, hb⟩; have HPL := Lib.hid (And.intro hp0 (And.intro hpa0 (show v3.heap.size ≤ B by have := HB9.out.size; omega))); have HW8 : Hid (Away B col R g P x8) := Lib.hid (.inl (Nat.lt_of_lt_of_le HA8.out.1.1 hB0)); have HW9 : Hid (Away B col R g P x9) := Lib.hid (.inl (Nat.lt_of_lt_of_le HA9.out.1.1 hB0)); have HW10 : Hid (Away B col R g P x10) := Lib.hid (.inl (Nat.lt_of_lt_of_le HA10.out.1.1 hB0))
      clear hp0 hpa0 hB0; replace HB9 := Lib.hid (thn HB9.out hb); replace HA8 := hpl HA8 hb; replace HA9 := hpl HA9 hb; replace HA10 := hbl HA10 hb; refine hK2.out _ _ (s3b hHeld hb) (fun hHeld2 => ?_); clear hb; clear hK2 K2 hHeld; have hHeld := hHeld2; clear hHeld2
      try simp only [Act.put, List.setIfInBounds_toArray, List.set_cons_zero, List.set_cons_succ]
      revert hHeld; revert HB9; revert HA8; revert HA9; revert HA10; revert hx8_9; revert hx8_10; revert hx9_10; revert HPL; revert HW8; revert HW9; revert HW10; revert x8; revert x9; revert x10; revert B; revert lo; revert g; revert col; revert M; revert R; revert P; revert pg; revert pc; revert ws; revert u2; exact hS1_89a.out
    · obtain ⟨x11, u2, hx11, hw9, hz9, hb⟩ := cz_next u
      rw [hw9]
      try rw [hx11]
      clear hw9; have HA11n := Lib.hid (And.intro hz9 (show v3.heap.size ≤ x11 by have := HB9.out.size; omega))
      have hx8_11 : x8 ≠ x11 := by have h1 := HA8.out.1.1; omega
      have hx9_11 : x9 ≠ x11 := by have h1 := HA9.out.1.1; omega
      have hx10_11 : x10 ≠ x11 := by have h1 := HA10.out.1.1; omega
      clear hx11 hz9; replace HB9 := Lib.hid (thn HB9.out hb); replace HA8 := hpl HA8 hb; replace HA9 := hpl HA9 hb; replace HA10 := hbl HA10 hb; have HA11 := HA11n; clear HA11n; refine hK2.out _ _ (s3b hHeld hb) (fun hHeld2 => ?_); clear hb; clear hK2 K2 hHeld; have hHeld := hHeld2; clear hHeld2
      try simp only [Act.put, List.setIfInBounds_toArray, List.set_cons_zero, List.set_cons_succ]
      revert hHeld; revert HB9; revert HA8; revert HA9; revert HA10; revert HA11; revert hx8_9; revert hx8_10; revert hx8_11; revert hx9_10; revert hx9_11; revert hx10_11; revert x8; revert x9; revert x10; revert x11; revert u2; exact hS0_89ab.out
  · intro u ws pc pg P R M col g lo B x11 x10 HW11 HW10 HPL hx10_11 HA11 HA10 HB9 hHeld
    refine wpAnyH_ready (rs := [3, 8, 9]) (by kernel_rfl) (by simp) ?_; refine AllReadyH.cons rfl (fun K2 hK2 => ?_) (AllReadyH.cons rfl (fun K2 hK2 => ?_) (AllReadyH.cons rfl (fun K2 hK2 => ?_) AllReadyH.nil))
    all_goals go_simp
    · with_reducible refine Calls.mono (w37made sb sl _ HSB.out.1 HSB.out.2.1 HSB.out.2.2.1 HSB.out.2.2.2 (T3.out.later HB9.out)) ?_
      rintro e u2 ⟨B', lo', g', col', M', R', P', pg', pc', ws', rfl, hp0, hpa0, hB0, hb⟩; have HPLn : Hid (TWO v3.heap.size B lo g col M R P pg pc ws B' lo' g' col' M' R' P' pg' pc' ws' u2 s37b s37b ∧ (PaintIs sb sl ws ∧ PaintIs sb sl ws')) := Lib.hid (And.intro (TWO.mk' HPL.out.1 hb hp0 hB0 HPL.out.2.2 HB9.out.size) (And.intro HPL.out.2.1 hpa0)); clear HPL; have HPL := HPLn; clear HPLn; replace HW10 : Hid (Away B col R g P x10 ∧ Away B' col' R' g' P' x10) := Lib.hid ⟨HW10.out, .inl (Nat.lt_of_lt_of_le HA10.out.1.1 hB0)⟩
      replace HW11 : Hid (Away B col R g P x11 ∧ Away B' col' R' g' P' x11) := Lib.hid ⟨HW11.out, .inl (Nat.lt_of_lt_of_le HA11.out.1.1 hB0)⟩; clear hp0 hpa0 hB0; replace HB9 := Lib.hid (thn HB9.out hb); replace HA10 := hbl HA10 hb; replace HA11 := hbl HA11 hb; refine hK2.out _ _ (s3b hHeld hb) (fun hHeld2 => ?_); clear hb; clear hK2 K2 hHeld; have hHeld := hHeld2; clear hHeld2
      try simp only [Act.put, List.setIfInBounds_toArray, List.set_cons_zero, List.set_cons_succ]
      revert hHeld; revert HB9; revert HA10; revert HA11; revert hx10_11; revert HPL; revert HW10; revert HW11; revert x10; revert x11; revert B; revert lo; revert g; revert col; revert M; revert R; revert P; revert pg; revert pc; revert ws; revert B'; revert lo'; revert g'; revert col'; revert M'; revert R'; revert P'; revert pg'; revert pc'; revert ws'; revert u2; exact hS2_ab.out
    · obtain ⟨x8, u2, hx8, hw9, hz9, hb⟩ := pz_next u
      rw [hw9]
      try rw [hx8]
      clear hw9; have HA8n := Lib.hid (And.intro hz9 (show v3.heap.size ≤ x8 by have := HB9.out.size; omega))
      have hx8_10 : x8 ≠ x10 := by have h1 := HA10.out.1.1; omega
      have hx8_11 : x8 ≠ x11 := by have h1 := HA11.out.1.1; omega
      have HW8 : Hid (Away B col R g P x8) := Lib.hid (HPL.out.1.fresh (Nat.le_of_eq hx8)); clear hx8 hz9; replace HB9 := Lib.hid (thn HB9.out hb); replace HA10 := hbl HA10 hb; replace HA11 := hbl HA11 hb; replace HPL := Lib.hid (And.intro (HPL.out.1.later hb) HPL.out.2); have HA8 := HA8n; clear HA8n; refine hK2.out _ _ (s3b hHeld hb) (fun hHeld2 => ?_); clear hb; clear hK2 K2 hHeld; have hHeld := hHeld2
      clear hHeld2
      try simp only [Act.put, List.setIfInBounds_toArray, List.set_cons_zero, List.set_cons_succ]
      revert hHeld; revert HB9; revert HA8; revert HA10; revert HA11; revert hx8_10; revert hx8_11; revert hx10_11; revert HPL; revert HW8; revert HW10; revert HW11; revert x8; revert x10; revert x11; revert B; revert lo; revert g; revert col; revert M; revert R; revert P; revert pg; revert pc; revert ws; revert u2; exact hS1_8ab.out
    · obtain ⟨x9, u2, hx9, hw9, hz9, hb⟩ := pz_next u
      rw [hw9]
      try rw [hx9]
      clear hw9; have HA9n := Lib.hid (And.intro hz9 (show v3.heap.size ≤ x9 by have := HB9.out.size; omega))
      have hx9_10 : x9 ≠ x10 := by have h1 := HA10.out.1.1; omega
      have hx9_11 : x9 ≠ x11 := by have h1 := HA11.out.1.1; omega
      have HW9 : Hid (Away B col R g P x9) := Lib.hid (HPL.out.1.fresh (Nat.le_of_eq hx9)); clear hx9 hz9; replace HB9 := Lib.hid (thn HB9.out hb); replace HA10 := hbl HA10 hb; replace HA11 := hbl HA11 hb; replace HPL := Lib.hid (And.intro (HPL.out.1.later hb) HPL.out.2); have HA9 := HA9n; clear HA9n; refine hK2.out _ _ (s3b hHeld hb) (fun hHeld2 => ?_); clear hb; clear hK2 K2 hHeld; have hHeld := hHeld2
      clear hHeld2
      try simp only [Act.put, List.setIfInBounds_toArray, List.set_cons_zero, List.set_cons_succ]
      revert hHeld; revert HB9; revert HA9; revert HA10; revert HA11; revert hx9_10; revert hx9_11; revert hx10_11; revert HPL; revert HW9; revert HW10; revert HW11; revert x9; revert x10; revert x11; revert B; revert lo; revert g; revert col; revert M; revert R; revert P; revert pg; revert pc; revert ws; revert u2; exact hS1_9ab.out
  · intro u ws pc pg P R M col g lo B x11 x9 HW11 HW9 HPL hx9_11 HA11 HA9 HB9 hHeld
    refine wpAnyH_ready (rs := [3, 8, 10]) (by kernel_rfl) (by simp) ?_; refine AllReadyH.cons rfl (fun K2 hK2 => ?_) (AllReadyH.cons rfl (fun K2 hK2 => ?_) (AllReadyH.cons rfl (fun K2 hK2 => ?_) AllReadyH.nil))
    all_goals go_simp
    · with_reducible refine Calls.mono (w37made sb sl _ HSB.out.1 HSB.out.2.1 HSB.out.2.2.1 HSB.out.2.2.2 (T3.out.later HB9.out)) ?_
      rintro e u2 ⟨B', lo', g', col', M', R', P', pg', pc', ws', rfl, hp0, hpa0, hB0, hb⟩; have HPLn : Hid (TWO v3.heap.size B lo g col M R P pg pc ws B' lo' g' col' M' R' P' pg' pc' ws' u2 s37b s37b ∧ (PaintIs sb sl ws ∧ PaintIs sb sl ws')) := Lib.hid (And.intro (TWO.mk' HPL.out.1 hb hp0 hB0 HPL.out.2.2 HB9.out.size) (And.intro HPL.out.2.1 hpa0)); clear HPL; have HPL := HPLn; clear HPLn; replace HW9 : Hid (Away B col R g P x9 ∧ Away B' col' R' g' P' x9) := Lib.hid ⟨HW9.out, .inl (Nat.lt_of_lt_of_le HA9.out.1.1 hB0)⟩
      replace HW11 : Hid (Away B col R g P x11 ∧ Away B' col' R' g' P' x11) := Lib.hid ⟨HW11.out, .inl (Nat.lt_of_lt_of_le HA11.out.1.1 hB0)⟩; clear hp0 hpa0 hB0; replace HB9 := Lib.hid (thn HB9.out hb); replace HA9 := hpl HA9 hb; replace HA11 := hbl HA11 hb; refine hK2.out _ _ (s3b hHeld hb) (fun hHeld2 => ?_); clear hb; clear hK2 K2 hHeld; have hHeld := hHeld2; clear hHeld2
      try simp only [Act.put, List.setIfInBounds_toArray, List.set_cons_zero, List.set_cons_succ]
      revert hHeld; revert HB9; revert HA9; revert HA11; revert hx9_11; revert HPL; revert HW9; revert HW11; revert x9; revert x11; revert B; revert lo; revert g; revert col; revert M; revert R; revert P; revert pg; revert pc; revert ws; revert B'; revert lo'; revert g'; revert col'; revert M'; revert R'; revert P'; revert pg'; revert pc'; revert ws'; revert u2; exact hS2_9b.out
    · obtain ⟨x8, u2, hx8, hw9, hz9, hb⟩ := pz_next u
      rw [hw9]
      try rw [hx8]
      clear hw9; have HA8n := Lib.hid (And.intro hz9 (show v3.heap.size ≤ x8 by have := HB9.out.size; omega))
      have hx8_9 : x8 ≠ x9 := by have h1 := HA9.out.1.1; omega
      have hx8_11 : x8 ≠ x11 := by have h1 := HA11.out.1.1; omega
      have HW8 : Hid (Away B col R g P x8) := Lib.hid (HPL.out.1.fresh (Nat.le_of_eq hx8)); clear hx8 hz9; replace HB9 := Lib.hid (thn HB9.out hb); replace HA9 := hpl HA9 hb; replace HA11 := hbl HA11 hb; replace HPL := Lib.hid (And.intro (HPL.out.1.later hb) HPL.out.2); have HA8 := HA8n; clear HA8n; refine hK2.out _ _ (s3b hHeld hb) (fun hHeld2 => ?_); clear hb; clear hK2 K2 hHeld; have hHeld := hHeld2; clear hHeld2
      try simp only [Act.put, List.setIfInBounds_toArray, List.set_cons_zero, List.set_cons_succ]
      revert hHeld; revert HB9; revert HA8; revert HA9; revert HA11; revert hx8_9; revert hx8_11; revert hx9_11; revert HPL; revert HW8; revert HW9; revert HW11; revert x8; revert x9; revert x11; revert B; revert lo; revert g; revert col; revert M; revert R; revert P; revert pg; revert pc; revert ws; revert u2; exact hS1_89b.out
    · obtain ⟨x10, u2, hx10, hw9, hz9, hb⟩ := cz_next u
      rw [hw9]
      try rw [hx10]
      clear hw9; have HA10n := Lib.hid (And.intro hz9 (show v3.heap.size ≤ x10 by have := HB9.out.size; omega))
      have hx9_10 : x9 ≠ x10 := by have h1 := HA9.out.1.1; omega
      have hx10_11 : x10 ≠ x11 := by have h1 := HA11.out.1.1; omega
      have HW10 : Hid (Away B col R g P x10) := Lib.hid (HPL.out.1.fresh (Nat.le_of_eq hx10)); clear hx10 hz9; replace HB9 := Lib.hid (thn HB9.out hb); replace HA9 := hpl HA9 hb; replace HA11 := hbl HA11 hb; replace HPL := Lib.hid (And.intro (HPL.out.1.later hb) HPL.out.2); have HA10 := HA10n; clear HA10n; refine hK2.out _ _ (s3b hHeld hb) (fun hHeld2 => ?_); clear hb; clear hK2 K2 hHeld; have hHeld := hHeld2
      clear hHeld2
      try simp only [Act.put, List.setIfInBounds_toArray, List.set_cons_zero, List.set_cons_succ]
      revert hHeld; revert HB9; revert HA9; revert HA10; revert HA11; revert hx9_10; revert hx9_11; revert hx10_11; revert HPL; revert HW9; revert HW10; revert HW11; revert x9; revert x10; revert x11; revert B; revert lo; revert g; revert col; revert M; revert R; revert P; revert pg; revert pc; revert ws; revert u2; exact hS1_9ab.out
  · intro u ws pc pg P R M col g lo B x10 x9 HW10 HW9 HPL hx9_10 HA10 HA9 HB9 hHeld
    refine wpAnyH_ready (rs := [3, 8, 11]) (by kernel_rfl) (by simp) ?_; refine AllReadyH.cons rfl (fun K2 hK2 => ?_) (AllReadyH.cons rfl (fun K2 hK2 => ?_) (AllReadyH.cons rfl (fun K2 hK2 => ?_) AllReadyH.nil))
    all_goals go_simp
    · with_reducible refine Calls.mono (w37made sb sl _ HSB.out.1 HSB.out.2.1 HSB.out.2.2.1 HSB.out.2.2.2 (T3.out.later HB9.out)) ?_
      rintro e u2 ⟨B', lo', g', col', M', R', P', pg', pc', ws', rfl, hp0, hpa0, hB0, hb⟩; have HPLn : Hid (TWO v3.heap.size B lo g col M R P pg pc ws B' lo' g' col' M' R' P' pg' pc' ws' u2 s37b s37b ∧ (PaintIs sb sl ws ∧ PaintIs sb sl ws')) := Lib.hid (And.intro (TWO.mk' HPL.out.1 hb hp0 hB0 HPL.out.2.2 HB9.out.size) (And.intro HPL.out.2.1 hpa0)); clear HPL; have HPL := HPLn; clear HPLn; replace HW9 : Hid (Away B col R g P x9 ∧ Away B' col' R' g' P' x9) := Lib.hid ⟨HW9.out, .inl (Nat.lt_of_lt_of_le HA9.out.1.1 hB0)⟩
      replace HW10 : Hid (Away B col R g P x10 ∧ Away B' col' R' g' P' x10) := Lib.hid ⟨HW10.out, .inl (Nat.lt_of_lt_of_le HA10.out.1.1 hB0)⟩; clear hp0 hpa0 hB0; replace HB9 := Lib.hid (thn HB9.out hb); replace HA9 := hpl HA9 hb; replace HA10 := hbl HA10 hb; refine hK2.out _ _ (s3b hHeld hb) (fun hHeld2 => ?_); clear hb; clear hK2 K2 hHeld; have hHeld := hHeld2; clear hHeld2
      try simp only [Act.put, List.setIfInBounds_toArray, List.set_cons_zero, List.set_cons_succ]
      revert hHeld; revert HB9; revert HA9; revert HA10; revert hx9_10; revert HPL; revert HW9; revert HW10; revert x9; revert x10; revert B; revert lo; revert g; revert col; revert M; revert R; revert P; revert pg; revert pc; revert ws; revert B'; revert lo'; revert g'; revert col'; revert M'; revert R'; revert P'; revert pg'; revert pc'; revert ws'; revert u2; exact hS2_9a.out
    · obtain ⟨x8, u2, hx8, hw9, hz9, hb⟩ := pz_next u
      rw [hw9]
      try rw [hx8]
      clear hw9; have HA8n := Lib.hid (And.intro hz9 (show v3.heap.size ≤ x8 by have := HB9.out.size; omega))
      have hx8_9 : x8 ≠ x9 := by have h1 := HA9.out.1.1; omega
      have hx8_10 : x8 ≠ x10 := by have h1 := HA10.out.1.1; omega
      have HW8 : Hid (Away B col R g P x8) := Lib.hid (HPL.out.1.fresh (Nat.le_of_eq hx8)); clear hx8 hz9; replace HB9 := Lib.hid (thn HB9.out hb); replace HA9 := hpl HA9 hb; replace HA10 := hbl HA10 hb; replace HPL := Lib.hid (And.intro (HPL.out.1.later hb) HPL.out.2); have HA8 := HA8n; clear HA8n; refine hK2.out _ _ (s3b hHeld hb) (fun hHeld2 => ?_); clear hb; clear hK2 K2 hHeld; have hHeld := hHeld2; clear hHeld2
      try simp only [Act.put, List.setIfInBounds_toArray, List.set_cons_zero, List.set_cons_succ]
      revert hHeld; revert HB9; revert HA8; revert HA9; revert HA10; revert hx8_9; revert hx8_10; revert hx9_10; revert HPL; revert HW8; revert HW9; revert HW10; revert x8; revert x9; revert x10; revert B; revert lo; revert g; revert col; revert M; revert R; revert P; revert pg; revert pc; revert ws; revert u2; exact hS1_89a.out
    · obtain ⟨x11, u2, hx11, hw9, hz9, hb⟩ := cz_next u
      rw [hw9]
      try rw [hx11]
      clear hw9; have HA11n := Lib.hid (And.intro hz9 (show v3.heap.size ≤ x11 by have := HB9.out.size; omega))
      have hx9_11 : x9 ≠ x11 := by have h1 := HA9.out.1.1; omega
      have hx10_11 : x10 ≠ x11 := by have h1 := HA10.out.1.1; omega
      have HW11 : Hid (Away B col R g P x11) := Lib.hid (HPL.out.1.fresh (Nat.le_of_eq hx11)); clear hx11 hz9; replace HB9 := Lib.hid (thn HB9.out hb); replace HA9 := hpl HA9 hb; replace HA10 := hbl HA10 hb; replace HPL := Lib.hid (And.intro (HPL.out.1.later hb) HPL.out.2); have HA11 := HA11n; clear HA11n; refine hK2.out _ _ (s3b hHeld hb) (fun hHeld2 => ?_); clear hb; clear hK2 K2 hHeld; have hHeld := hHeld2
      clear hHeld2
      try simp only [Act.put, List.setIfInBounds_toArray, List.set_cons_zero, List.set_cons_succ]
      revert hHeld; revert HB9; revert HA9; revert HA10; revert HA11; revert hx9_10; revert hx9_11; revert hx10_11; revert HPL; revert HW9; revert HW10; revert HW11; revert x9; revert x10; revert x11; revert B; revert lo; revert g; revert col; revert M; revert R; revert P; revert pg; revert pc; revert ws; revert u2; exact hS1_9ab.out
  · intro u ws pc pg P R M col g lo B x11 x8 HW11 HW8 HPL hx8_11 HA11 HA8 HB9 hHeld
    refine wpAnyH_ready (rs := [3, 9, 10]) (by kernel_rfl) (by simp) ?_; refine AllReadyH.cons rfl (fun K2 hK2 => ?_) (AllReadyH.cons rfl (fun K2 hK2 => ?_) (AllReadyH.cons rfl (fun K2 hK2 => ?_) AllReadyH.nil))
    all_goals go_simp
    · with_reducible refine Calls.mono (w37made sb sl _ HSB.out.1 HSB.out.2.1 HSB.out.2.2.1 HSB.out.2.2.2 (T3.out.later HB9.out)) ?_
      rintro e u2 ⟨B', lo', g', col', M', R', P', pg', pc', ws', rfl, hp0, hpa0, hB0, hb⟩; have HPLn : Hid (TWO v3.heap.size B lo g col M R P pg pc ws B' lo' g' col' M' R' P' pg' pc' ws' u2 s37b s37b ∧ (PaintIs sb sl ws ∧ PaintIs sb sl ws')) := Lib.hid (And.intro (TWO.mk' HPL.out.1 hb hp0 hB0 HPL.out.2.2 HB9.out.size) (And.intro HPL.out.2.1 hpa0)); clear HPL; have HPL := HPLn; clear HPLn; replace HW8 : Hid (Away B col R g P x8 ∧ Away B' col' R' g' P' x8) := Lib.hid ⟨HW8.out, .inl (Nat.lt_of_lt_of_le HA8.out.1.1 hB0)⟩
      replace HW11 : Hid (Away B col R g P x11 ∧ Away B' col' R' g' P' x11) := Lib.hid ⟨HW11.out, .inl (Nat.lt_of_lt_of_le HA11.out.1.1 hB0)⟩; clear hp0 hpa0 hB0; replace HB9 := Lib.hid (thn HB9.out hb); replace HA8 := hpl HA8 hb; replace HA11 := hbl HA11 hb; refine hK2.out _ _ (s3b hHeld hb) (fun hHeld2 => ?_); clear hb; clear hK2 K2 hHeld; have hHeld := hHeld2; clear hHeld2
      try simp only [Act.put, List.setIfInBounds_toArray, List.set_cons_zero, List.set_cons_succ]
      revert hHeld; revert HB9; revert HA8; revert HA11; revert hx8_11; revert HPL; revert HW8; revert HW11; revert x8; revert x11; revert B; revert lo; revert g; revert col; revert M; revert R; revert P; revert pg; revert pc; revert ws; revert B'; revert lo'; revert g'; revert col'; revert M'; revert R'; revert P'; revert pg'; revert pc'; revert ws'; revert u2; exact hS2_8b.out
    · obtain ⟨x9, u2, hx9, hw9, hz9, hb⟩ := pz_next u
      rw [hw9]
      try rw [hx9]
      clear hw9; have HA9n := Lib.hid (And.intro hz9 (show v3.heap.size ≤ x9 by have := HB9.out.size; omega))
      have hx8_9 : x8 ≠ x9 := by have h1 := HA8.out.1.1; omega
      have hx9_11 : x9 ≠ x11 := by have h1 := HA11.out.1.1; omega
      have HW9 : Hid (Away B col R g P x9) := Lib.hid (HPL.out.1.fresh (Nat.le_of_eq hx9)); clear hx9 hz9; replace HB9 := Lib.hid (thn HB9.out hb); replace HA8 := hpl HA8 hb; replace HA11 := hbl HA11 hb; replace HPL := Lib.hid (And.intro (HPL.out.1.later hb) HPL.out.2); have HA9 := HA9n; clear HA9n; refine hK2.out _ _ (s3b hHeld hb) (fun hHeld2 => ?_); clear hb; clear hK2 K2 hHeld; have hHeld := hHeld2; clear hHeld2
      try simp only [Act.put, List.setIfInBounds_toArray, List.set_cons_zero, List.set_cons_succ]
      revert hHeld; revert HB9; revert HA8; revert HA9; revert HA11; revert hx8_9; revert hx8_11; revert hx9_11; revert HPL; revert HW8; revert HW9; revert HW11; revert x8; revert x9; revert x11; revert B; revert lo; revert g; revert col; revert M; revert R; revert P; revert pg; revert pc; revert ws; revert u2; exact hS1_89b.out
    · obtain ⟨x10, u2, hx10, hw9, hz9, hb⟩ := cz_next u
      rw [hw9]
      try rw [hx10]
      clear hw9; have HA10n := Lib.hid (And.intro hz9 (show v3.heap.size ≤ x10 by have := HB9.out.size; omega))
      have hx8_10 : x8 ≠ x10 := by have h1 := HA8.out.1.1; omega
      have hx10_11 : x10 ≠ x11 := by have h1 := HA11.out.1.1; omega
      have HW10 : Hid (Away B col R g P x10) := Lib.hid (HPL.out.1.fresh (Nat.le_of_eq hx10)); clear hx10 hz9; replace HB9 := Lib.hid (thn HB9.out hb); replace HA8 := hpl HA8 hb; replace HA11 := hbl HA11 hb; replace HPL := Lib.hid (And.intro (HPL.out.1.later hb) HPL.out.2); have HA10 := HA10n; clear HA10n; refine hK2.out _ _ (s3b hHeld hb) (fun hHeld2 => ?_); clear hb; clear hK2 K2 hHeld; have hHeld := hHeld2
      clear hHeld2
      try simp only [Act.put, List.setIfInBounds_toArray, List.set_cons_zero, List.set_cons_succ]
      revert hHeld; revert HB9; revert HA8; revert HA10; revert HA11; revert hx8_10; revert hx8_11; revert hx10_11; revert HPL; revert HW8; revert HW10; revert HW11; revert x8; revert x10; revert x11; revert B; revert lo; revert g; revert col; revert M; revert R; revert P; revert pg; revert pc; revert ws; revert u2; exact hS1_8ab.out
  · intro u ws pc pg P R M col g lo B x10 x8 HW10 HW8 HPL hx8_10 HA10 HA8 HB9 hHeld
    refine wpAnyH_ready (rs := [3, 9, 11]) (by kernel_rfl) (by simp) ?_; refine AllReadyH.cons rfl (fun K2 hK2 => ?_) (AllReadyH.cons rfl (fun K2 hK2 => ?_) (AllReadyH.cons rfl (fun K2 hK2 => ?_) AllReadyH.nil))
    all_goals go_simp
    · with_reducible refine Calls.mono (w37made sb sl _ HSB.out.1 HSB.out.2.1 HSB.out.2.2.1 HSB.out.2.2.2 (T3.out.later HB9.out)) ?_
      rintro e u2 ⟨B', lo', g', col', M', R', P', pg', pc', ws', rfl, hp0, hpa0, hB0, hb⟩; have HPLn : Hid (TWO v3.heap.size B lo g col M R P pg pc ws B' lo' g' col' M' R' P' pg' pc' ws' u2 s37b s37b ∧ (PaintIs sb sl ws ∧ PaintIs sb sl ws')) := Lib.hid (And.intro (TWO.mk' HPL.out.1 hb hp0 hB0 HPL.out.2.2 HB9.out.size) (And.intro HPL.out.2.1 hpa0)); clear HPL; have HPL := HPLn; clear HPLn; replace HW8 : Hid (Away B col R g P x8 ∧ Away B' col' R' g' P' x8) := Lib.hid ⟨HW8.out, .inl (Nat.lt_of_lt_of_le HA8.out.1.1 hB0)⟩
      replace HW10 : Hid (Away B col R g P x10 ∧ Away B' col' R' g' P' x10) := Lib.hid ⟨HW10.out, .inl (Nat.lt_of_lt_of_le HA10.out.1.1 hB0)⟩; clear hp0 hpa0 hB0; replace HB9 := Lib.hid (thn HB9.out hb); replace HA8 := hpl HA8 hb; replace HA10 := hbl HA10 hb; refine hK2.out _ _ (s3b hHeld hb) (fun hHeld2 => ?_); clear hb; clear hK2 K2 hHeld; have hHeld := hHeld2; clear hHeld2
      try simp only [Act.put, List.setIfInBounds_toArray, List.set_cons_zero, List.set_cons_succ]
      revert hHeld; revert HB9; revert HA8; revert HA10; revert hx8_10; revert HPL; revert HW8; revert HW10; revert x8; revert x10; revert B; revert lo; revert g; revert col; revert M; revert R; revert P; revert pg; revert pc; revert ws; revert B'; revert lo'; revert g'; revert col'; revert M'; revert R'; revert P'; revert pg'; revert pc'; revert ws'; revert u2; exact hS2_8a.out
    · obtain ⟨x9, u2, hx9, hw9, hz9, hb⟩ := pz_next u
      rw [hw9]
      try rw [hx9]
      clear hw9; have HA9n := Lib.hid (And.intro hz9 (show v3.heap.size ≤ x9 by have := HB9.out.size; omega))
      have hx8_9 : x8 ≠ x9 := by have h1 := HA8.out.1.1; omega
      have hx9_10 : x9 ≠ x10 := by have h1 := HA10.out.1.1; omega
      have HW9 : Hid (Away B col R g P x9) := Lib.hid (HPL.out.1.fresh (Nat.le_of_eq hx9)); clear hx9 hz9; replace HB9 := Lib.hid (thn HB9.out hb); replace HA8 := hpl HA8 hb; replace HA10 := hbl HA10 hb; replace HPL := Lib.hid (And.intro (HPL.out.1.later hb) HPL.out.2); have HA9 := HA9n; clear HA9n; refine hK2.out _ _ (s3b hHeld hb) (fun hHeld2 => ?_); clear hb; clear hK2 K2 hHeld; have hHeld := hHeld2; clear hHeld2
      try simp only [Act.put, List.setIfInBounds_toArray, List.set_cons_zero, List.set_cons_succ]
      revert hHeld; revert HB9; revert HA8; revert HA9; revert HA10; revert hx8_9; revert hx8_10; revert hx9_10; revert HPL; revert HW8; revert HW9; revert HW10; revert x8; revert x9; revert x10; revert B; revert lo; revert g; revert col; revert M; revert R; revert P; revert pg; revert pc; revert ws; revert u2; exact hS1_89a.out
    · obtain ⟨x11, u2, hx11, hw9, hz9, hb⟩ := cz_next u
      rw [hw9]
      try rw [hx11]
      clear hw9; have HA11n := Lib.hid (And.intro hz9 (show v3.heap.size ≤ x11 by have := HB9.out.size; omega))
      have hx8_11 : x8 ≠ x11 := by have h1 := HA8.out.1.1; omega
      have hx10_11 : x10 ≠ x11 := by have h1 := HA10.out.1.1; omega
      have HW11 : Hid (Away B col R g P x11) := Lib.hid (HPL.out.1.fresh (Nat.le_of_eq hx11)); clear hx11 hz9; replace HB9 := Lib.hid (thn HB9.out hb); replace HA8 := hpl HA8 hb; replace HA10 := hbl HA10 hb; replace HPL := Lib.hid (And.intro (HPL.out.1.later hb) HPL.out.2); have HA11 := HA11n; clear HA11n; refine hK2.out _ _ (s3b hHeld hb) (fun hHeld2 => ?_); clear hb; clear hK2 K2 hHeld; have hHeld := hHeld2
      clear hHeld2
      try simp only [Act.put, List.setIfInBounds_toArray, List.set_cons_zero, List.set_cons_succ]
      revert hHeld; revert HB9; revert HA8; revert HA10; revert HA11; revert hx8_10; revert hx8_11; revert hx10_11; revert HPL; revert HW8; revert HW10; revert HW11; revert x8; revert x10; revert x11; revert B; revert lo; revert g; revert col; revert M; revert R; revert P; revert pg; revert pc; revert ws; revert u2; exact hS1_8ab.out
  · intro u ws pc pg P R M col g lo B x9 x8 HW9 HW8 HPL hx8_9 HA9 HA8 HB9 hHeld
    refine wpAnyH_ready (rs := [3, 10, 11]) (by kernel_rfl) (by simp) ?_; refine AllReadyH.cons rfl (fun K2 hK2 => ?_) (AllReadyH.cons rfl (fun K2 hK2 => ?_) (AllReadyH.cons rfl (fun K2 hK2 => ?_) AllReadyH.nil))
    all_goals go_simp
    · with_reducible refine Calls.mono (w37made sb sl _ HSB.out.1 HSB.out.2.1 HSB.out.2.2.1 HSB.out.2.2.2 (T3.out.later HB9.out)) ?_
      rintro e u2 ⟨B', lo', g', col', M', R', P', pg', pc', ws', rfl, hp0, hpa0, hB0, hb⟩; have HPLn : Hid (TWO v3.heap.size B lo g col M R P pg pc ws B' lo' g' col' M' R' P' pg' pc' ws' u2 s37b s37b ∧ (PaintIs sb sl ws ∧ PaintIs sb sl ws')) := Lib.hid (And.intro (TWO.mk' HPL.out.1 hb hp0 hB0 HPL.out.2.2 HB9.out.size) (And.intro HPL.out.2.1 hpa0)); clear HPL; have HPL := HPLn; clear HPLn; replace HW8 : Hid (Away B col R g P x8 ∧ Away B' col' R' g' P' x8) := Lib.hid ⟨HW8.out, .inl (Nat.lt_of_lt_of_le HA8.out.1.1 hB0)⟩
      replace HW9 : Hid (Away B col R g P x9 ∧ Away B' col' R' g' P' x9) := Lib.hid ⟨HW9.out, .inl (Nat.lt_of_lt_of_le HA9.out.1.1 hB0)⟩; clear hp0 hpa0 hB0; replace HB9 := Lib.hid (thn HB9.out hb); replace HA8 := hpl HA8 hb; replace HA9 := hpl HA9 hb; refine hK2.out _ _ (s3b hHeld hb) (fun hHeld2 => ?_); clear hb; clear hK2 K2 hHeld; have hHeld := hHeld2; clear hHeld2
      try simp only [Act.put, List.setIfInBounds_toArray, List.set_cons_zero, List.set_cons_succ]
      revert hHeld; revert HB9; revert HA8; revert HA9; revert hx8_9; revert HPL; revert HW8; revert HW9; revert x8; revert x9; revert B; revert lo; revert g; revert col; revert M; revert R; revert P; revert pg; revert pc; revert ws; revert B'; revert lo'; revert g'; revert col'; revert M'; revert R'; revert P'; revert pg'; revert pc'; revert ws'; revert u2; exact hS2_89.out
    · obtain ⟨x10, u2, hx10, hw9, hz9, hb⟩ := cz_next u
      rw [hw9]
      try rw [hx10]
      clear hw9; have HA10n := Lib.hid (And.intro hz9 (show v3.heap.size ≤ x10 by have := HB9.out.size; omega))
      have hx8_10 : x8 ≠ x10 := by have h1 := HA8.out.1.1; omega
      have hx9_10 : x9 ≠ x10 := by have h1 := HA9.out.1.1; omega
      have HW10 : Hid (Away B col R g P x10) := Lib.hid (HPL.out.1.fresh (Nat.le_of_eq hx10)); clear hx10 hz9; replace HB9 := Lib.hid (thn HB9.out hb); replace HA8 := hpl HA8 hb; replace HA9 := hpl HA9 hb; replace HPL := Lib.hid (And.intro (HPL.out.1.later hb) HPL.out.2); have HA10 := HA10n; clear HA10n; refine hK2.out _ _ (s3b hHeld hb) (fun hHeld2 => ?_); clear hb; clear hK2 K2 hHeld; have hHeld := hHeld2
      clear hHeld2
      try simp only [Act.put, List.setIfInBounds_toArray, List.set_cons_zero, List.set_cons_succ]
      revert hHeld; revert HB9; revert HA8; revert HA9; revert HA10; revert hx8_9; revert hx8_10; revert hx9_10; revert HPL; revert HW8; revert HW9; revert HW10; revert x8; revert x9; revert x10; revert B; revert lo; revert g; revert col; revert M; revert R; revert P; revert pg; revert pc; revert ws; revert u2; exact hS1_89a.out
    · obtain ⟨x11, u2, hx11, hw9, hz9, hb⟩ := cz_next u
      rw [hw9]
      try rw [hx11]
      clear hw9; have HA11n := Lib.hid (And.intro hz9 (show v3.heap.size ≤ x11 by have := HB9.out.size; omega))
      have hx8_11 : x8 ≠ x11 := by have h1 := HA8.out.1.1; omega
      have hx9_11 : x9 ≠ x11 := by have h1 := HA9.out.1.1; omega
      have HW11 : Hid (Away B col R g P x11) := Lib.hid (HPL.out.1.fresh (Nat.le_of_eq hx11)); clear hx11 hz9; replace HB9 := Lib.hid (thn HB9.out hb); replace HA8 := hpl HA8 hb; replace HA9 := hpl HA9 hb; replace HPL := Lib.hid (And.intro (HPL.out.1.later hb) HPL.out.2); have HA11 := HA11n; clear HA11n; refine hK2.out _ _ (s3b hHeld hb) (fun hHeld2 => ?_); clear hb; clear hK2 K2 hHeld; have hHeld := hHeld2
      clear hHeld2
      try simp only [Act.put, List.setIfInBounds_toArray, List.set_cons_zero, List.set_cons_succ]
      revert hHeld; revert HB9; revert HA8; revert HA9; revert HA11; revert hx8_9; revert hx8_11; revert hx9_11; revert HPL; revert HW8; revert HW9; revert HW11; revert x8; revert x9; revert x11; revert B; revert lo; revert g; revert col; revert M; revert R; revert P; revert pg; revert pc; revert ws; revert u2; exact hS1_89b.out
  · intro u ws' pc' pg' P' R' M' col' g' lo' B' ws pc pg P R M col g lo B x11 HW11 HPL HA11 HB9 hHeld
    refine wpAnyH_ready (rs := [5, 8, 9, 10]) (by kernel_rfl) (by simp) ?_; refine AllReadyH.cons rfl (fun K2 hK2 => ?_) (AllReadyH.cons rfl (fun K2 hK2 => ?_) (AllReadyH.cons rfl (fun K2 hK2 => ?_) (AllReadyH.cons rfl (fun K2 hK2 => ?_) AllReadyH.nil)))
    all_goals go_simp
    · with_reducible refine Calls.mono (few37 b l c p t v _) ?_
      rintro e u2 ⟨b1, l1, c1, p1, t1, rfl, hq1, hb⟩; have HQ1 : Hid (FB37 b1 l1 c1 p1 t1) := Lib.hid hq1; clear hq1; replace HB9 := Lib.hid (thn HB9.out hb); replace HA11 := hbl HA11 hb; replace HPL := Lib.hid (And.intro (HPL.out.1.later hb) HPL.out.2); refine hK2.out _ _ (s3b hHeld hb) (fun hHeld2 => ?_); clear hb; clear hK2 K2 hHeld; have hHeld := hHeld2; clear hHeld2
      try simp only [Act.put, List.setIfInBounds_toArray, List.set_cons_zero, List.set_cons_succ]
      revert hHeld; revert HB9; revert HA11; revert HPL; revert HW11; revert HQ1; revert x11; revert B; revert lo; revert g; revert col; revert M; revert R; revert P; revert pg; revert pc; revert ws; revert B'; revert lo'; revert g'; revert col'; revert M'; revert R'; revert P'; revert pg'; revert pc'; revert ws'; revert b1; revert l1; revert c1; revert p1; revert t1; revert u2; exact hS3_b.out
    · obtain ⟨x8, u2, hx8, hw9, hz9, hb⟩ := pz_next u
      rw [hw9]
      try rw [hx8]
      clear hw9; have HA8n := Lib.hid (And.intro hz9 (show v3.heap.size ≤ x8 by have := HB9.out.size; omega))
      have hx8_11 : x8 ≠ x11 := by have h1 := HA11.out.1.1; omega
      have HW8 := HPL.out.1.fr (Nat.le_of_eq hx8); clear hx8 hz9; replace HB9 := Lib.hid (thn HB9.out hb); replace HA11 := hbl HA11 hb; replace HPL := Lib.hid (And.intro (HPL.out.1.later hb) HPL.out.2); have HA8 := HA8n; clear HA8n; refine hK2.out _ _ (s3b hHeld hb) (fun hHeld2 => ?_); clear hb; clear hK2 K2 hHeld; have hHeld := hHeld2; clear hHeld2
      try simp only [Act.put, List.setIfInBounds_toArray, List.set_cons_zero, List.set_cons_succ]
      revert hHeld; revert HB9; revert HA8; revert HA11; revert hx8_11; revert HPL; revert HW8; revert HW11; revert x8; revert x11; revert B; revert lo; revert g; revert col; revert M; revert R; revert P; revert pg; revert pc; revert ws; revert B'; revert lo'; revert g'; revert col'; revert M'; revert R'; revert P'; revert pg'; revert pc'; revert ws'; revert u2; exact hS2_8b.out
    · obtain ⟨x9, u2, hx9, hw9, hz9, hb⟩ := pz_next u
      rw [hw9]
      try rw [hx9]
      clear hw9; have HA9n := Lib.hid (And.intro hz9 (show v3.heap.size ≤ x9 by have := HB9.out.size; omega))
      have hx9_11 : x9 ≠ x11 := by have h1 := HA11.out.1.1; omega
      have HW9 := HPL.out.1.fr (Nat.le_of_eq hx9); clear hx9 hz9; replace HB9 := Lib.hid (thn HB9.out hb); replace HA11 := hbl HA11 hb; replace HPL := Lib.hid (And.intro (HPL.out.1.later hb) HPL.out.2); have HA9 := HA9n; clear HA9n; refine hK2.out _ _ (s3b hHeld hb) (fun hHeld2 => ?_); clear hb; clear hK2 K2 hHeld; have hHeld := hHeld2; clear hHeld2
      try simp only [Act.put, List.setIfInBounds_toArray, List.set_cons_zero, List.set_cons_succ]
      revert hHeld; revert HB9; revert HA9; revert HA11; revert hx9_11; revert HPL; revert HW9; revert HW11; revert x9; revert x11; revert B; revert lo; revert g; revert col; revert M; revert R; revert P; revert pg; revert pc; revert ws; revert B'; revert lo'; revert g'; revert col'; revert M'; revert R'; revert P'; revert pg'; revert pc'; revert ws'; revert u2; exact hS2_9b.out
    · obtain ⟨x10, u2, hx10, hw9, hz9, hb⟩ := cz_next u
      rw [hw9]
      try rw [hx10]
      clear hw9; have HA10n := Lib.hid (And.intro hz9 (show v3.heap.size ≤ x10 by have := HB9.out.size; omega))
      have hx10_11 : x10 ≠ x11 := by have h1 := HA11.out.1.1; omega
      have HW10 := HPL.out.1.fr (Nat.le_of_eq hx10); clear hx10 hz9; replace HB9 := Lib.hid (thn HB9.out hb); replace HA11 := hbl HA11 hb; replace HPL := Lib.hid (And.intro (HPL.out.1.later hb) HPL.out.2); have HA10 := HA10n; clear HA10n; refine hK2.out _ _ (s3b hHeld hb) (fun hHeld2 => ?_); clear hb; clear hK2 K2 hHeld; have hHeld := hHeld2; clear hHeld2
      try simp only [Act.put, List.setIfInBounds_toArray, List.set_cons_zero, List.set_cons_succ]
      revert hHeld; revert HB9; revert HA10; revert HA11; revert hx10_11; revert HPL; revert HW10; revert HW11; revert x10; revert x11; revert B; revert lo; revert g; revert col; revert M; revert R; revert P; revert pg; revert pc; revert ws; revert B'; revert lo'; revert g'; revert col'; revert M'; revert R'; revert P'; revert pg'; revert pc'; revert ws'; revert u2; exact hS2_ab.out
  · intro u ws' pc' pg' P' R' M' col' g' lo' B' ws pc pg P R M col g lo B x10 HW10 HPL HA10 HB9 hHeld
    refine wpAnyH_ready (rs := [5, 8, 9, 11]) (by kernel_rfl) (by simp) ?_; refine AllReadyH.cons rfl (fun K2 hK2 => ?_) (AllReadyH.cons rfl (fun K2 hK2 => ?_) (AllReadyH.cons rfl (fun K2 hK2 => ?_) (AllReadyH.cons rfl (fun K2 hK2 => ?_) AllReadyH.nil)))
    all_goals go_simp
    · with_reducible refine Calls.mono (few37 b l c p t v _) ?_
      rintro e u2 ⟨b1, l1, c1, p1, t1, rfl, hq1, hb⟩; have HQ1 : Hid (FB37 b1 l1 c1 p1 t1) := Lib.hid hq1; clear hq1; replace HB9 := Lib.hid (thn HB9.out hb); replace HA10 := hbl HA10 hb; replace HPL := Lib.hid (And.intro (HPL.out.1.later hb) HPL.out.2); refine hK2.out _ _ (s3b hHeld hb) (fun hHeld2 => ?_); clear hb; clear hK2 K2 hHeld; have hHeld := hHeld2; clear hHeld2
      try simp only [Act.put, List.setIfInBounds_toArray, List.set_cons_zero, List.set_cons_succ]
      revert hHeld; revert HB9; revert HA10; revert HPL; revert HW10; revert HQ1; revert x10; revert B; revert lo; revert g; revert col; revert M; revert R; revert P; revert pg; revert pc; revert ws; revert B'; revert lo'; revert g'; revert col'; revert M'; revert R'; revert P'; revert pg'; revert pc'; revert ws'; revert b1; revert l1; revert c1; revert p1; revert t1; revert u2; exact hS3_a.out
    · obtain ⟨x8, u2, hx8, hw9, hz9, hb⟩ := pz_next u
      rw [hw9]
      try rw [hx8]
      clear hw9; have HA8n := Lib.hid (And.intro hz9 (show v3.heap.size ≤ x8 by have := HB9.out.size; omega))
      have hx8_10 : x8 ≠ x10 := by have h1 := HA10.out.1.1; omega
      have HW8 := HPL.out.1.fr (Nat.le_of_eq hx8); clear hx8 hz9; replace HB9 := Lib.hid (thn HB9.out hb); replace HA10 := hbl HA10 hb; replace HPL := Lib.hid (And.intro (HPL.out.1.later hb) HPL.out.2); have HA8 := HA8n; clear HA8n; refine hK2.out _ _ (s3b hHeld hb) (fun hHeld2 => ?_); clear hb; clear hK2 K2 hHeld; have hHeld := hHeld2; clear hHeld2
      try simp only [Act.put, List.setIfInBounds_toArray, List.set_cons_zero, List.set_cons_succ]
      revert hHeld; revert HB9; revert HA8; revert HA10; revert hx8_10; revert HPL; revert HW8; revert HW10; revert x8; revert x10; revert B; revert lo; revert g; revert col; revert M; revert R; revert P; revert pg; revert pc; revert ws; revert B'; revert lo'; revert g'; revert col'; revert M'; revert R'; revert P'; revert pg'; revert pc'; revert ws'; revert u2; exact hS2_8a.out
    · obtain ⟨x9, u2, hx9, hw9, hz9, hb⟩ := pz_next u
      rw [hw9]
      try rw [hx9]
      clear hw9; have HA9n := Lib.hid (And.intro hz9 (show v3.heap.size ≤ x9 by have := HB9.out.size; omega))
      have hx9_10 : x9 ≠ x10 := by have h1 := HA10.out.1.1; omega
      have HW9 := HPL.out.1.fr (Nat.le_of_eq hx9); clear hx9 hz9; replace HB9 := Lib.hid (thn HB9.out hb); replace HA10 := hbl HA10 hb; replace HPL := Lib.hid (And.intro (HPL.out.1.later hb) HPL.out.2); have HA9 := HA9n; clear HA9n; refine hK2.out _ _ (s3b hHeld hb) (fun hHeld2 => ?_); clear hb; clear hK2 K2 hHeld; have hHeld := hHeld2; clear hHeld2
      try simp only [Act.put, List.setIfInBounds_toArray, List.set_cons_zero, List.set_cons_succ]
      revert hHeld; revert HB9; revert HA9; revert HA10; revert hx9_10; revert HPL; revert HW9; revert HW10; revert x9; revert x10; revert B; revert lo; revert g; revert col; revert M; revert R; revert P; revert pg; revert pc; revert ws; revert B'; revert lo'; revert g'; revert col'; revert M'; revert R'; revert P'; revert pg'; revert pc'; revert ws'; revert u2; exact hS2_9a.out
    · obtain ⟨x11, u2, hx11, hw9, hz9, hb⟩ := cz_next u
      rw [hw9]
      try rw [hx11]
      clear hw9; have HA11n := Lib.hid (And.intro hz9 (show v3.heap.size ≤ x11 by have := HB9.out.size; omega))
      have hx10_11 : x10 ≠ x11 := by have h1 := HA10.out.1.1; omega
      have HW11 := HPL.out.1.fr (Nat.le_of_eq hx11); clear hx11 hz9; replace HB9 := Lib.hid (thn HB9.out hb); replace HA10 := hbl HA10 hb; replace HPL := Lib.hid (And.intro (HPL.out.1.later hb) HPL.out.2); have HA11 := HA11n; clear HA11n; refine hK2.out _ _ (s3b hHeld hb) (fun hHeld2 => ?_); clear hb; clear hK2 K2 hHeld; have hHeld := hHeld2; clear hHeld2
      try simp only [Act.put, List.setIfInBounds_toArray, List.set_cons_zero, List.set_cons_succ]
      revert hHeld; revert HB9; revert HA10; revert HA11; revert hx10_11; revert HPL; revert HW10; revert HW11; revert x10; revert x11; revert B; revert lo; revert g; revert col; revert M; revert R; revert P; revert pg; revert pc; revert ws; revert B'; revert lo'; revert g'; revert col'; revert M'; revert R'; revert P'; revert pg'; revert pc'; revert ws'; revert u2; exact hS2_ab.out
  · intro u ws' pc' pg' P' R' M' col' g' lo' B' ws pc pg P R M col g lo B x9 HW9 HPL HA9 HB9 hHeld
    refine wpAnyH_ready (rs := [5, 8, 10, 11]) (by kernel_rfl) (by simp) ?_; refine AllReadyH.cons rfl (fun K2 hK2 => ?_) (AllReadyH.cons rfl (fun K2 hK2 => ?_) (AllReadyH.cons rfl (fun K2 hK2 => ?_) (AllReadyH.cons rfl (fun K2 hK2 => ?_) AllReadyH.nil)))
    all_goals go_simp
    · with_reducible refine Calls.mono (few37 b l c p t v _) ?_
      rintro e u2 ⟨b1, l1, c1, p1, t1, rfl, hq1, hb⟩; have HQ1 : Hid (FB37 b1 l1 c1 p1 t1) := Lib.hid hq1; clear hq1; replace HB9 := Lib.hid (thn HB9.out hb); replace HA9 := hpl HA9 hb; replace HPL := Lib.hid (And.intro (HPL.out.1.later hb) HPL.out.2); refine hK2.out _ _ (s3b hHeld hb) (fun hHeld2 => ?_); clear hb; clear hK2 K2 hHeld; have hHeld := hHeld2; clear hHeld2
      try simp only [Act.put, List.setIfInBounds_toArray, List.set_cons_zero, List.set_cons_succ]
      revert hHeld; revert HB9; revert HA9; revert HPL; revert HW9; revert HQ1; revert x9; revert B; revert lo; revert g; revert col; revert M; revert R; revert P; revert pg; revert pc; revert ws; revert B'; revert lo'; revert g'; revert col'; revert M'; revert R'; revert P'; revert pg'; revert pc'; revert ws'; revert b1; revert l1; revert c1; revert p1; revert t1; revert u2; exact hS3_9.out
    · obtain ⟨x8, u2, hx8, hw9, hz9, hb⟩ := pz_next u
      rw [hw9]
      try rw [hx8]
      clear hw9; have HA8n := Lib.hid (And.intro hz9 (show v3.heap.size ≤ x8 by have := HB9.out.size; omega))
      have hx8_9 : x8 ≠ x9 := by have h1 := HA9.out.1.1; omega
      have HW8 := HPL.out.1.fr (Nat.le_of_eq hx8); clear hx8 hz9; replace HB9 := Lib.hid (thn HB9.out hb); replace HA9 := hpl HA9 hb; replace HPL := Lib.hid (And.intro (HPL.out.1.later hb) HPL.out.2); have HA8 := HA8n; clear HA8n; refine hK2.out _ _ (s3b hHeld hb) (fun hHeld2 => ?_); clear hb; clear hK2 K2 hHeld; have hHeld := hHeld2; clear hHeld2
      try simp only [Act.put, List.setIfInBounds_toArray, List.set_cons_zero, List.set_cons_succ]
      revert hHeld; revert HB9; revert HA8; revert HA9; revert hx8_9; revert HPL; revert HW8; revert HW9; revert x8; revert x9; revert B; revert lo; revert g; revert col; revert M; revert R; revert P; revert pg; revert pc; revert ws; revert B'; revert lo'; revert g'; revert col'; revert M'; revert R'; revert P'; revert pg'; revert pc'; revert ws'; revert u2; exact hS2_89.out
    · obtain ⟨x10, u2, hx10, hw9, hz9, hb⟩ := cz_next u
      rw [hw9]
      try rw [hx10]
      clear hw9; have HA10n := Lib.hid (And.intro hz9 (show v3.heap.size ≤ x10 by have := HB9.out.size; omega))
      have hx9_10 : x9 ≠ x10 := by have h1 := HA9.out.1.1; omega
      have HW10 := HPL.out.1.fr (Nat.le_of_eq hx10); clear hx10 hz9; replace HB9 := Lib.hid (thn HB9.out hb); replace HA9 := hpl HA9 hb; replace HPL := Lib.hid (And.intro (HPL.out.1.later hb) HPL.out.2); have HA10 := HA10n; clear HA10n; refine hK2.out _ _ (s3b hHeld hb) (fun hHeld2 => ?_); clear hb; clear hK2 K2 hHeld; have hHeld := hHeld2; clear hHeld2
      try simp only [Act.put, List.setIfInBounds_toArray, List.set_cons_zero, List.set_cons_succ]
      revert hHeld; revert HB9; revert HA9; revert HA10; revert hx9_10; revert HPL; revert HW9; revert HW10; revert x9; revert x10; revert B; revert lo; revert g; revert col; revert M; revert R; revert P; revert pg; revert pc; revert ws; revert B'; revert lo'; revert g'; revert col'; revert M'; revert R'; revert P'; revert pg'; revert pc'; revert ws'; revert u2; exact hS2_9a.out
    · obtain ⟨x11, u2, hx11, hw9, hz9, hb⟩ := cz_next u
      rw [hw9]
      try rw [hx11]
      clear hw9; have HA11n := Lib.hid (And.intro hz9 (show v3.heap.size ≤ x11 by have := HB9.out.size; omega))
      have hx9_11 : x9 ≠ x11 := by have h1 := HA9.out.1.1; omega
      have HW11 := HPL.out.1.fr (Nat.le_of_eq hx11); clear hx11 hz9; replace HB9 := Lib.hid (thn HB9.out hb); replace HA9 := hpl HA9 hb; replace HPL := Lib.hid (And.intro (HPL.out.1.later hb) HPL.out.2); have HA11 := HA11n; clear HA11n; refine hK2.out _ _ (s3b hHeld hb) (fun hHeld2 => ?_); clear hb; clear hK2 K2 hHeld; have hHeld := hHeld2; clear hHeld2
      try simp only [Act.put, List.setIfInBounds_toArray, List.set_cons_zero, List.set_cons_succ]
      revert hHeld; revert HB9; revert HA9; revert HA11; revert hx9_11; revert HPL; revert HW9; revert HW11; revert x9; revert x11; revert B; revert lo; revert g; revert col; revert M; revert R; revert P; revert pg; revert pc; revert ws; revert B'; revert lo'; revert g'; revert col'; revert M'; revert R'; revert P'; revert pg'; revert pc'; revert ws'; revert u2; exact hS2_9b.out
  · intro u ws' pc' pg' P' R' M' col' g' lo' B' ws pc pg P R M col g lo B x8 HW8 HPL HA8 HB9 hHeld
    refine wpAnyH_ready (rs := [5, 9, 10, 11]) (by kernel_rfl) (by simp) ?_; refine AllReadyH.cons rfl (fun K2 hK2 => ?_) (AllReadyH.cons rfl (fun K2 hK2 => ?_) (AllReadyH.cons rfl (fun K2 hK2 => ?_) (AllReadyH.cons rfl (fun K2 hK2 => ?_) AllReadyH.nil)))
    all_goals go_simp
    · with_reducible refine Calls.mono (few37 b l c p t v _) ?_
      rintro e u2 ⟨b1, l1, c1, p1, t1, rfl, hq1, hb⟩; have HQ1 : Hid (FB37 b1 l1 c1 p1 t1) := Lib.hid hq1; clear hq1; replace HB9 := Lib.hid (thn HB9.out hb); replace HA8 := hpl HA8 hb; replace HPL := Lib.hid (And.intro (HPL.out.1.later hb) HPL.out.2); refine hK2.out _ _ (s3b hHeld hb) (fun hHeld2 => ?_); clear hb; clear hK2 K2 hHeld; have hHeld := hHeld2; clear hHeld2
      try simp only [Act.put, List.setIfInBounds_toArray, List.set_cons_zero, List.set_cons_succ]
      revert hHeld; revert HB9; revert HA8; revert HPL; revert HW8; revert HQ1; revert x8; revert B; revert lo; revert g; revert col; revert M; revert R; revert P; revert pg; revert pc; revert ws; revert B'; revert lo'; revert g'; revert col'; revert M'; revert R'; revert P'; revert pg'; revert pc'; revert ws'; revert b1; revert l1; revert c1; revert p1; revert t1; revert u2; exact hS3_8.out
    · obtain ⟨x9, u2, hx9, hw9, hz9, hb⟩ := pz_next u
      rw [hw9]
      try rw [hx9]
      clear hw9; have HA9n := Lib.hid (And.intro hz9 (show v3.heap.size ≤ x9 by have := HB9.out.size; omega))
      have hx8_9 : x8 ≠ x9 := by have h1 := HA8.out.1.1; omega
      have HW9 := HPL.out.1.fr (Nat.le_of_eq hx9); clear hx9 hz9; replace HB9 := Lib.hid (thn HB9.out hb); replace HA8 := hpl HA8 hb; replace HPL := Lib.hid (And.intro (HPL.out.1.later hb) HPL.out.2); have HA9 := HA9n; clear HA9n; refine hK2.out _ _ (s3b hHeld hb) (fun hHeld2 => ?_); clear hb; clear hK2 K2 hHeld; have hHeld := hHeld2; clear hHeld2
      try simp only [Act.put, List.setIfInBounds_toArray, List.set_cons_zero, List.set_cons_succ]
      revert hHeld; revert HB9; revert HA8; revert HA9; revert hx8_9; revert HPL; revert HW8; revert HW9; revert x8; revert x9; revert B; revert lo; revert g; revert col; revert M; revert R; revert P; revert pg; revert pc; revert ws; revert B'; revert lo'; revert g'; revert col'; revert M'; revert R'; revert P'; revert pg'; revert pc'; revert ws'; revert u2; exact hS2_89.out
    · obtain ⟨x10, u2, hx10, hw9, hz9, hb⟩ := cz_next u
      rw [hw9]
      try rw [hx10]
      clear hw9; have HA10n := Lib.hid (And.intro hz9 (show v3.heap.size ≤ x10 by have := HB9.out.size; omega))
      have hx8_10 : x8 ≠ x10 := by have h1 := HA8.out.1.1; omega
      have HW10 := HPL.out.1.fr (Nat.le_of_eq hx10); clear hx10 hz9; replace HB9 := Lib.hid (thn HB9.out hb); replace HA8 := hpl HA8 hb; replace HPL := Lib.hid (And.intro (HPL.out.1.later hb) HPL.out.2); have HA10 := HA10n; clear HA10n; refine hK2.out _ _ (s3b hHeld hb) (fun hHeld2 => ?_); clear hb; clear hK2 K2 hHeld; have hHeld := hHeld2; clear hHeld2
      try simp only [Act.put, List.setIfInBounds_toArray, List.set_cons_zero, List.set_cons_succ]
      revert hHeld; revert HB9; revert HA8; revert HA10; revert hx8_10; revert HPL; revert HW8; revert HW10; revert x8; revert x10; revert B; revert lo; revert g; revert col; revert M; revert R; revert P; revert pg; revert pc; revert ws; revert B'; revert lo'; revert g'; revert col'; revert M'; revert R'; revert P'; revert pg'; revert pc'; revert ws'; revert u2; exact hS2_8a.out
    · obtain ⟨x11, u2, hx11, hw9, hz9, hb⟩ := cz_next u
      rw [hw9]
      try rw [hx11]
      clear hw9; have HA11n := Lib.hid (And.intro hz9 (show v3.heap.size ≤ x11 by have := HB9.out.size; omega))
      have hx8_11 : x8 ≠ x11 := by have h1 := HA8.out.1.1; omega
      have HW11 := HPL.out.1.fr (Nat.le_of_eq hx11); clear hx11 hz9; replace HB9 := Lib.hid (thn HB9.out hb); replace HA8 := hpl HA8 hb; replace HPL := Lib.hid (And.intro (HPL.out.1.later hb) HPL.out.2); have HA11 := HA11n; clear HA11n; refine hK2.out _ _ (s3b hHeld hb) (fun hHeld2 => ?_); clear hb; clear hK2 K2 hHeld; have hHeld := hHeld2; clear hHeld2
      try simp only [Act.put, List.setIfInBounds_toArray, List.set_cons_zero, List.set_cons_succ]
      revert hHeld; revert HB9; revert HA8; revert HA11; revert hx8_11; revert HPL; revert HW8; revert HW11; revert x8; revert x11; revert B; revert lo; revert g; revert col; revert M; revert R; revert P; revert pg; revert pc; revert ws; revert B'; revert lo'; revert g'; revert col'; revert M'; revert R'; revert P'; revert pg'; revert pc'; revert ws'; revert u2; exact hS2_8b.out
  · intro u t1 p1 c1 l1 b1 ws' pc' pg' P' R' M' col' g' lo' B' ws pc pg P R M col g lo B HQ1 HPL HB9 hHeld
    refine wpAnyH_ready (rs := [7, 8, 9, 10, 11]) (by kernel_rfl) (by simp) ?_; refine AllReadyH.cons rfl (fun K2 hK2 => ?_) (AllReadyH.cons rfl (fun K2 hK2 => ?_) (AllReadyH.cons rfl (fun K2 hK2 => ?_) (AllReadyH.cons rfl (fun K2 hK2 => ?_) (AllReadyH.cons rfl (fun K2 hK2 => ?_) AllReadyH.nil))))
    all_goals go_simp
    · with_reducible refine Calls.mono (few37 b' l' c' p' t' v' _) ?_
      rintro e u2 ⟨b2, l2, c2, p2, t2, rfl, hq2, hb⟩; have HQ2 : Hid (FB37 b2 l2 c2 p2 t2) := Lib.hid hq2; clear hq2; replace HB9 := Lib.hid (thn HB9.out hb); replace HPL := Lib.hid (And.intro (HPL.out.1.later hb) HPL.out.2); refine hK2.out _ _ (s3b hHeld hb) (fun hHeld2 => ?_); clear hb; clear hK2 K2 hHeld; have hHeld := hHeld2; clear hHeld2
      try simp only [Act.put, List.setIfInBounds_toArray, List.set_cons_zero, List.set_cons_succ]
      revert hHeld; revert HB9; revert HPL; revert HQ1; revert HQ2; revert B; revert lo; revert g; revert col; revert M; revert R; revert P; revert pg; revert pc; revert ws; revert B'; revert lo'; revert g'; revert col'; revert M'; revert R'; revert P'; revert pg'; revert pc'; revert ws'; revert b1; revert l1; revert c1; revert p1; revert t1; revert b2; revert l2; revert c2; revert p2; revert t2; revert u2
      exact hS4_.out
    · obtain ⟨x8, u2, hx8, hw9, hz9, hb⟩ := pz_next u
      rw [hw9]
      try rw [hx8]
      clear hw9; have HA8n := Lib.hid (And.intro hz9 (show v3.heap.size ≤ x8 by have := HB9.out.size; omega)); have HW8 := HPL.out.1.fr (Nat.le_of_eq hx8); clear hx8 hz9; replace HB9 := Lib.hid (thn HB9.out hb); replace HPL := Lib.hid (And.intro (HPL.out.1.later hb) HPL.out.2); have HA8 := HA8n; clear HA8n; refine hK2.out _ _ (s3b hHeld hb) (fun hHeld2 => ?_); clear hb; clear hK2 K2 hHeld; have hHeld := hHeld2
      clear hHeld2
      try simp only [Act.put, List.setIfInBounds_toArray, List.set_cons_zero, List.set_cons_succ]
      revert hHeld; revert HB9; revert HA8; revert HPL; revert HW8; revert HQ1; revert x8; revert B; revert lo; revert g; revert col; revert M; revert R; revert P; revert pg; revert pc; revert ws; revert B'; revert lo'; revert g'; revert col'; revert M'; revert R'; revert P'; revert pg'; revert pc'; revert ws'; revert b1; revert l1; revert c1; revert p1; revert t1; revert u2; exact hS3_8.out
    · obtain ⟨x9, u2, hx9, hw9, hz9, hb⟩ := pz_next u
      rw [hw9]
      try rw [hx9]
      clear hw9; have HA9n := Lib.hid (And.intro hz9 (show v3.heap.size ≤ x9 by have := HB9.out.size; omega)); have HW9 := HPL.out.1.fr (Nat.le_of_eq hx9); clear hx9 hz9; replace HB9 := Lib.hid (thn HB9.out hb); replace HPL := Lib.hid (And.intro (HPL.out.1.later hb) HPL.out.2); have HA9 := HA9n; clear HA9n; refine hK2.out _ _ (s3b hHeld hb) (fun hHeld2 => ?_); clear hb; clear hK2 K2 hHeld; have hHeld := hHeld2
      clear hHeld2
      try simp only [Act.put, List.setIfInBounds_toArray, List.set_cons_zero, List.set_cons_succ]
      revert hHeld; revert HB9; revert HA9; revert HPL; revert HW9; revert HQ1; revert x9; revert B; revert lo; revert g; revert col; revert M; revert R; revert P; revert pg; revert pc; revert ws; revert B'; revert lo'; revert g'; revert col'; revert M'; revert R'; revert P'; revert pg'; revert pc'; revert ws'; revert b1; revert l1; revert c1; revert p1; revert t1; revert u2; exact hS3_9.out
    · obtain ⟨x10, u2, hx10, hw9, hz9, hb⟩ := cz_next u
      rw [hw9]
      try rw [hx10]
      clear hw9; have HA10n := Lib.hid (And.intro hz9 (show v3.heap.size ≤ x10 by have := HB9.out.size; omega)); have HW10 := HPL.out.1.fr (Nat.le_of_eq hx10); clear hx10 hz9; replace HB9 := Lib.hid (thn HB9.out hb); replace HPL := Lib.hid (And.intro (HPL.out.1.later hb) HPL.out.2); have HA10 := HA10n; clear HA10n; refine hK2.out _ _ (s3b hHeld hb) (fun hHeld2 => ?_); clear hb; clear hK2 K2 hHeld; have hHeld := hHeld2
      clear hHeld2
      try simp only [Act.put, List.setIfInBounds_toArray, List.set_cons_zero, List.set_cons_succ]
      revert hHeld; revert HB9; revert HA10; revert HPL; revert HW10; revert HQ1; revert x10; revert B; revert lo; revert g; revert col; revert M; revert R; revert P; revert pg; revert pc; revert ws; revert B'; revert lo'; revert g'; revert col'; revert M'; revert R'; revert P'; revert pg'; revert pc'; revert ws'; revert b1; revert l1; revert c1; revert p1; revert t1; revert u2; exact hS3_a.out
    · obtain ⟨x11, u2, hx11, hw9, hz9, hb⟩ := cz_next u
      rw [hw9]
      try rw [hx11]
      clear hw9; have HA11n := Lib.hid (And.intro hz9 (show v3.heap.size ≤ x11 by have := HB9.out.size; omega)); have HW11 := HPL.out.1.fr (Nat.le_of_eq hx11); clear hx11 hz9; replace HB9 := Lib.hid (thn HB9.out hb); replace HPL := Lib.hid (And.intro (HPL.out.1.later hb) HPL.out.2); have HA11 := HA11n; clear HA11n; refine hK2.out _ _ (s3b hHeld hb) (fun hHeld2 => ?_); clear hb; clear hK2 K2 hHeld; have hHeld := hHeld2
      clear hHeld2
      try simp only [Act.put, List.setIfInBounds_toArray, List.set_cons_zero, List.set_cons_succ]
      revert hHeld; revert HB9; revert HA11; revert HPL; revert HW11; revert HQ1; revert x11; revert B; revert lo; revert g; revert col; revert M; revert R; revert P; revert pg; revert pc; revert ws; revert B'; revert lo'; revert g'; revert col'; revert M'; revert R'; revert P'; revert pg'; revert pc'; revert ws'; revert b1; revert l1; revert c1; revert p1; revert t1; revert u2; exact hS3_b.out
  · intro u x11 x10 x9 x8 hx10_11 hx9_11 hx9_10 hx8_11 hx8_10 hx8_9 HA11 HA10 HA9 HA8 HB9 hHeld
    refine wpAnyH_ready (rs := [1]) (by kernel_rfl) (by simp) ?_; refine AllReadyH.cons rfl (fun K2 hK2 => ?_) AllReadyH.nil
    go_simp
    with_reducible refine Calls.mono (w37made sb sl _ HSB.out.1 HSB.out.2.1 HSB.out.2.2.1 HSB.out.2.2.2 (T3.out.later HB9.out)) ?_
    rintro e u2 ⟨B, lo, g, col, M, R, P, pg, pc, ws, rfl, hp0, hpa0, hB0, hb⟩; have HPL := Lib.hid (And.intro hp0 (And.intro hpa0 (show v3.heap.size ≤ B by have := HB9.out.size; omega))); have HW8 : Hid (Away B col R g P x8) := Lib.hid (.inl (Nat.lt_of_lt_of_le HA8.out.1.1 hB0)); have HW9 : Hid (Away B col R g P x9) := Lib.hid (.inl (Nat.lt_of_lt_of_le HA9.out.1.1 hB0)); have HW10 : Hid (Away B col R g P x10) := Lib.hid (.inl (Nat.lt_of_lt_of_le HA10.out.1.1 hB0))
    have HW11 : Hid (Away B col R g P x11) := Lib.hid (.inl (Nat.lt_of_lt_of_le HA11.out.1.1 hB0)); clear hp0 hpa0 hB0; replace HB9 := Lib.hid (thn HB9.out hb); replace HA8 := hpl HA8 hb; replace HA9 := hpl HA9 hb; replace HA10 := hbl HA10 hb; replace HA11 := hbl HA11 hb; refine hK2.out _ _ (s3b hHeld hb) (fun hHeld2 => ?_); clear hb; clear hK2 K2 hHeld; have hHeld := hHeld2; clear hHeld2
    try simp only [Act.put, List.setIfInBounds_toArray, List.set_cons_zero, List.set_cons_succ]
    revert hHeld; revert HB9; revert HA8; revert HA9; revert HA10; revert HA11; revert hx8_9; revert hx8_10; revert hx8_11; revert hx9_10; revert hx9_11; revert hx10_11; revert HPL; revert HW8; revert HW9; revert HW10; revert HW11; revert x8; revert x9; revert x10; revert x11; revert B; revert lo; revert g; revert col; revert M; revert R; revert P; revert pg; revert pc; revert ws; revert u2; exact hS1_89ab.out
  · intro u ws pc pg P R M col g lo B x11 x10 x9 HW11 HW10 HW9 HPL hx10_11 hx9_11 hx9_10 HA11 HA10 HA9 HB9 hHeld
    refine wpAnyH_ready (rs := [3, 8]) (by kernel_rfl) (by simp) ?_; refine AllReadyH.cons rfl (fun K2 hK2 => ?_) (AllReadyH.cons rfl (fun K2 hK2 => ?_) AllReadyH.nil)
    all_goals go_simp
    · with_reducible refine Calls.mono (w37made sb sl _ HSB.out.1 HSB.out.2.1 HSB.out.2.2.1 HSB.out.2.2.2 (T3.out.later HB9.out)) ?_
      rintro e u2 ⟨B', lo', g', col', M', R', P', pg', pc', ws', rfl, hp0, hpa0, hB0, hb⟩; have HPLn : Hid (TWO v3.heap.size B lo g col M R P pg pc ws B' lo' g' col' M' R' P' pg' pc' ws' u2 s37b s37b ∧ (PaintIs sb sl ws ∧ PaintIs sb sl ws')) := Lib.hid (And.intro (TWO.mk' HPL.out.1 hb hp0 hB0 HPL.out.2.2 HB9.out.size) (And.intro HPL.out.2.1 hpa0)); clear HPL; have HPL := HPLn; clear HPLn; replace HW9 : Hid (Away B col R g P x9 ∧ Away B' col' R' g' P' x9) := Lib.hid ⟨HW9.out, .inl (Nat.lt_of_lt_of_le HA9.out.1.1 hB0)⟩
      replace HW10 : Hid (Away B col R g P x10 ∧ Away B' col' R' g' P' x10) := Lib.hid ⟨HW10.out, .inl (Nat.lt_of_lt_of_le HA10.out.1.1 hB0)⟩; replace HW11 : Hid (Away B col R g P x11 ∧ Away B' col' R' g' P' x11) := Lib.hid ⟨HW11.out, .inl (Nat.lt_of_lt_of_le HA11.out.1.1 hB0)⟩; clear hp0 hpa0 hB0; replace HB9 := Lib.hid (thn HB9.out hb); replace HA9 := hpl HA9 hb; replace HA10 := hbl HA10 hb; replace HA11 := hbl HA11 hb
      refine hK2.out _ _ (s3b hHeld hb) (fun hHeld2 => ?_); clear hb; clear hK2 K2 hHeld; have hHeld := hHeld2; clear hHeld2
      try simp only [Act.put, List.setIfInBounds_toArray, List.set_cons_zero, List.set_cons_succ]
      revert hHeld; revert HB9; revert HA9; revert HA10; revert HA11; revert hx9_10; revert hx9_11; revert hx10_11; revert HPL; revert HW9; revert HW10; revert HW11; revert x9; revert x10; revert x11; revert B; revert lo; revert g; revert col; revert M; revert R; revert P; revert pg; revert pc; revert ws; revert B'; revert lo'; revert g'; revert col'; revert M'; revert R'; revert P'; revert pg'; revert pc'
      revert ws'; revert u2; exact hS2_9ab.out
    · obtain ⟨x8, u2, hx8, hw9, hz9, hb⟩ := pz_next u
      rw [hw9]
      try rw [hx8]
      clear hw9; have HA8n := Lib.hid (And.intro hz9 (show v3.heap.size ≤ x8 by have := HB9.out.size; omega))
      have hx8_9 : x8 ≠ x9 := by have h1 := HA9.out.1.1; omega
      have hx8_10 : x8 ≠ x10 := by have h1 := HA10.out.1.1; omega
      have hx8_11 : x8 ≠ x11 := by have h1 := HA11.out.1.1; omega
      have HW8 : Hid (Away B col R g P x8) := Lib.hid (HPL.out.1.fresh (Nat.le_of_eq hx8)); clear hx8 hz9; replace HB9 := Lib.hid (thn HB9.out hb); replace HA9 := hpl HA9 hb; replace HA10 := hbl HA10 hb; replace HA11 := hbl HA11 hb; replace HPL := Lib.hid (And.intro (HPL.out.1.later hb) HPL.out.2); have HA8 := HA8n; clear HA8n; refine hK2.out _ _ (s3b hHeld hb) (fun hHeld2 => ?_); clear hb; clear hK2 K2 hHeld
      have hHeld := hHeld2; clear hHeld2
      try simp only [Act.put, List.setIfInBounds_toArray, List.set_cons_zero, List.set_cons_succ]
      revert hHeld; revert HB9; revert HA8; revert HA9; revert HA10; revert HA11; revert hx8_9; revert hx8_10; revert hx8_11; revert hx9_10; revert hx9_11; revert hx10_11; revert HPL; revert HW8; revert HW9; revert HW10; revert HW11; revert x8; revert x9; revert x10; revert x11; revert B; revert lo; revert g; revert col; revert M; revert R; revert P; revert pg; revert pc; revert ws; revert u2; exact hS1_89ab.out
  · intro u ws pc pg P R M col g lo B x11 x10 x8 HW11 HW10 HW8 HPL hx10_11 hx8_11 hx8_10 HA11 HA10 HA8 HB9 hHeld
    refine wpAnyH_ready (rs := [3, 9]) (by kernel_rfl) (by simp) ?_; refine AllReadyH.cons rfl (fun K2 hK2 => ?_) (AllReadyH.cons rfl (fun K2 hK2 => ?_) AllReadyH.nil)
    all_goals go_simp
    · with_reducible refine Calls.mono (w37made sb sl _ HSB.out.1 HSB.out.2.1 HSB.out.2.2.1 HSB.out.2.2.2 (T3.out.later HB9.out)) ?_
      rintro e u2 ⟨B', lo', g', col', M', R', P', pg', pc', ws', rfl, hp0, hpa0, hB0, hb⟩; have HPLn : Hid (TWO v3.heap.size B lo g col M R P pg pc ws B' lo' g' col' M' R' P' pg' pc' ws' u2 s37b s37b ∧ (PaintIs sb sl ws ∧ PaintIs sb sl ws')) := Lib.hid (And.intro (TWO.mk' HPL.out.1 hb hp0 hB0 HPL.out.2.2 HB9.out.size) (And.intro HPL.out.2.1 hpa0)); clear HPL; have HPL := HPLn; clear HPLn; replace HW8 : Hid (Away B col R g P x8 ∧ Away B' col' R' g' P' x8) := Lib.hid ⟨HW8.out, .inl (Nat.lt_of_lt_of_le HA8.out.1.1 hB0)⟩
      replace HW10 : Hid (Away B col R g P x10 ∧ Away B' col' R' g' P' x10) := Lib.hid ⟨HW10.out, .inl (Nat.lt_of_lt_of_le HA10.out.1.1 hB0)⟩; replace HW11 : Hid (Away B col R g P x11 ∧ Away B' col' R' g' P' x11) := Lib.hid ⟨HW11.out, .inl (Nat.lt_of_lt_of_le HA11.out.1.1 hB0)⟩; clear hp0 hpa0 hB0; replace HB9 := Lib.hid (thn HB9.out hb); replace HA8 := hpl HA8 hb; replace HA10 := hbl HA10 hb; replace HA11 := hbl HA11 hb
      refine hK2.out _ _ (s3b hHeld hb) (fun hHeld2 => ?_); clear hb; clear hK2 K2 hHeld; have hHeld := hHeld2; clear hHeld2
      try simp only [Act.put, List.setIfInBounds_toArray, List.set_cons_zero, List.set_cons_succ]
      revert hHeld; revert HB9; revert HA8; revert HA10; revert HA11; revert hx8_10; revert hx8_11; revert hx10_11; revert HPL; revert HW8; revert HW10; revert HW11; revert x8; revert x10; revert x11; revert B; revert lo; revert g; revert col; revert M; revert R; revert P; revert pg; revert pc; revert ws; revert B'; revert lo'; revert g'; revert col'; revert M'; revert R'; revert P'; revert pg'; revert pc'
      revert ws'; revert u2; exact hS2_8ab.out
    · obtain ⟨x9, u2, hx9, hw9, hz9, hb⟩ := pz_next u
      rw [hw9]
      try rw [hx9]
      clear hw9; have HA9n := Lib.hid (And.intro hz9 (show v3.heap.size ≤ x9 by have := HB9.out.size; omega))
      have hx8_9 : x8 ≠ x9 := by have h1 := HA8.out.1.1; omega
      have hx9_10 : x9 ≠ x10 := by have h1 := HA10.out.1.1; omega
      have hx9_11 : x9 ≠ x11 := by have h1 := HA11.out.1.1; omega
      have HW9 : Hid (Away B col R g P x9) := Lib.hid (HPL.out.1.fresh (Nat.le_of_eq hx9)); clear hx9 hz9; replace HB9 := Lib.hid (thn HB9.out hb); replace HA8 := hpl HA8 hb; replace HA10 := hbl HA10 hb; replace HA11 := hbl HA11 hb; replace HPL := Lib.hid (And.intro (HPL.out.1.later hb) HPL.out.2); have HA9 := HA9n; clear HA9n; refine hK2.out _ _ (s3b hHeld hb) (fun hHeld2 => ?_); clear hb; clear hK2 K2 hHeld
      have hHeld := hHeld2; clear hHeld2
      try simp only [Act.put, List.setIfInBounds_toArray, List.set_cons_zero, List.set_cons_succ]
      revert hHeld; revert HB9; revert HA8; revert HA9; revert HA10; revert HA11; revert hx8_9; revert hx8_10; revert hx8_11; revert hx9_10; revert hx9_11; revert hx10_11; revert HPL; revert HW8; revert HW9; revert HW10; revert HW11; revert x8; revert x9; revert x10; revert x11; revert B; revert lo; revert g; revert col; revert M; revert R; revert P; revert pg; revert pc; revert ws; revert u2; exact hS1_89ab.out
  · intro u ws pc pg P R M col g lo B x11 x9 x8 HW11 HW9 HW8 HPL hx9_11 hx8_11 hx8_9 HA11 HA9 HA8 HB9 hHeld
    refine wpAnyH_ready (rs := [3, 10]) (by kernel_rfl) (by simp) ?_; refine AllReadyH.cons rfl (fun K2 hK2 => ?_) (AllReadyH.cons rfl (fun K2 hK2 => ?_) AllReadyH.nil)
    all_goals go_simp
    · with_reducible refine Calls.mono (w37made sb sl _ HSB.out.1 HSB.out.2.1 HSB.out.2.2.1 HSB.out.2.2.2 (T3.out.later HB9.out)) ?_
      rintro e u2 ⟨B', lo', g', col', M', R', P', pg', pc', ws', rfl, hp0, hpa0, hB0, hb⟩; have HPLn : Hid (TWO v3.heap.size B lo g col M R P pg pc ws B' lo' g' col' M' R' P' pg' pc' ws' u2 s37b s37b ∧ (PaintIs sb sl ws ∧ PaintIs sb sl ws')) := Lib.hid (And.intro (TWO.mk' HPL.out.1 hb hp0 hB0 HPL.out.2.2 HB9.out.size) (And.intro HPL.out.2.1 hpa0)); clear HPL; have HPL := HPLn; clear HPLn; replace HW8 : Hid (Away B col R g P x8 ∧ Away B' col' R' g' P' x8) := Lib.hid ⟨HW8.out, .inl (Nat.lt_of_lt_of_le HA8.out.1.1 hB0)⟩
      replace HW9 : Hid (Away B col R g P x9 ∧ Away B' col' R' g' P' x9) := Lib.hid ⟨HW9.out, .inl (Nat.lt_of_lt_of_le HA9.out.1.1 hB0)⟩; replace HW11 : Hid (Away B col R g P x11 ∧ Away B' col' R' g' P' x11) := Lib.hid ⟨HW11.out, .inl (Nat.lt_of_lt_of_le HA11.out.1.1 hB0)⟩; clear hp0 hpa0 hB0; replace HB9 := Lib.hid (thn HB9.out hb); replace HA8 := hpl HA8 hb; replace HA9 := hpl HA9 hb; replace HA11 := hbl HA11 hb
      refine hK2.out _ _ (s3b hHeld hb) (fun hHeld2 => ?_); clear hb; clear hK2 K2 hHeld; have hHeld := hHeld2; clear hHeld2
      try simp only [Act.put, List.setIfInBounds_toArray, List.set_cons_zero, List.set_cons_succ]
      revert hHeld; revert HB9; revert HA8; revert HA9; revert HA11; revert hx8_9; revert hx8_11; revert hx9_11; revert HPL; revert HW8; revert HW9; revert HW11; revert x8; revert x9; revert x11; revert B; revert lo; revert g; revert col; revert M; revert R; revert P; revert pg; revert pc; revert ws; revert B'; revert lo'; revert g'; revert col'; revert M'; revert R'; revert P'; revert pg'; revert pc'; revert ws'
      revert u2; exact hS2_89b.out
    · obtain ⟨x10, u2, hx10, hw9, hz9, hb⟩ := cz_next u
      rw [hw9]
      try rw [hx10]
      clear hw9; have HA10n := Lib.hid (And.intro hz9 (show v3.heap.size ≤ x10 by have := HB9.out.size; omega))
      have hx8_10 : x8 ≠ x10 := by have h1 := HA8.out.1.1; omega
      have hx9_10 : x9 ≠ x10 := by have h1 := HA9.out.1.1; omega
      have hx10_11 : x10 ≠ x11 := by have h1 := HA11.out.1.1; omega
      have HW10 : Hid (Away B col R g P x10) := Lib.hid (HPL.out.1.fresh (Nat.le_of_eq hx10)); clear hx10 hz9; replace HB9 := Lib.hid (thn HB9.out hb); replace HA8 := hpl HA8 hb; replace HA9 := hpl HA9 hb; replace HA11 := hbl HA11 hb; replace HPL := Lib.hid (And.intro (HPL.out.1.later hb) HPL.out.2); have HA10 := HA10n; clear HA10n; refine hK2.out _ _ (s3b hHeld hb) (fun hHeld2 => ?_); clear hb; clear hK2 K2 hHeld
      have hHeld := hHeld2; clear hHeld2
      try simp only [Act.put, List.setIfInBounds_toArray, List.set_cons_zero, List.set_cons_succ]
      revert hHeld; revert HB9; revert HA8; revert HA9; revert HA10; revert HA11; revert hx8_9; revert hx8_10; revert hx8_11; revert hx9_10; revert hx9_11; revert hx10_11; revert HPL; revert HW8; revert HW9; revert HW10; revert HW11; revert x8; revert x9; revert x10; revert x11; revert B; revert lo; revert g; revert col; revert M; revert R; revert P; revert pg; revert pc; revert ws; revert u2; exact hS1_89ab.out
  · intro u ws pc pg P R M col g lo B x10 x9 x8 HW10 HW9 HW8 HPL hx9_10 hx8_10 hx8_9 HA10 HA9 HA8 HB9 hHeld
    refine wpAnyH_ready (rs := [3, 11]) (by kernel_rfl) (by simp) ?_; refine AllReadyH.cons rfl (fun K2 hK2 => ?_) (AllReadyH.cons rfl (fun K2 hK2 => ?_) AllReadyH.nil)
    all_goals go_simp
    · with_reducible refine Calls.mono (w37made sb sl _ HSB.out.1 HSB.out.2.1 HSB.out.2.2.1 HSB.out.2.2.2 (T3.out.later HB9.out)) ?_
      rintro e u2 ⟨B', lo', g', col', M', R', P', pg', pc', ws', rfl, hp0, hpa0, hB0, hb⟩; have HPLn : Hid (TWO v3.heap.size B lo g col M R P pg pc ws B' lo' g' col' M' R' P' pg' pc' ws' u2 s37b s37b ∧ (PaintIs sb sl ws ∧ PaintIs sb sl ws')) := Lib.hid (And.intro (TWO.mk' HPL.out.1 hb hp0 hB0 HPL.out.2.2 HB9.out.size) (And.intro HPL.out.2.1 hpa0)); clear HPL; have HPL := HPLn; clear HPLn; replace HW8 : Hid (Away B col R g P x8 ∧ Away B' col' R' g' P' x8) := Lib.hid ⟨HW8.out, .inl (Nat.lt_of_lt_of_le HA8.out.1.1 hB0)⟩
      replace HW9 : Hid (Away B col R g P x9 ∧ Away B' col' R' g' P' x9) := Lib.hid ⟨HW9.out, .inl (Nat.lt_of_lt_of_le HA9.out.1.1 hB0)⟩; replace HW10 : Hid (Away B col R g P x10 ∧ Away B' col' R' g' P' x10) := Lib.hid ⟨HW10.out, .inl (Nat.lt_of_lt_of_le HA10.out.1.1 hB0)⟩; clear hp0 hpa0 hB0; replace HB9 := Lib.hid (thn HB9.out hb); replace HA8 := hpl HA8 hb; replace HA9 := hpl HA9 hb; replace HA10 := hbl HA10 hb
      refine hK2.out _ _ (s3b hHeld hb) (fun hHeld2 => ?_); clear hb; clear hK2 K2 hHeld; have hHeld := hHeld2; clear hHeld2
      try simp only [Act.put, List.setIfInBounds_toArray, List.set_cons_zero, List.set_cons_succ]
      revert hHeld; revert HB9; revert HA8; revert HA9; revert HA10; revert hx8_9; revert hx8_10; revert hx9_10; revert HPL; revert HW8; revert HW9; revert HW10; revert x8; revert x9; revert x10; revert B; revert lo; revert g; revert col; revert M; revert R; revert P; revert pg; revert pc; revert ws; revert B'; revert lo'; revert g'; revert col'; revert M'; revert R'; revert P'; revert pg'; revert pc'; revert ws'
      revert u2; exact hS2_89a.out
    · obtain ⟨x11, u2, hx11, hw9, hz9, hb⟩ := cz_next u
      rw [hw9]
      try rw [hx11]
      clear hw9; have HA11n := Lib.hid (And.intro hz9 (show v3.heap.size ≤ x11 by have := HB9.out.size; omega))
      have hx8_11 : x8 ≠ x11 := by have h1 := HA8.out.1.1; omega
      have hx9_11 : x9 ≠ x11 := by have h1 := HA9.out.1.1; omega
      have hx10_11 : x10 ≠ x11 := by have h1 := HA10.out.1.1; omega
      have HW11 : Hid (Away B col R g P x11) := Lib.hid (HPL.out.1.fresh (Nat.le_of_eq hx11)); clear hx11 hz9; replace HB9 := Lib.hid (thn HB9.out hb); replace HA8 := hpl HA8 hb; replace HA9 := hpl HA9 hb; replace HA10 := hbl HA10 hb; replace HPL := Lib.hid (And.intro (HPL.out.1.later hb) HPL.out.2); have HA11 := HA11n; clear HA11n; refine hK2.out _ _ (s3b hHeld hb) (fun hHeld2 => ?_); clear hb; clear hK2 K2 hHeld
      have hHeld := hHeld2; clear hHeld2
      try simp only [Act.put, List.setIfInBounds_toArray, List.set_cons_zero, List.set_cons_succ]
      revert hHeld; revert HB9; revert HA8; revert HA9; revert HA10; revert HA11; revert hx8_9; revert hx8_10; revert hx8_11; revert hx9_10; revert hx9_11; revert hx10_11; revert HPL; revert HW8; revert HW9; revert HW10; revert HW11; revert x8; revert x9; revert x10; revert x11; revert B; revert lo; revert g; revert col; revert M; revert R; revert P; revert pg; revert pc; revert ws; revert u2; exact hS1_89ab.out
  · intro u ws' pc' pg' P' R' M' col' g' lo' B' ws pc pg P R M col g lo B x11 x10 HW11 HW10 HPL hx10_11 HA11 HA10 HB9 hHeld
    refine wpAnyH_ready (rs := [5, 8, 9]) (by kernel_rfl) (by simp) ?_; refine AllReadyH.cons rfl (fun K2 hK2 => ?_) (AllReadyH.cons rfl (fun K2 hK2 => ?_) (AllReadyH.cons rfl (fun K2 hK2 => ?_) AllReadyH.nil))
    all_goals go_simp
    · with_reducible refine Calls.mono (few37 b l c p t v _) ?_
      rintro e u2 ⟨b1, l1, c1, p1, t1, rfl, hq1, hb⟩; have HQ1 : Hid (FB37 b1 l1 c1 p1 t1) := Lib.hid hq1; clear hq1; replace HB9 := Lib.hid (thn HB9.out hb); replace HA10 := hbl HA10 hb; replace HA11 := hbl HA11 hb; replace HPL := Lib.hid (And.intro (HPL.out.1.later hb) HPL.out.2); refine hK2.out _ _ (s3b hHeld hb) (fun hHeld2 => ?_); clear hb; clear hK2 K2 hHeld; have hHeld := hHeld2; clear hHeld2
      try simp only [Act.put, List.setIfInBounds_toArray, List.set_cons_zero, List.set_cons_succ]
      revert hHeld; revert HB9; revert HA10; revert HA11; revert hx10_11; revert HPL; revert HW10; revert HW11; revert HQ1; revert x10; revert x11; revert B; revert lo; revert g; revert col; revert M; revert R; revert P; revert pg; revert pc; revert ws; revert B'; revert lo'; revert g'; revert col'; revert M'; revert R'; revert P'; revert pg'; revert pc'; revert ws'; revert b1; revert l1; revert c1; revert p1
      revert t1; revert u2; exact hS3_ab.out
    · obtain ⟨x8, u2, hx8, hw9, hz9, hb⟩ := pz_next u
      rw [hw9]
      try rw [hx8]
      clear hw9; have HA8n := Lib.hid (And.intro hz9 (show v3.heap.size ≤ x8 by have := HB9.out.size; omega))
      have hx8_10 : x8 ≠ x10 := by have h1 := HA10.out.1.1; omega
      have hx8_11 : x8 ≠ x11 := by have h1 := HA11.out.1.1; omega
      have HW8 := HPL.out.1.fr (Nat.le_of_eq hx8); clear hx8 hz9; replace HB9 := Lib.hid (thn HB9.out hb); replace HA10 := hbl HA10 hb; replace HA11 := hbl HA11 hb; replace HPL := Lib.hid (And.intro (HPL.out.1.later hb) HPL.out.2); have HA8 := HA8n; clear HA8n; refine hK2.out _ _ (s3b hHeld hb) (fun hHeld2 => ?_); clear hb; clear hK2 K2 hHeld; have hHeld := hHeld2; clear hHeld2
      try simp only [Act.put, List.setIfInBounds_toArray, List.set_cons_zero, List.set_cons_succ]
      revert hHeld; revert HB9; revert HA8; revert HA10; revert HA11; revert hx8_10; revert hx8_11; revert hx10_11; revert HPL; revert HW8; revert HW10; revert HW11; revert x8; revert x10; revert x11; revert B; revert lo; revert g; revert col; revert M; revert R; revert P; revert pg; revert pc; revert ws; revert B'; revert lo'; revert g'; revert col'; revert M'; revert R'; revert P'; revert pg'; revert pc'
      revert ws'; revert u2; exact hS2_8ab.out
    · obtain ⟨x9, u2, hx9, hw9, hz9, hb⟩ := pz_next u
      rw [hw9]
      try rw [hx9]
      clear hw9; have HA9n := Lib.hid (And.intro hz9 (show v3.heap.size ≤ x9 by have := HB9.out.size; omega))
      have hx9_10 : x9 ≠ x10 := by have h1 := HA10.out.1.1; omega
      have hx9_11 : x9 ≠ x11 := by have h1 := HA11.out.1.1; omega
      have HW9 := HPL.out.1.fr (Nat.le_of_eq hx9); clear hx9 hz9; replace HB9 := Lib.hid (thn HB9.out hb); replace HA10 := hbl HA10 hb; replace HA11 := hbl HA11 hb; replace HPL := Lib.hid (And.intro (HPL.out.1.later hb) HPL.out.2); have HA9 := HA9n; clear HA9n; refine hK2.out _ _ (s3b hHeld hb) (fun hHeld2 => ?_); clear hb; clear hK2 K2 hHeld; have hHeld := hHeld2; clear hHeld2
      try simp only [Act.put, List.setIfInBounds_toArray, List.set_cons_zero, List.set_cons_succ]
      revert hHeld; revert HB9; revert HA9; revert HA10; revert HA11; revert hx9_10; revert hx9_11; revert hx10_11; revert HPL; revert HW9; revert HW10; revert HW11; revert x9; revert x10; revert x11; revert B; revert lo; revert g; revert col; revert M; revert R; revert P; revert pg; revert pc; revert ws; revert B'; revert lo'; revert g'; revert col'; revert M'; revert R'; revert P'; revert pg'; revert pc'
      revert ws'; revert u2; exact hS2_9ab.out
  · intro u ws' pc' pg' P' R' M' col' g' lo' B' ws pc pg P R M col g lo B x11 x9 HW11 HW9 HPL hx9_11 HA11 HA9 HB9 hHeld
    refine wpAnyH_ready (rs := [5, 8, 10]) (by kernel_rfl) (by simp) ?_; refine AllReadyH.cons rfl (fun K2 hK2 => ?_) (AllReadyH.cons rfl (fun K2 hK2 => ?_) (AllReadyH.cons rfl (fun K2 hK2 => ?_) AllReadyH.nil))
    all_goals go_simp
    · with_reducible refine Calls.mono (few37 b l c p t v _) ?_
      rintro e u2 ⟨b1, l1, c1, p1, t1, rfl, hq1, hb⟩; have HQ1 : Hid (FB37 b1 l1 c1 p1 t1) := Lib.hid hq1; clear hq1; replace HB9 := Lib.hid (thn HB9.out hb); replace HA9 := hpl HA9 hb; replace HA11 := hbl HA11 hb; replace HPL := Lib.hid (And.intro (HPL.out.1.later hb) HPL.out.2); refine hK2.out _ _ (s3b hHeld hb) (fun hHeld2 => ?_); clear hb; clear hK2 K2 hHeld; have hHeld := hHeld2; clear hHeld2
      try simp only [Act.put, List.setIfInBounds_toArray, List.set_cons_zero, List.set_cons_succ]
      revert hHeld; revert HB9; revert HA9; revert HA11; revert hx9_11; revert HPL; revert HW9; revert HW11; revert HQ1; revert x9; revert x11; revert B; revert lo; revert g; revert col; revert M; revert R; revert P; revert pg; revert pc; revert ws; revert B'; revert lo'; revert g'; revert col'; revert M'; revert R'; revert P'; revert pg'; revert pc'; revert ws'; revert b1; revert l1; revert c1; revert p1
      revert t1; revert u2; exact hS3_9b.out
    · obtain ⟨x8, u2, hx8, hw9, hz9, hb⟩ := pz_next u
      rw [hw9]
      try rw [hx8]
      clear hw9; have HA8n := Lib.hid (And.intro hz9 (show v3.heap.size ≤ x8 by have := HB9.out.size; omega))
      have hx8_9 : x8 ≠ x9 := by have h1 := HA9.out.1.1; omega
      have hx8_11 : x8 ≠ x11 := by have h1 := HA11.out.1.1; omega
      have HW8 := HPL.out.1.fr (Nat.le_of_eq hx8); clear hx8 hz9; replace HB9 := Lib.hid (thn HB9.out hb); replace HA9 := hpl HA9 hb; replace HA11 := hbl HA11 hb; replace HPL := Lib.hid (And.intro (HPL.out.1.later hb) HPL.out.2); have HA8 := HA8n; clear HA8n; refine hK2.out _ _ (s3b hHeld hb) (fun hHeld2 => ?_); clear hb; clear hK2 K2 hHeld; have hHeld := hHeld2; clear hHeld2
      try simp only [Act.put, List.setIfInBounds_toArray, List.set_cons_zero, List.set_cons_succ]
      revert hHeld; revert HB9; revert HA8; revert HA9; revert HA11; revert hx8_9; revert hx8_11; revert hx9_11; revert HPL; revert HW8; revert HW9; revert HW11; revert x8; revert x9; revert x11; revert B; revert lo; revert g; revert col; revert M; revert R; revert P; revert pg; revert pc; revert ws; revert B'; revert lo'; revert g'; revert col'; revert M'; revert R'; revert P'; revert pg'; revert pc'; revert ws'
      revert u2; exact hS2_89b.out
    · obtain ⟨x10, u2, hx10, hw9, hz9, hb⟩ := cz_next u
      rw [hw9]
      try rw [hx10]
      clear hw9; have HA10n := Lib.hid (And.intro hz9 (show v3.heap.size ≤ x10 by have := HB9.out.size; omega))
      have hx9_10 : x9 ≠ x10 := by have h1 := HA9.out.1.1; omega
      have hx10_11 : x10 ≠ x11 := by have h1 := HA11.out.1.1; omega
      have HW10 := HPL.out.1.fr (Nat.le_of_eq hx10); clear hx10 hz9; replace HB9 := Lib.hid (thn HB9.out hb); replace HA9 := hpl HA9 hb; replace HA11 := hbl HA11 hb; replace HPL := Lib.hid (And.intro (HPL.out.1.later hb) HPL.out.2); have HA10 := HA10n; clear HA10n; refine hK2.out _ _ (s3b hHeld hb) (fun hHeld2 => ?_); clear hb; clear hK2 K2 hHeld; have hHeld := hHeld2; clear hHeld2
      try simp only [Act.put, List.setIfInBounds_toArray, List.set_cons_zero, List.set_cons_succ]
      revert hHeld; revert HB9; revert HA9; revert HA10; revert HA11; revert hx9_10; revert hx9_11; revert hx10_11; revert HPL; revert HW9; revert HW10; revert HW11; revert x9; revert x10; revert x11; revert B; revert lo; revert g; revert col; revert M; revert R; revert P; revert pg; revert pc; revert ws; revert B'; revert lo'; revert g'; revert col'; revert M'; revert R'; revert P'; revert pg'; revert pc'
      revert ws'; revert u2; exact hS2_9ab.out
  · intro u ws' pc' pg' P' R' M' col' g' lo' B' ws pc pg P R M col g lo B x10 x9 HW10 HW9 HPL hx9_10 HA10 HA9 HB9 hHeld
    refine wpAnyH_ready (rs := [5, 8, 11]) (by kernel_rfl) (by simp) ?_; refine AllReadyH.cons rfl (fun K2 hK2 => ?_) (AllReadyH.cons rfl (fun K2 hK2 => ?_) (AllReadyH.cons rfl (fun K2 hK2 => ?_) AllReadyH.nil))
    all_goals go_simp
    · with_reducible refine Calls.mono (few37 b l c p t v _) ?_
      rintro e u2 ⟨b1, l1, c1, p1, t1, rfl, hq1, hb⟩; have HQ1 : Hid (FB37 b1 l1 c1 p1 t1) := Lib.hid hq1; clear hq1; replace HB9 := Lib.hid (thn HB9.out hb); replace HA9 := hpl HA9 hb; replace HA10 := hbl HA10 hb; replace HPL := Lib.hid (And.intro (HPL.out.1.later hb) HPL.out.2); refine hK2.out _ _ (s3b hHeld hb) (fun hHeld2 => ?_); clear hb; clear hK2 K2 hHeld; have hHeld := hHeld2; clear hHeld2
      try simp only [Act.put, List.setIfInBounds_toArray, List.set_cons_zero, List.set_cons_succ]
      revert hHeld; revert HB9; revert HA9; revert HA10; revert hx9_10; revert HPL; revert HW9; revert HW10; revert HQ1; revert x9; revert x10; revert B; revert lo; revert g; revert col; revert M; revert R; revert P; revert pg; revert pc; revert ws; revert B'; revert lo'; revert g'; revert col'; revert M'; revert R'; revert P'; revert pg'; revert pc'; revert ws'; revert b1; revert l1; revert c1; revert p1
      revert t1; revert u2; exact hS3_9a.out
    · obtain ⟨x8, u2, hx8, hw9, hz9, hb⟩ := pz_next u
      rw [hw9]
      try rw [hx8]
      clear hw9; have HA8n := Lib.hid (And.intro hz9 (show v3.heap.size ≤ x8 by have := HB9.out.size; omega))
      have hx8_9 : x8 ≠ x9 := by have h1 := HA9.out.1.1; omega
      have hx8_10 : x8 ≠ x10 := by have h1 := HA10.out.1.1; omega
      have HW8 := HPL.out.1.fr (Nat.le_of_eq hx8); clear hx8 hz9; replace HB9 := Lib.hid (thn HB9.out hb); replace HA9 := hpl HA9 hb; replace HA10 := hbl HA10 hb; replace HPL := Lib.hid (And.intro (HPL.out.1.later hb) HPL.out.2); have HA8 := HA8n; clear HA8n; refine hK2.out _ _ (s3b hHeld hb) (fun hHeld2 => ?_); clear hb; clear hK2 K2 hHeld; have hHeld := hHeld2; clear hHeld2
      try simp only [Act.put, List.setIfInBounds_toArray, List.set_cons_zero, List.set_cons_succ]
      revert hHeld; revert HB9; revert HA8; revert HA9; revert HA10; revert hx8_9; revert hx8_10; revert hx9_10; revert HPL; revert HW8; revert HW9; revert HW10; revert x8; revert x9; revert x10; revert B; revert lo; revert g; revert col; revert M; revert R; revert P; revert pg; revert pc; revert ws; revert B'; revert lo'; revert g'; revert col'; revert M'; revert R'; revert P'; revert pg'; revert pc'; revert ws'
      revert u2; exact hS2_89a.out
    · obtain ⟨x11, u2, hx11, hw9, hz9, hb⟩ := cz_next u
      rw [hw9]
      try rw [hx11]
      clear hw9; have HA11n := Lib.hid (And.intro hz9 (show v3.heap.size ≤ x11 by have := HB9.out.size; omega))
      have hx9_11 : x9 ≠ x11 := by have h1 := HA9.out.1.1; omega
      have hx10_11 : x10 ≠ x11 := by have h1 := HA10.out.1.1; omega
      have HW11 := HPL.out.1.fr (Nat.le_of_eq hx11); clear hx11 hz9; replace HB9 := Lib.hid (thn HB9.out hb); replace HA9 := hpl HA9 hb; replace HA10 := hbl HA10 hb; replace HPL := Lib.hid (And.intro (HPL.out.1.later hb) HPL.out.2); have HA11 := HA11n; clear HA11n; refine hK2.out _ _ (s3b hHeld hb) (fun hHeld2 => ?_); clear hb; clear hK2 K2 hHeld; have hHeld := hHeld2; clear hHeld2
      try simp only [Act.put, List.setIfInBounds_toArray, List.set_cons_zero, List.set_cons_succ]
      revert hHeld; revert HB9; revert HA9; revert HA10; revert HA11; revert hx9_10; revert hx9_11; revert hx10_11; revert HPL; revert HW9; revert HW10; revert HW11; revert x9; revert x10; revert x11; revert B; revert lo; revert g; revert col; revert M; revert R; revert P; revert pg; revert pc; revert ws; revert B'; revert lo'; revert g'; revert col'; revert M'; revert R'; revert P'; revert pg'; revert pc'
      revert ws'; revert u2; exact hS2_9ab.out
  · intro u ws' pc' pg' P' R' M' col' g' lo' B' ws pc pg P R M col g lo B x11 x8 HW11 HW8 HPL hx8_11 HA11 HA8 HB9 hHeld
    refine wpAnyH_ready (rs := [5, 9, 10]) (by kernel_rfl) (by simp) ?_; refine AllReadyH.cons rfl (fun K2 hK2 => ?_) (AllReadyH.cons rfl (fun K2 hK2 => ?_) (AllReadyH.cons rfl (fun K2 hK2 => ?_) AllReadyH.nil))
    all_goals go_simp
    · with_reducible refine Calls.mono (few37 b l c p t v _) ?_
      rintro e u2 ⟨b1, l1, c1, p1, t1, rfl, hq1, hb⟩; have HQ1 : Hid (FB37 b1 l1 c1 p1 t1) := Lib.hid hq1; clear hq1; replace HB9 := Lib.hid (thn HB9.out hb); replace HA8 := hpl HA8 hb; replace HA11 := hbl HA11 hb; replace HPL := Lib.hid (And.intro (HPL.out.1.later hb) HPL.out.2); refine hK2.out _ _ (s3b hHeld hb) (fun hHeld2 => ?_); clear hb; clear hK2 K2 hHeld; have hHeld := hHeld2; clear hHeld2
      try simp only [Act.put, List.setIfInBounds_toArray, List.set_cons_zero, List.set_cons_succ]
      revert hHeld; revert HB9; revert HA8; revert HA11; revert hx8_11; revert HPL; revert HW8; revert HW11; revert HQ1; revert x8; revert x11; revert B; revert lo; revert g; revert col; revert M; revert R; revert P; revert pg; revert pc; revert ws; revert B'; revert lo'; revert g'; revert col'; revert M'; revert R'; revert P'; revert pg'; revert pc'; revert ws'; revert b1; revert l1; revert c1; revert p1
      revert t1; revert u2; exact hS3_8b.out
    · obtain ⟨x9, u2, hx9, hw9, hz9, hb⟩ := pz_next u
      rw [hw9]
      try rw [hx9]
      clear hw9; have HA9n := Lib.hid (And.intro hz9 (show v3.heap.size ≤ x9 by have := HB9.out.size; omega))
      have hx8_9 : x8 ≠ x9 := by have h1 := HA8.out.1.1; omega
      have hx9_11 : x9 ≠ x11 := by have h1 := HA11.out.1.1; omega
      have HW9 := HPL.out.1.fr (Nat.le_of_eq hx9); clear hx9 hz9; replace HB9 := Lib.hid (thn HB9.out hb); replace HA8 := hpl HA8 hb; replace HA11 := hbl HA11 hb; replace HPL := Lib.hid (And.intro (HPL.out.1.later hb) HPL.out.2); have HA9 := HA9n; clear HA9n; refine hK2.out _ _ (s3b hHeld hb) (fun hHeld2 => ?_); clear hb; clear hK2 K2 hHeld; have hHeld := hHeld2; clear hHeld2
      try simp only [Act.put, List.setIfInBounds_toArray, List.set_cons_zero, List.set_cons_succ]
      revert hHeld; revert HB9; revert HA8; revert HA9; revert HA11; revert hx8_9; revert hx8_11; revert hx9_11; revert HPL; revert HW8; revert HW9; revert HW11; revert x8; revert x9; revert x11; revert B; revert lo; revert g; revert col; revert M; revert R; revert P; revert pg; revert pc; revert ws; revert B'; revert lo'; revert g'; revert col'; revert M'; revert R'; revert P'; revert pg'; revert pc'; revert ws'
      revert u2; exact hS2_89b.out
    · obtain ⟨x10, u2, hx10, hw9, hz9, hb⟩ := cz_next u
      rw [hw9]
      try rw [hx10]
      clear hw9; have HA10n := Lib.hid (And.intro hz9 (show v3.heap.size ≤ x10 by have := HB9.out.size; omega))
      have hx8_10 : x8 ≠ x10 := by have h1 := HA8.out.1.1; omega
      have hx10_11 : x10 ≠ x11 := by have h1 := HA11.out.1.1; omega
      have HW10 := HPL.out.1.fr (Nat.le_of_eq hx10); clear hx10 hz9; replace HB9 := Lib.hid (thn HB9.out hb); replace HA8 := hpl HA8 hb; replace HA11 := hbl HA11 hb; replace HPL := Lib.hid (And.intro (HPL.out.1.later hb) HPL.out.2); have HA10 := HA10n; clear HA10n; refine hK2.out _ _ (s3b hHeld hb) (fun hHeld2 => ?_); clear hb; clear hK2 K2 hHeld; have hHeld := hHeld2; clear hHeld2
      try simp only [Act.put, List.setIfInBounds_toArray, List.set_cons_zero, List.set_cons_succ]
      revert hHeld; revert HB9; revert HA8; revert HA10; revert HA11; revert hx8_10; revert hx8_11; revert hx10_11; revert HPL; revert HW8; revert HW10; revert HW11; revert x8; revert x10; revert x11; revert B; revert lo; revert g; revert col; revert M; revert R; revert P; revert pg; revert pc; revert ws; revert B'; revert lo'; revert g'; revert col'; revert M'; revert R'; revert P'; revert pg'; revert pc'
      revert ws'; revert u2; exact hS2_8ab.out
  · intro u ws' pc' pg' P' R' M' col' g' lo' B' ws pc pg P R M col g lo B x10 x8 HW10 HW8 HPL hx8_10 HA10 HA8 HB9 hHeld
    refine wpAnyH_ready (rs := [5, 9, 11]) (by kernel_rfl) (by simp) ?_; refine AllReadyH.cons rfl (fun K2 hK2 => ?_) (AllReadyH.cons rfl (fun K2 hK2 => ?_) (AllReadyH.cons rfl (fun K2 hK2 => ?_) AllReadyH.nil))
    all_goals go_simp
    · with_reducible refine Calls.mono (few37 b l c p t v _) ?_
      rintro e u2 ⟨b1, l1, c1, p1, t1, rfl, hq1, hb⟩; have HQ1 : Hid (FB37 b1 l1 c1 p1 t1) := Lib.hid hq1; clear hq1; replace HB9 := Lib.hid (thn HB9.out hb); replace HA8 := hpl HA8 hb; replace HA10 := hbl HA10 hb; replace HPL := Lib.hid (And.intro (HPL.out.1.later hb) HPL.out.2); refine hK2.out _ _ (s3b hHeld hb) (fun hHeld2 => ?_); clear hb; clear hK2 K2 hHeld; have hHeld := hHeld2; clear hHeld2
      try simp only [Act.put, List.setIfInBounds_toArray, List.set_cons_zero, List.set_cons_succ]
      revert hHeld; revert HB9; revert HA8; revert HA10; revert hx8_10; revert HPL; revert HW8; revert HW10; revert HQ1; revert x8; revert x10; revert B; revert lo; revert g; revert col; revert M; revert R; revert P; revert pg; revert pc; revert ws; revert B'; revert lo'; revert g'; revert col'; revert M'; revert R'; revert P'; revert pg'; revert pc'; revert ws'; revert b1; revert l1; revert c1; revert p1
      revert t1; revert u2; exact hS3_8a.out
    · obtain ⟨x9, u2, hx9, hw9, hz9, hb⟩ := pz_next u
      rw [hw9]
      try rw [hx9]
      clear hw9; have HA9n := Lib.hid (And.intro hz9 (show v3.heap.size ≤ x9 by have := HB9.out.size; omega))
      have hx8_9 : x8 ≠ x9 := by have h1 := HA8.out.1.1; omega
      have hx9_10 : x9 ≠ x10 := by have h1 := HA10.out.1.1; omega
      have HW9 := HPL.out.1.fr (Nat.le_of_eq hx9); clear hx9 hz9; replace HB9 := Lib.hid (thn HB9.out hb); replace HA8 := hpl HA8 hb; replace HA10 := hbl HA10 hb; replace HPL := Lib.hid (And.intro (HPL.out.1.later hb) HPL.out.2); have HA9 := HA9n; clear HA9n; refine hK2.out _ _ (s3b hHeld hb) (fun hHeld2 => ?_); clear hb; clear hK2 K2 hHeld; have hHeld := hHeld2; clear hHeld2
      try simp only [Act.put, List.setIfInBounds_toArray, List.set_cons_zero, List.set_cons_succ]
      revert hHeld; revert HB9; revert HA8; revert HA9; revert HA10; revert hx8_9; revert hx8_10; revert hx9_10; revert HPL; revert HW8; revert HW9; revert HW10; revert x8; revert x9; revert x10; revert B; revert lo; revert g; revert col; revert M; revert R; revert P; revert pg; revert pc; revert ws; revert B'; revert lo'; revert g'; revert col'; revert M'; revert R'; revert P'; revert pg'; revert pc'; revert ws'
      revert u2; exact hS2_89a.out
    · obtain ⟨x11, u2, hx11, hw9, hz9, hb⟩ := cz_next u
      rw [hw9]
      try rw [hx11]
      clear hw9; have HA11n := Lib.hid (And.intro hz9 (show v3.heap.size ≤ x11 by have := HB9.out.size; omega))
      have hx8_11 : x8 ≠ x11 := by have h1 := HA8.out.1.1; omega
      have hx10_11 : x10 ≠ x11 := by have h1 := HA10.out.1.1; omega
      have HW11 := HPL.out.1.fr (Nat.le_of_eq hx11); clear hx11 hz9; replace HB9 := Lib.hid (thn HB9.out hb); replace HA8 := hpl HA8 hb; replace HA10 := hbl HA10 hb; replace HPL := Lib.hid (And.intro (HPL.out.1.later hb) HPL.out.2); have HA11 := HA11n; clear HA11n; refine hK2.out _ _ (s3b hHeld hb) (fun hHeld2 => ?_); clear hb; clear hK2 K2 hHeld; have hHeld := hHeld2; clear hHeld2
      try simp only [Act.put, List.setIfInBounds_toArray, List.set_cons_zero, List.set_cons_succ]
      revert hHeld; revert HB9; revert HA8; revert HA10; revert HA11; revert hx8_10; revert hx8_11; revert hx10_11; revert HPL; revert HW8; revert HW10; revert HW11; revert x8; revert x10; revert x11; revert B; revert lo; revert g; revert col; revert M; revert R; revert P; revert pg; revert pc; revert ws; revert B'; revert lo'; revert g'; revert col'; revert M'; revert R'; revert P'; revert pg'; revert pc'
      revert ws'; revert u2; exact hS2_8ab.out
  · intro u ws' pc' pg' P' R' M' col' g' lo' B' ws pc pg P R M col g lo B x9 x8 HW9 HW8 HPL hx8_9 HA9 HA8 HB9 hHeld
    refine wpAnyH_ready (rs := [5, 10, 11]) (by kernel_rfl) (by simp) ?_; refine AllReadyH.cons rfl (fun K2 hK2 => ?_) (AllReadyH.cons rfl (fun K2 hK2 => ?_) (AllReadyH.cons rfl (fun K2 hK2 => ?_) AllReadyH.nil))
    all_goals go_simp
    · with_reducible refine Calls.mono (few37 b l c p t v _) ?_
      rintro e u2 ⟨b1, l1, c1, p1, t1, rfl, hq1, hb⟩; have HQ1 : Hid (FB37 b1 l1 c1 p1 t1) := Lib.hid hq1; clear hq1; replace HB9 := Lib.hid (thn HB9.out hb); replace HA8 := hpl HA8 hb; replace HA9 := hpl HA9 hb; replace HPL := Lib.hid (And.intro (HPL.out.1.later hb) HPL.out.2); refine hK2.out _ _ (s3b hHeld hb) (fun hHeld2 => ?_); clear hb; clear hK2 K2 hHeld; have hHeld := hHeld2; clear hHeld2
      try simp only [Act.put, List.setIfInBounds_toArray, List.set_cons_zero, List.set_cons_succ]
      revert hHeld; revert HB9; revert HA8; revert HA9; revert hx8_9; revert HPL; revert HW8; revert HW9; revert HQ1; revert x8; revert x9; revert B; revert lo; revert g; revert col; revert M; revert R; revert P; revert pg; revert pc; revert ws; revert B'; revert lo'; revert g'; revert col'; revert M'; revert R'; revert P'; revert pg'; revert pc'; revert ws'; revert b1; revert l1; revert c1; revert p1; revert t1
      revert u2; exact hS3_89.out
    · obtain ⟨x10, u2, hx10, hw9, hz9, hb⟩ := cz_next u
      rw [hw9]
      try rw [hx10]
      clear hw9; have HA10n := Lib.hid (And.intro hz9 (show v3.heap.size ≤ x10 by have := HB9.out.size; omega))
      have hx8_10 : x8 ≠ x10 := by have h1 := HA8.out.1.1; omega
      have hx9_10 : x9 ≠ x10 := by have h1 := HA9.out.1.1; omega
      have HW10 := HPL.out.1.fr (Nat.le_of_eq hx10); clear hx10 hz9; replace HB9 := Lib.hid (thn HB9.out hb); replace HA8 := hpl HA8 hb; replace HA9 := hpl HA9 hb; replace HPL := Lib.hid (And.intro (HPL.out.1.later hb) HPL.out.2); have HA10 := HA10n; clear HA10n; refine hK2.out _ _ (s3b hHeld hb) (fun hHeld2 => ?_); clear hb; clear hK2 K2 hHeld; have hHeld := hHeld2; clear hHeld2
      try simp only [Act.put, List.setIfInBounds_toArray, List.set_cons_zero, List.set_cons_succ]
      revert hHeld; revert HB9; revert HA8; revert HA9; revert HA10; revert hx8_9; revert hx8_10; revert hx9_10; revert HPL; revert HW8; revert HW9; revert HW10; revert x8; revert x9; revert x10; revert B; revert lo; revert g; revert col; revert M; revert R; revert P; revert pg; revert pc; revert ws; revert B'; revert lo'; revert g'; revert col'; revert M'; revert R'; revert P'; revert pg'; revert pc'; revert ws'
      revert u2; exact hS2_89a.out
    · obtain ⟨x11, u2, hx11, hw9, hz9, hb⟩ := cz_next u
      rw [hw9]
      try rw [hx11]
      clear hw9; have HA11n := Lib.hid (And.intro hz9 (show v3.heap.size ≤ x11 by have := HB9.out.size; omega))
      have hx8_11 : x8 ≠ x11 := by have h1 := HA8.out.1.1; omega
      have hx9_11 : x9 ≠ x11 := by have h1 := HA9.out.1.1; omega
      have HW11 := HPL.out.1.fr (Nat.le_of_eq hx11); clear hx11 hz9; replace HB9 := Lib.hid (thn HB9.out hb); replace HA8 := hpl HA8 hb; replace HA9 := hpl HA9 hb; replace HPL := Lib.hid (And.intro (HPL.out.1.later hb) HPL.out.2); have HA11 := HA11n; clear HA11n; refine hK2.out _ _ (s3b hHeld hb) (fun hHeld2 => ?_); clear hb; clear hK2 K2 hHeld; have hHeld := hHeld2; clear hHeld2
      try simp only [Act.put, List.setIfInBounds_toArray, List.set_cons_zero, List.set_cons_succ]
      revert hHeld; revert HB9; revert HA8; revert HA9; revert HA11; revert hx8_9; revert hx8_11; revert hx9_11; revert HPL; revert HW8; revert HW9; revert HW11; revert x8; revert x9; revert x11; revert B; revert lo; revert g; revert col; revert M; revert R; revert P; revert pg; revert pc; revert ws; revert B'; revert lo'; revert g'; revert col'; revert M'; revert R'; revert P'; revert pg'; revert pc'; revert ws'
      revert u2; exact hS2_89b.out
  · intro u t1 p1 c1 l1 b1 ws' pc' pg' P' R' M' col' g' lo' B' ws pc pg P R M col g lo B x11 HQ1 HW11 HPL HA11 HB9 hHeld
    refine wpAnyH_ready (rs := [7, 8, 9, 10]) (by kernel_rfl) (by simp) ?_; refine AllReadyH.cons rfl (fun K2 hK2 => ?_) (AllReadyH.cons rfl (fun K2 hK2 => ?_) (AllReadyH.cons rfl (fun K2 hK2 => ?_) (AllReadyH.cons rfl (fun K2 hK2 => ?_) AllReadyH.nil)))
    all_goals go_simp
    · with_reducible refine Calls.mono (few37 b' l' c' p' t' v' _) ?_
      rintro e u2 ⟨b2, l2, c2, p2, t2, rfl, hq2, hb⟩; have HQ2 : Hid (FB37 b2 l2 c2 p2 t2) := Lib.hid hq2; clear hq2; replace HB9 := Lib.hid (thn HB9.out hb); replace HA11 := hbl HA11 hb; replace HPL := Lib.hid (And.intro (HPL.out.1.later hb) HPL.out.2); refine hK2.out _ _ (s3b hHeld hb) (fun hHeld2 => ?_); clear hb; clear hK2 K2 hHeld; have hHeld := hHeld2; clear hHeld2
      try simp only [Act.put, List.setIfInBounds_toArray, List.set_cons_zero, List.set_cons_succ]
      revert hHeld; revert HB9; revert HA11; revert HPL; revert HW11; revert HQ1; revert HQ2; revert x11; revert B; revert lo; revert g; revert col; revert M; revert R; revert P; revert pg; revert pc; revert ws; revert B'; revert lo'; revert g'; revert col'; revert M'; revert R'; revert P'; revert pg'; revert pc'; revert ws'; revert b1; revert l1; revert c1; revert p1; revert t1; revert b2; revert l2; revert c2
      revert p2; revert t2; revert u2; exact hS4_b.out
    · obtain ⟨x8, u2, hx8, hw9, hz9, hb⟩ := pz_next u
      rw [hw9]
      try rw [hx8]
      clear hw9; have HA8n := Lib.hid (And.intro hz9 (show v3.heap.size ≤ x8 by have := HB9.out.size; omega))
      have hx8_11 : x8 ≠ x11 := by have h1 := HA11.out.1.1; omega
      have HW8 := HPL.out.1.fr (Nat.le_of_eq hx8); clear hx8 hz9; replace HB9 := Lib.hid (thn HB9.out hb); replace HA11 := hbl HA11 hb; replace HPL := Lib.hid (And.intro (HPL.out.1.later hb) HPL.out.2); have HA8 := HA8n; clear HA8n; refine hK2.out _ _ (s3b hHeld hb) (fun hHeld2 => ?_); clear hb; clear hK2 K2 hHeld; have hHeld := hHeld2; clear hHeld2
      try simp only [Act.put, List.setIfInBounds_toArray, List.set_cons_zero, List.set_cons_succ]
      revert hHeld; revert HB9; revert HA8; revert HA11; revert hx8_11; revert HPL; revert HW8; revert HW11; revert HQ1; revert x8; revert x11; revert B; revert lo; revert g; revert col; revert M; revert R; revert P; revert pg; revert pc; revert ws; revert B'; revert lo'; revert g'; revert col'; revert M'; revert R'; revert P'; revert pg'; revert pc'; revert ws'; revert b1; revert l1; revert c1; revert p1
      revert t1; revert u2; exact hS3_8b.out
    · obtain ⟨x9, u2, hx9, hw9, hz9, hb⟩ := pz_next u
      rw [hw9]
      try rw [hx9]
      clear hw9; have HA9n := Lib.hid (And.intro hz9 (show v3.heap.size ≤ x9 by have := HB9.out.size; omega))
      have hx9_11 : x9 ≠ x11 := by have h1 := HA11.out.1.1; omega
      have HW9 := HPL.out.1.fr (Nat.le_of_eq hx9); clear hx9 hz9; replace HB9 := Lib.hid (thn HB9.out hb); replace HA11 := hbl HA11 hb; replace HPL := Lib.hid (And.intro (HPL.out.1.later hb) HPL.out.2); have HA9 := HA9n; clear HA9n; refine hK2.out _ _ (s3b hHeld hb) (fun hHeld2 => ?_); clear hb; clear hK2 K2 hHeld; have hHeld := hHeld2; clear hHeld2
      try simp only [Act.put, List.setIfInBounds_toArray, List.set_cons_zero, List.set_cons_succ]
      revert hHeld; revert HB9; revert HA9; revert HA11; revert hx9_11; revert HPL; revert HW9; revert HW11; revert HQ1; revert x9; revert x11; revert B; revert lo; revert g; revert col; revert M; revert R; revert P; revert pg; revert pc; revert ws; revert B'; revert lo'; revert g'; revert col'; revert M'; revert R'; revert P'; revert pg'; revert pc'; revert ws'; revert b1; revert l1; revert c1; revert p1
      revert t1; revert u2; exact hS3_9b.out
    · obtain ⟨x10, u2, hx10, hw9, hz9, hb⟩ := cz_next u
      rw [hw9]
      try rw [hx10]
      clear hw9; have HA10n := Lib.hid (And.intro hz9 (show v3.heap.size ≤ x10 by have := HB9.out.size; omega))
      have hx10_11 : x10 ≠ x11 := by have h1 := HA11.out.1.1; omega
      have HW10 := HPL.out.1.fr (Nat.le_of_eq hx10); clear hx10 hz9; replace HB9 := Lib.hid (thn HB9.out hb); replace HA11 := hbl HA11 hb; replace HPL := Lib.hid (And.intro (HPL.out.1.later hb) HPL.out.2); have HA10 := HA10n; clear HA10n; refine hK2.out _ _ (s3b hHeld hb) (fun hHeld2 => ?_); clear hb; clear hK2 K2 hHeld; have hHeld := hHeld2; clear hHeld2
      try simp only [Act.put, List.setIfInBounds_toArray, List.set_cons_zero, List.set_cons_succ]
      revert hHeld; revert HB9; revert HA10; revert HA11; revert hx10_11; revert HPL; revert HW10; revert HW11; revert HQ1; revert x10; revert x11; revert B; revert lo; revert g; revert col; revert M; revert R; revert P; revert pg; revert pc; revert ws; revert B'; revert lo'; revert g'; revert col'; revert M'; revert R'; revert P'; revert pg'; revert pc'; revert ws'; revert b1; revert l1; revert c1; revert p1
      revert t1; revert u2; exact hS3_ab.out
  · intro u t1 p1 c1 l1 b1 ws' pc' pg' P' R' M' col' g' lo' B' ws pc pg P R M col g lo B x10 HQ1 HW10 HPL HA10 HB9 hHeld
    refine wpAnyH_ready (rs := [7, 8, 9, 11]) (by kernel_rfl) (by simp) ?_; refine AllReadyH.cons rfl (fun K2 hK2 => ?_) (AllReadyH.cons rfl (fun K2 hK2 => ?_) (AllReadyH.cons rfl (fun K2 hK2 => ?_) (AllReadyH.cons rfl (fun K2 hK2 => ?_) AllReadyH.nil)))
    all_goals go_simp
    · with_reducible refine Calls.mono (few37 b' l' c' p' t' v' _) ?_
      rintro e u2 ⟨b2, l2, c2, p2, t2, rfl, hq2, hb⟩; have HQ2 : Hid (FB37 b2 l2 c2 p2 t2) := Lib.hid hq2; clear hq2; replace HB9 := Lib.hid (thn HB9.out hb); replace HA10 := hbl HA10 hb; replace HPL := Lib.hid (And.intro (HPL.out.1.later hb) HPL.out.2); refine hK2.out _ _ (s3b hHeld hb) (fun hHeld2 => ?_); clear hb; clear hK2 K2 hHeld; have hHeld := hHeld2; clear hHeld2
      try simp only [Act.put, List.setIfInBounds_toArray, List.set_cons_zero, List.set_cons_succ]
      revert hHeld; revert HB9; revert HA10; revert HPL; revert HW10; revert HQ1; revert HQ2; revert x10; revert B; revert lo; revert g; revert col; revert M; revert R; revert P; revert pg; revert pc; revert ws; revert B'; revert lo'; revert g'; revert col'; revert M'; revert R'; revert P'; revert pg'; revert pc'; revert ws'; revert b1; revert l1; revert c1; revert p1; revert t1; revert b2; revert l2; revert c2
      revert p2; revert t2; revert u2; exact hS4_a.out
    · obtain ⟨x8, u2, hx8, hw9, hz9, hb⟩ := pz_next u
      rw [hw9]
      try rw [hx8]
      clear hw9; have HA8n := Lib.hid (And.intro hz9 (show v3.heap.size ≤ x8 by have := HB9.out.size; omega))
      have hx8_10 : x8 ≠ x10 := by have h1 := HA10.out.1.1; omega
      have HW8 := HPL.out.1.fr (Nat.le_of_eq hx8); clear hx8 hz9; replace HB9 := Lib.hid (thn HB9.out hb); replace HA10 := hbl HA10 hb; replace HPL := Lib.hid (And.intro (HPL.out.1.later hb) HPL.out.2); have HA8 := HA8n; clear HA8n; refine hK2.out _ _ (s3b hHeld hb) (fun hHeld2 => ?_); clear hb; clear hK2 K2 hHeld; have hHeld := hHeld2; clear hHeld2
      try simp only [Act.put, List.setIfInBounds_toArray, List.set_cons_zero, List.set_cons_succ]
      revert hHeld; revert HB9; revert HA8; revert HA10; revert hx8_10; revert HPL; revert HW8; revert HW10; revert HQ1; revert x8; revert x10; revert B; revert lo; revert g; revert col; revert M; revert R; revert P; revert pg; revert pc; revert ws; revert B'; revert lo'; revert g'; revert col'; revert M'; revert R'; revert P'; revert pg'; revert pc'; revert ws'; revert b1; revert l1; revert c1; revert p1
      revert t1; revert u2; exact hS3_8a.out
    · obtain ⟨x9, u2, hx9, hw9, hz9, hb⟩ := pz_next u
      rw [hw9]
      try rw [hx9]
      clear hw9; have HA9n := Lib.hid (And.intro hz9 (show v3.heap.size ≤ x9 by have := HB9.out.size; omega))
      have hx9_10 : x9 ≠ x10 := by have h1 := HA10.out.1.1; omega
      have HW9 := HPL.out.1.fr (Nat.le_of_eq hx9); clear hx9 hz9; replace HB9 := Lib.hid (thn HB9.out hb); replace HA10 := hbl HA10 hb; replace HPL := Lib.hid (And.intro (HPL.out.1.later hb) HPL.out.2); have HA9 := HA9n; clear HA9n; refine hK2.out _ _ (s3b hHeld hb) (fun hHeld2 => ?_); clear hb; clear hK2 K2 hHeld; have hHeld := hHeld2; clear hHeld2
      try simp only [Act.put, List.setIfInBounds_toArray, List.set_cons_zero, List.set_cons_succ]
      revert hHeld; revert HB9; revert HA9; revert HA10; revert hx9_10; revert HPL; revert HW9; revert HW10; revert HQ1; revert x9; revert x10; revert B; revert lo; revert g; revert col; revert M; revert R; revert P; revert pg; revert pc; revert ws; revert B'; revert lo'; revert g'; revert col'; revert M'; revert R'; revert P'; revert pg'; revert pc'; revert ws'; revert b1; revert l1; revert c1; revert p1
      revert t1; revert u2; exact hS3_9a.out
    · obtain ⟨x11, u2, hx11, hw9, hz9, hb⟩ := cz_next u
      rw [hw9]
      try rw [hx11]
      clear hw9; have HA11n := Lib.hid (And.intro hz9 (show v3.heap.size ≤ x11 by have := HB9.out.size; omega))
      have hx10_11 : x10 ≠ x11 := by have h1 := HA10.out.1.1; omega
      have HW11 := HPL.out.1.fr (Nat.le_of_eq hx11); clear hx11 hz9; replace HB9 := Lib.hid (thn HB9.out hb); replace HA10 := hbl HA10 hb; replace HPL := Lib.hid (And.intro (HPL.out.1.later hb) HPL.out.2); have HA11 := HA11n; clear HA11n; refine hK2.out _ _ (s3b hHeld hb) (fun hHeld2 => ?_); clear hb; clear hK2 K2 hHeld; have hHeld := hHeld2; clear hHeld2
      try simp only [Act.put, List.setIfInBounds_toArray, List.set_cons_zero, List.set_cons_succ]
      revert hHeld; revert HB9; revert HA10; revert HA11; revert hx10_11; revert HPL; revert HW10; revert HW11; revert HQ1; revert x10; revert x11; revert B; revert lo; revert g; revert col; revert M; revert R; revert P; revert pg; revert pc; revert ws; revert B'; revert lo'; revert g'; revert col'; revert M'; revert R'; revert P'; revert pg'; revert pc'; revert ws'; revert b1; revert l1; revert c1; revert p1
      revert t1; revert u2; exact hS3_ab.out
  · intro u t1 p1 c1 l1 b1 ws' pc' pg' P' R' M' col' g' lo' B' ws pc pg P R M col g lo B x9 HQ1 HW9 HPL HA9 HB9 hHeld
    refine wpAnyH_ready (rs := [7, 8, 10, 11]) (by kernel_rfl) (by simp) ?_; refine AllReadyH.cons rfl (fun K2 hK2 => ?_) (AllReadyH.cons rfl (fun K2 hK2 => ?_) (AllReadyH.cons rfl (fun K2 hK2 => ?_) (AllReadyH.cons rfl (fun K2 hK2 => ?_) AllReadyH.nil)))
    all_goals go_simp
    · with_reducible refine Calls.mono (few37 b' l' c' p' t' v' _) ?_
      rintro e u2 ⟨b2, l2, c2, p2, t2, rfl, hq2, hb⟩; have HQ2 : Hid (FB37 b2 l2 c2 p2 t2) := Lib.hid hq2; clear hq2; replace HB9 := Lib.hid (thn HB9.out hb); replace HA9 := hpl HA9 hb; replace HPL := Lib.hid (And.intro (HPL.out.1.later hb) HPL.out.2); refine hK2.out _ _ (s3b hHeld hb) (fun hHeld2 => ?_); clear hb; clear hK2 K2 hHeld; have hHeld := hHeld2; clear hHeld2
      try simp only [Act.put, List.setIfInBounds_toArray, List.set_cons_zero, List.set_cons_succ]
      revert hHeld; revert HB9; revert HA9; revert HPL; revert HW9; revert HQ1; revert HQ2; revert x9; revert B; revert lo; revert g; revert col; revert M; revert R; revert P; revert pg; revert pc; revert ws; revert B'; revert lo'; revert g'; revert col'; revert M'; revert R'; revert P'; revert pg'; revert pc'; revert ws'; revert b1; revert l1; revert c1; revert p1; revert t1; revert b2; revert l2; revert c2
      revert p2; revert t2; revert u2; exact hS4_9.out
    · obtain ⟨x8, u2, hx8, hw9, hz9, hb⟩ := pz_next u
      rw [hw9]
      try rw [hx8]
      clear hw9; have HA8n := Lib.hid (And.intro hz9 (show v3.heap.size ≤ x8 by have := HB9.out.size; omega))
      have hx8_9 : x8 ≠ x9 := by have h1 := HA9.out.1.1; omega
      have HW8 := HPL.out.1.fr (Nat.le_of_eq hx8); clear hx8 hz9; replace HB9 := Lib.hid (thn HB9.out hb); replace HA9 := hpl HA9 hb; replace HPL := Lib.hid (And.intro (HPL.out.1.later hb) HPL.out.2); have HA8 := HA8n; clear HA8n; refine hK2.out _ _ (s3b hHeld hb) (fun hHeld2 => ?_); clear hb; clear hK2 K2 hHeld; have hHeld := hHeld2; clear hHeld2
      try simp only [Act.put, List.setIfInBounds_toArray, List.set_cons_zero, List.set_cons_succ]
      revert hHeld; revert HB9; revert HA8; revert HA9; revert hx8_9; revert HPL; revert HW8; revert HW9; revert HQ1; revert x8; revert x9; revert B; revert lo; revert g; revert col; revert M; revert R; revert P; revert pg; revert pc; revert ws; revert B'; revert lo'; revert g'; revert col'; revert M'; revert R'; revert P'; revert pg'; revert pc'; revert ws'; revert b1; revert l1; revert c1; revert p1; revert t1
      revert u2; exact hS3_89.out
    · obtain ⟨x10, u2, hx10, hw9, hz9, hb⟩ := cz_next u
      rw [hw9]
      try rw [hx10]
      clear hw9; have HA10n := Lib.hid (And.intro hz9 (show v3.heap.size ≤ x10 by have := HB9.out.size; omega))
      have hx9_10 : x9 ≠ x10 := by have h1 := HA9.out.1.1; omega
      have HW10 := HPL.out.1.fr (Nat.le_of_eq hx10); clear hx10 hz9; replace HB9 := Lib.hid (thn HB9.out hb); replace HA9 := hpl HA9 hb; replace HPL := Lib.hid (And.intro (HPL.out.1.later hb) HPL.out.2); have HA10 := HA10n; clear HA10n; refine hK2.out _ _ (s3b hHeld hb) (fun hHeld2 => ?_); clear hb; clear hK2 K2 hHeld; have hHeld := hHeld2; clear hHeld2
      try simp only [Act.put, List.setIfInBounds_toArray, List.set_cons_zero, List.set_cons_succ]
      revert hHeld; revert HB9; revert HA9; revert HA10; revert hx9_10; revert HPL; revert HW9; revert HW10; revert HQ1; revert x9; revert x10; revert B; revert lo; revert g; revert col; revert M; revert R; revert P; revert pg; revert pc; revert ws; revert B'; revert lo'; revert g'; revert col'; revert M'; revert R'; revert P'; revert pg'; revert pc'; revert ws'; revert b1; revert l1; revert c1; revert p1
      revert t1; revert u2; exact hS3_9a.out
    · obtain ⟨x11, u2, hx11, hw9, hz9, hb⟩ := cz_next u
      rw [hw9]
      try rw [hx11]
      clear hw9; have HA11n := Lib.hid (And.intro hz9 (show v3.heap.size ≤ x11 by have := HB9.out.size; omega))
      have hx9_11 : x9 ≠ x11 := by have h1 := HA9.out.1.1; omega
      have HW11 := HPL.out.1.fr (Nat.le_of_eq hx11); clear hx11 hz9; replace HB9 := Lib.hid (thn HB9.out hb); replace HA9 := hpl HA9 hb; replace HPL := Lib.hid (And.intro (HPL.out.1.later hb) HPL.out.2); have HA11 := HA11n; clear HA11n; refine hK2.out _ _ (s3b hHeld hb) (fun hHeld2 => ?_); clear hb; clear hK2 K2 hHeld; have hHeld := hHeld2; clear hHeld2
      try simp only [Act.put, List.setIfInBounds_toArray, List.set_cons_zero, List.set_cons_succ]
      revert hHeld; revert HB9; revert HA9; revert HA11; revert hx9_11; revert HPL; revert HW9; revert HW11; revert HQ1; revert x9; revert x11; revert B; revert lo; revert g; revert col; revert M; revert R; revert P; revert pg; revert pc; revert ws; revert B'; revert lo'; revert g'; revert col'; revert M'; revert R'; revert P'; revert pg'; revert pc'; revert ws'; revert b1; revert l1; revert c1; revert p1
      revert t1; revert u2; exact hS3_9b.out
  · intro u t1 p1 c1 l1 b1 ws' pc' pg' P' R' M' col' g' lo' B' ws pc pg P R M col g lo B x8 HQ1 HW8 HPL HA8 HB9 hHeld
    refine wpAnyH_ready (rs := [7, 9, 10, 11]) (by kernel_rfl) (by simp) ?_; refine AllReadyH.cons rfl (fun K2 hK2 => ?_) (AllReadyH.cons rfl (fun K2 hK2 => ?_) (AllReadyH.cons rfl (fun K2 hK2 => ?_) (AllReadyH.cons rfl (fun K2 hK2 => ?_) AllReadyH.nil)))
    all_goals go_simp
    · with_reducible refine Calls.mono (few37 b' l' c' p' t' v' _) ?_
      rintro e u2 ⟨b2, l2, c2, p2, t2, rfl, hq2, hb⟩; have HQ2 : Hid (FB37 b2 l2 c2 p2 t2) := Lib.hid hq2; clear hq2; replace HB9 := Lib.hid (thn HB9.out hb); replace HA8 := hpl HA8 hb; replace HPL := Lib.hid (And.intro (HPL.out.1.later hb) HPL.out.2); refine hK2.out _ _ (s3b hHeld hb) (fun hHeld2 => ?_); clear hb; clear hK2 K2 hHeld; have hHeld := hHeld2; clear hHeld2
      try simp only [Act.put, List.setIfInBounds_toArray, List.set_cons_zero, List.set_cons_succ]
      revert hHeld; revert HB9; revert HA8; revert HPL; revert HW8; revert HQ1; revert HQ2; revert x8; revert B; revert lo; revert g; revert col; revert M; revert R; revert P; revert pg; revert pc; revert ws; revert B'; revert lo'; revert g'; revert col'; revert M'; revert R'; revert P'; revert pg'; revert pc'; revert ws'; revert b1; revert l1; revert c1; revert p1; revert t1; revert b2; revert l2; revert c2
      revert p2; revert t2; revert u2; exact hS4_8.out
    · obtain ⟨x9, u2, hx9, hw9, hz9, hb⟩ := pz_next u
      rw [hw9]
      try rw [hx9]
      clear hw9; have HA9n := Lib.hid (And.intro hz9 (show v3.heap.size ≤ x9 by have := HB9.out.size; omega))
      have hx8_9 : x8 ≠ x9 := by have h1 := HA8.out.1.1; omega
      have HW9 := HPL.out.1.fr (Nat.le_of_eq hx9); clear hx9 hz9; replace HB9 := Lib.hid (thn HB9.out hb); replace HA8 := hpl HA8 hb; replace HPL := Lib.hid (And.intro (HPL.out.1.later hb) HPL.out.2); have HA9 := HA9n; clear HA9n; refine hK2.out _ _ (s3b hHeld hb) (fun hHeld2 => ?_); clear hb; clear hK2 K2 hHeld; have hHeld := hHeld2; clear hHeld2
      try simp only [Act.put, List.setIfInBounds_toArray, List.set_cons_zero, List.set_cons_succ]
      revert hHeld; revert HB9; revert HA8; revert HA9; revert hx8_9; revert HPL; revert HW8; revert HW9; revert HQ1; revert x8; revert x9; revert B; revert lo; revert g; revert col; revert M; revert R; revert P; revert pg; revert pc; revert ws; revert B'; revert lo'; revert g'; revert col'; revert M'; revert R'; revert P'; revert pg'; revert pc'; revert ws'; revert b1; revert l1; revert c1; revert p1; revert t1
      revert u2; exact hS3_89.out
    · obtain ⟨x10, u2, hx10, hw9, hz9, hb⟩ := cz_next u
      rw [hw9]
      try rw [hx10]
      clear hw9; have HA10n := Lib.hid (And.intro hz9 (show v3.heap.size ≤ x10 by have := HB9.out.size; omega))
      have hx8_10 : x8 ≠ x10 := by have h1 := HA8.out.1.1; omega
      have HW10 := HPL.out.1.fr (Nat.le_of_eq hx10); clear hx10 hz9; replace HB9 := Lib.hid (thn HB9.out hb); replace HA8 := hpl HA8 hb; replace HPL := Lib.hid (And.intro (HPL.out.1.later hb) HPL.out.2); have HA10 := HA10n; clear HA10n; refine hK2.out _ _ (s3b hHeld hb) (fun hHeld2 => ?_); clear hb; clear hK2 K2 hHeld; have hHeld := hHeld2; clear hHeld2
      try simp only [Act.put, List.setIfInBounds_toArray, List.set_cons_zero, List.set_cons_succ]
      revert hHeld; revert HB9; revert HA8; revert HA10; revert hx8_10; revert HPL; revert HW8; revert HW10; revert HQ1; revert x8; revert x10; revert B; revert lo; revert g; revert col; revert M; revert R; revert P; revert pg; revert pc; revert ws; revert B'; revert lo'; revert g'; revert col'; revert M'; revert R'; revert P'; revert pg'; revert pc'; revert ws'; revert b1; revert l1; revert c1; revert p1
      revert t1; revert u2; exact hS3_8a.out
    · obtain ⟨x11, u2, hx11, hw9, hz9, hb⟩ := cz_next u
      rw [hw9]
      try rw [hx11]
      clear hw9; have HA11n := Lib.hid (And.intro hz9 (show v3.heap.size ≤ x11 by have := HB9.out.size; omega))
      have hx8_11 : x8 ≠ x11 := by have h1 := HA8.out.1.1; omega
      have HW11 := HPL.out.1.fr (Nat.le_of_eq hx11); clear hx11 hz9; replace HB9 := Lib.hid (thn HB9.out hb); replace HA8 := hpl HA8 hb; replace HPL := Lib.hid (And.intro (HPL.out.1.later hb) HPL.out.2); have HA11 := HA11n; clear HA11n; refine hK2.out _ _ (s3b hHeld hb) (fun hHeld2 => ?_); clear hb; clear hK2 K2 hHeld; have hHeld := hHeld2; clear hHeld2
      try simp only [Act.put, List.setIfInBounds_toArray, List.set_cons_zero, List.set_cons_succ]
      revert hHeld; revert HB9; revert HA8; revert HA11; revert hx8_11; revert HPL; revert HW8; revert HW11; revert HQ1; revert x8; revert x11; revert B; revert lo; revert g; revert col; revert M; revert R; revert P; revert pg; revert pc; revert ws; revert B'; revert lo'; revert g'; revert col'; revert M'; revert R'; revert P'; revert pg'; revert pc'; revert ws'; revert b1; revert l1; revert c1; revert p1
      revert t1; revert u2; exact hS3_8b.out
  · intro u t2 p2 c2 l2 b2 t1 p1 c1 l1 b1 ws' pc' pg' P' R' M' col' g' lo' B' ws pc pg P R M col g lo B HQ2 HQ1 HPL HB9 hHeld
    refine wpAnyH_ready (rs := [8, 9, 10, 11]) (by kernel_rfl) (by simp) ?_; refine AllReadyH.cons rfl (fun K2 hK2 => ?_) (AllReadyH.cons rfl (fun K2 hK2 => ?_) (AllReadyH.cons rfl (fun K2 hK2 => ?_) (AllReadyH.cons rfl (fun K2 hK2 => ?_) AllReadyH.nil)))
    all_goals go_simp
    · obtain ⟨x8, u2, hx8, hw9, hz9, hb⟩ := pz_next u
      rw [hw9]
      try rw [hx8]
      clear hw9; have HA8n := Lib.hid (And.intro hz9 (show v3.heap.size ≤ x8 by have := HB9.out.size; omega)); have HW8 := HPL.out.1.fr (Nat.le_of_eq hx8); clear hx8 hz9; replace HB9 := Lib.hid (thn HB9.out hb); replace HPL := Lib.hid (And.intro (HPL.out.1.later hb) HPL.out.2); have HA8 := HA8n; clear HA8n; refine hK2.out _ _ (s3b hHeld hb) (fun hHeld2 => ?_); clear hb; clear hK2 K2 hHeld; have hHeld := hHeld2
      clear hHeld2
      try simp only [Act.put, List.setIfInBounds_toArray, List.set_cons_zero, List.set_cons_succ]
      revert hHeld; revert HB9; revert HA8; revert HPL; revert HW8; revert HQ1; revert HQ2; revert x8; revert B; revert lo; revert g; revert col; revert M; revert R; revert P; revert pg; revert pc; revert ws; revert B'; revert lo'; revert g'; revert col'; revert M'; revert R'; revert P'; revert pg'; revert pc'; revert ws'; revert b1; revert l1; revert c1; revert p1; revert t1; revert b2; revert l2; revert c2
      revert p2; revert t2; revert u2; exact hS4_8.out
    · obtain ⟨x9, u2, hx9, hw9, hz9, hb⟩ := pz_next u
      rw [hw9]
      try rw [hx9]
      clear hw9; have HA9n := Lib.hid (And.intro hz9 (show v3.heap.size ≤ x9 by have := HB9.out.size; omega)); have HW9 := HPL.out.1.fr (Nat.le_of_eq hx9); clear hx9 hz9; replace HB9 := Lib.hid (thn HB9.out hb); replace HPL := Lib.hid (And.intro (HPL.out.1.later hb) HPL.out.2); have HA9 := HA9n; clear HA9n; refine hK2.out _ _ (s3b hHeld hb) (fun hHeld2 => ?_); clear hb; clear hK2 K2 hHeld; have hHeld := hHeld2
      clear hHeld2
      try simp only [Act.put, List.setIfInBounds_toArray, List.set_cons_zero, List.set_cons_succ]
      revert hHeld; revert HB9; revert HA9; revert HPL; revert HW9; revert HQ1; revert HQ2; revert x9; revert B; revert lo; revert g; revert col; revert M; revert R; revert P; revert pg; revert pc; revert ws; revert B'; revert lo'; revert g'; revert col'; revert M'; revert R'; revert P'; revert pg'; revert pc'; revert ws'; revert b1; revert l1; revert c1; revert p1; revert t1; revert b2; revert l2; revert c2
      revert p2; revert t2; revert u2; exact hS4_9.out
    · obtain ⟨x10, u2, hx10, hw9, hz9, hb⟩ := cz_next u
      rw [hw9]
      try rw [hx10]
      clear hw9; have HA10n := Lib.hid (And.intro hz9 (show v3.heap.size ≤ x10 by have := HB9.out.size; omega)); have HW10 := HPL.out.1.fr (Nat.le_of_eq hx10); clear hx10 hz9; replace HB9 := Lib.hid (thn HB9.out hb); replace HPL := Lib.hid (And.intro (HPL.out.1.later hb) HPL.out.2); have HA10 := HA10n; clear HA10n; refine hK2.out _ _ (s3b hHeld hb) (fun hHeld2 => ?_); clear hb; clear hK2 K2 hHeld; have hHeld := hHeld2
      clear hHeld2
      try simp only [Act.put, List.setIfInBounds_toArray, List.set_cons_zero, List.set_cons_succ]
      revert hHeld; revert HB9; revert HA10; revert HPL; revert HW10; revert HQ1; revert HQ2; revert x10; revert B; revert lo; revert g; revert col; revert M; revert R; revert P; revert pg; revert pc; revert ws; revert B'; revert lo'; revert g'; revert col'; revert M'; revert R'; revert P'; revert pg'; revert pc'; revert ws'; revert b1; revert l1; revert c1; revert p1; revert t1; revert b2; revert l2; revert c2
      revert p2; revert t2; revert u2; exact hS4_a.out
    · obtain ⟨x11, u2, hx11, hw9, hz9, hb⟩ := cz_next u
      rw [hw9]
      try rw [hx11]
      clear hw9; have HA11n := Lib.hid (And.intro hz9 (show v3.heap.size ≤ x11 by have := HB9.out.size; omega)); have HW11 := HPL.out.1.fr (Nat.le_of_eq hx11); clear hx11 hz9; replace HB9 := Lib.hid (thn HB9.out hb); replace HPL := Lib.hid (And.intro (HPL.out.1.later hb) HPL.out.2); have HA11 := HA11n; clear HA11n; refine hK2.out _ _ (s3b hHeld hb) (fun hHeld2 => ?_); clear hb; clear hK2 K2 hHeld; have hHeld := hHeld2
      clear hHeld2
      try simp only [Act.put, List.setIfInBounds_toArray, List.set_cons_zero, List.set_cons_succ]
      revert hHeld; revert HB9; revert HA11; revert HPL; revert HW11; revert HQ1; revert HQ2; revert x11; revert B; revert lo; revert g; revert col; revert M; revert R; revert P; revert pg; revert pc; revert ws; revert B'; revert lo'; revert g'; revert col'; revert M'; revert R'; revert P'; revert pg'; revert pc'; revert ws'; revert b1; revert l1; revert c1; revert p1; revert t1; revert b2; revert l2; revert c2
      revert p2; revert t2; revert u2; exact hS4_b.out
  · intro u ws pc pg P R M col g lo B x11 x10 x9 x8 HW11 HW10 HW9 HW8 HPL hx10_11 hx9_11 hx9_10 hx8_11 hx8_10 hx8_9 HA11 HA10 HA9 HA8 HB9 hHeld
    refine wpAnyH_ready (rs := [3]) (by kernel_rfl) (by simp) ?_; refine AllReadyH.cons rfl (fun K2 hK2 => ?_) AllReadyH.nil
    go_simp
    with_reducible refine Calls.mono (w37made sb sl _ HSB.out.1 HSB.out.2.1 HSB.out.2.2.1 HSB.out.2.2.2 (T3.out.later HB9.out)) ?_
    rintro e u2 ⟨B', lo', g', col', M', R', P', pg', pc', ws', rfl, hp0, hpa0, hB0, hb⟩; have HPLn : Hid (TWO v3.heap.size B lo g col M R P pg pc ws B' lo' g' col' M' R' P' pg' pc' ws' u2 s37b s37b ∧ (PaintIs sb sl ws ∧ PaintIs sb sl ws')) := Lib.hid (And.intro (TWO.mk' HPL.out.1 hb hp0 hB0 HPL.out.2.2 HB9.out.size) (And.intro HPL.out.2.1 hpa0)); clear HPL; have HPL := HPLn; clear HPLn; replace HW8 : Hid (Away B col R g P x8 ∧ Away B' col' R' g' P' x8) := Lib.hid ⟨HW8.out, .inl (Nat.lt_of_lt_of_le HA8.out.1.1 hB0)⟩
    replace HW9 : Hid (Away B col R g P x9 ∧ Away B' col' R' g' P' x9) := Lib.hid ⟨HW9.out, .inl (Nat.lt_of_lt_of_le HA9.out.1.1 hB0)⟩; replace HW10 : Hid (Away B col R g P x10 ∧ Away B' col' R' g' P' x10) := Lib.hid ⟨HW10.out, .inl (Nat.lt_of_lt_of_le HA10.out.1.1 hB0)⟩; replace HW11 : Hid (Away B col R g P x11 ∧ Away B' col' R' g' P' x11) := Lib.hid ⟨HW11.out, .inl (Nat.lt_of_lt_of_le HA11.out.1.1 hB0)⟩
    clear hp0 hpa0 hB0; replace HB9 := Lib.hid (thn HB9.out hb); replace HA8 := hpl HA8 hb; replace HA9 := hpl HA9 hb; replace HA10 := hbl HA10 hb; replace HA11 := hbl HA11 hb; refine hK2.out _ _ (s3b hHeld hb) (fun hHeld2 => ?_); clear hb; clear hK2 K2 hHeld; have hHeld := hHeld2; clear hHeld2
    try simp only [Act.put, List.setIfInBounds_toArray, List.set_cons_zero, List.set_cons_succ]
    revert hHeld; revert HB9; revert HA8; revert HA9; revert HA10; revert HA11; revert hx8_9; revert hx8_10; revert hx8_11; revert hx9_10; revert hx9_11; revert hx10_11; revert HPL; revert HW8; revert HW9; revert HW10; revert HW11; revert x8; revert x9; revert x10; revert x11; revert B; revert lo; revert g; revert col; revert M; revert R; revert P; revert pg; revert pc; revert ws; revert B'; revert lo'
    revert g'; revert col'; revert M'; revert R'; revert P'; revert pg'; revert pc'; revert ws'; revert u2; exact hS2_89ab.out
  · intro u ws' pc' pg' P' R' M' col' g' lo' B' ws pc pg P R M col g lo B x11 x10 x9 HW11 HW10 HW9 HPL hx10_11 hx9_11 hx9_10 HA11 HA10 HA9 HB9 hHeld
    refine wpAnyH_ready (rs := [5, 8]) (by kernel_rfl) (by simp) ?_; refine AllReadyH.cons rfl (fun K2 hK2 => ?_) (AllReadyH.cons rfl (fun K2 hK2 => ?_) AllReadyH.nil)
    all_goals go_simp
    · with_reducible refine Calls.mono (few37 b l c p t v _) ?_
      rintro e u2 ⟨b1, l1, c1, p1, t1, rfl, hq1, hb⟩; have HQ1 : Hid (FB37 b1 l1 c1 p1 t1) := Lib.hid hq1; clear hq1; replace HB9 := Lib.hid (thn HB9.out hb); replace HA9 := hpl HA9 hb; replace HA10 := hbl HA10 hb; replace HA11 := hbl HA11 hb; replace HPL := Lib.hid (And.intro (HPL.out.1.later hb) HPL.out.2); refine hK2.out _ _ (s3b hHeld hb) (fun hHeld2 => ?_); clear hb; clear hK2 K2 hHeld; have hHeld := hHeld2
      clear hHeld2
      try simp only [Act.put, List.setIfInBounds_toArray, List.set_cons_zero, List.set_cons_succ]
      revert hHeld; revert HB9; revert HA9; revert HA10; revert HA11; revert hx9_10; revert hx9_11; revert hx10_11; revert HPL; revert HW9; revert HW10; revert HW11; revert HQ1; revert x9; revert x10; revert x11; revert B; revert lo; revert g; revert col; revert M; revert R; revert P; revert pg; revert pc; revert ws; revert B'; revert lo'; revert g'; revert col'; revert M'; revert R'; revert P'; revert pg'
      revert pc'; revert ws'; revert b1; revert l1; revert c1; revert p1; revert t1; revert u2; exact hS3_9ab.out
    · obtain ⟨x8, u2, hx8, hw9, hz9, hb⟩ := pz_next u
      rw [hw9]
      try rw [hx8]
      clear hw9; have HA8n := Lib.hid (And.intro hz9 (show v3.heap.size ≤ x8 by have := HB9.out.size; omega))
      have hx8_9 : x8 ≠ x9 := by have h1 := HA9.out.1.1; omega
      have hx8_10 : x8 ≠ x10 := by have h1 := HA10.out.1.1; omega
      have hx8_11 : x8 ≠ x11 := by have h1 := HA11.out.1.1; omega
      have HW8 := HPL.out.1.fr (Nat.le_of_eq hx8); clear hx8 hz9; replace HB9 := Lib.hid (thn HB9.out hb); replace HA9 := hpl HA9 hb; replace HA10 := hbl HA10 hb; replace HA11 := hbl HA11 hb; replace HPL := Lib.hid (And.intro (HPL.out.1.later hb) HPL.out.2); have HA8 := HA8n; clear HA8n; refine hK2.out _ _ (s3b hHeld hb) (fun hHeld2 => ?_); clear hb; clear hK2 K2 hHeld; have hHeld := hHeld2; clear hHeld2
      try simp only [Act.put, List.setIfInBounds_toArray, List.set_cons_zero, List.set_cons_succ]
      revert hHeld; revert HB9; revert HA8; revert HA9; revert HA10; revert HA11; revert hx8_9; revert hx8_10; revert hx8_11; revert hx9_10; revert hx9_11; revert hx10_11; revert HPL; revert HW8; revert HW9; revert HW10; revert HW11; revert x8; revert x9; revert x10; revert x11; revert B; revert lo; revert g; revert col; revert M; revert R; revert P; revert pg; revert pc; revert ws; revert B'; revert lo'
      revert g'; revert col'; revert M'; revert R'; revert P'; revert pg'; revert pc'; revert ws'; revert u2; exact hS2_89ab.out
  · intro u ws' pc' pg' P' R' M' col' g' lo' B' ws pc pg P R M col g lo B x11 x10 x8 HW11 HW10 HW8 HPL hx10_11 hx8_11 hx8_10 HA11 HA10 HA8 HB9 hHeld
    refine wpAnyH_ready (rs := [5, 9]) (by kernel_rfl) (by simp) ?_; refine AllReadyH.cons rfl (fun K2 hK2 => ?_) (AllReadyH.cons rfl (fun K2 hK2 => ?_) AllReadyH.nil)
    all_goals go_simp
    · with_reducible refine Calls.mono (few37 b l c p t v _) ?_
      rintro e u2 ⟨b1, l1, c1, p1, t1, rfl, hq1, hb⟩; have HQ1 : Hid (FB37 b1 l1 c1 p1 t1) := Lib.hid hq1; clear hq1; replace HB9 := Lib.hid (thn HB9.out hb); replace HA8 := hpl HA8 hb; replace HA10 := hbl HA10 hb; replace HA11 := hbl HA11 hb; replace HPL := Lib.hid (And.intro (HPL.out.1.later hb) HPL.out.2); refine hK2.out _ _ (s3b hHeld hb) (fun hHeld2 => ?_); clear hb; clear hK2 K2 hHeld; have hHeld := hHeld2
      clear hHeld2
      try simp only [Act.put, List.setIfInBounds_toArray, List.set_cons_zero, List.set_cons_succ]
      revert hHeld; revert HB9; revert HA8; revert HA10; revert HA11; revert hx8_10; revert hx8_11; revert hx10_11; revert HPL; revert HW8; revert HW10; revert HW11; revert HQ1; revert x8; revert x10; revert x11; revert B; revert lo; revert g; revert col; revert M; revert R; revert P; revert pg; revert pc; revert ws; revert B'; revert lo'; revert g'; revert col'; revert M'; revert R'; revert P'; revert pg'
      revert pc'; revert ws'; revert b1; revert l1; revert c1; revert p1; revert t1; revert u2; exact hS3_8ab.out
    · obtain ⟨x9, u2, hx9, hw9, hz9, hb⟩ := pz_next u
      rw [hw9]
      try rw [hx9]
      clear hw9; have HA9n := Lib.hid (And.intro hz9 (show v3.heap.size ≤ x9 by have := HB9.out.size; omega))
      have hx8_9 : x8 ≠ x9 := by have h1 := HA8.out.1.1; omega
      have hx9_10 : x9 ≠ x10 := by have h1 := HA10.out.1.1; omega
      have hx9_11 : x9 ≠ x11 := by have h1 := HA11.out.1.1; omega
      have HW9 := HPL.out.1.fr (Nat.le_of_eq hx9); clear hx9 hz9; replace HB9 := Lib.hid (thn HB9.out hb); replace HA8 := hpl HA8 hb; replace HA10 := hbl HA10 hb; replace HA11 := hbl HA11 hb; replace HPL := Lib.hid (And.intro (HPL.out.1.later hb) HPL.out.2); have HA9 := HA9n; clear HA9n; refine hK2.out _ _ (s3b hHeld hb) (fun hHeld2 => ?_); clear hb; clear hK2 K2 hHeld; have hHeld := hHeld2; clear hHeld2
      try simp only [Act.put, List.setIfInBounds_toArray, List.set_cons_zero, List.set_cons_succ]
      revert hHeld; revert HB9; revert HA8; revert HA9; revert HA10; revert HA11; revert hx8_9; revert hx8_10; revert hx8_11; revert hx9_10; revert hx9_11; revert hx10_11; revert HPL; revert HW8; revert HW9; revert HW10; revert HW11; revert x8; revert x9; revert x10; revert x11; revert B; revert lo; revert g; revert col; revert M; revert R; revert P; revert pg; revert pc; revert ws; revert B'; revert lo'
      revert g'; revert col'; revert M'; revert R'; revert P'; revert pg'; revert pc'; revert ws'; revert u2; exact hS2_89ab.out
  · intro u ws' pc' pg' P' R' M' col' g' lo' B' ws pc pg P R M col g lo B x11 x9 x8 HW11 HW9 HW8 HPL hx9_11 hx8_11 hx8_9 HA11 HA9 HA8 HB9 hHeld
    refine wpAnyH_ready (rs := [5, 10]) (by kernel_rfl) (by simp) ?_; refine AllReadyH.cons rfl (fun K2 hK2 => ?_) (AllReadyH.cons rfl (fun K2 hK2 => ?_) AllReadyH.nil)
    all_goals go_simp
    · with_reducible refine Calls.mono (few37 b l c p t v _) ?_
      rintro e u2 ⟨b1, l1, c1, p1, t1, rfl, hq1, hb⟩; have HQ1 : Hid (FB37 b1 l1 c1 p1 t1) := Lib.hid hq1; clear hq1; replace HB9 := Lib.hid (thn HB9.out hb); replace HA8 := hpl HA8 hb; replace HA9 := hpl HA9 hb; replace HA11 := hbl HA11 hb; replace HPL := Lib.hid (And.intro (HPL.out.1.later hb) HPL.out.2); refine hK2.out _ _ (s3b hHeld hb) (fun hHeld2 => ?_); clear hb; clear hK2 K2 hHeld; have hHeld := hHeld2
      clear hHeld2
      try simp only [Act.put, List.setIfInBounds_toArray, List.set_cons_zero, List.set_cons_succ]
      revert hHeld; revert HB9; revert HA8; revert HA9; revert HA11; revert hx8_9; revert hx8_11; revert hx9_11; revert HPL; revert HW8; revert HW9; revert HW11; revert HQ1; revert x8; revert x9; revert x11; revert B; revert lo; revert g; revert col; revert M; revert R; revert P; revert pg; revert pc; revert ws; revert B'; revert lo'; revert g'; revert col'; revert M'; revert R'; revert P'; revert pg'; revert pc'
      revert ws'; revert b1; revert l1; revert c1; revert p1; revert t1; revert u2; exact hS3_89b.out
    · obtain ⟨x10, u2, hx10, hw9, hz9, hb⟩ := cz_next u
      rw [hw9]
      try rw [hx10]
      clear hw9; have HA10n := Lib.hid (And.intro hz9 (show v3.heap.size ≤ x10 by have := HB9.out.size; omega))
      have hx8_10 : x8 ≠ x10 := by have h1 := HA8.out.1.1; omega
      have hx9_10 : x9 ≠ x10 := by have h1 := HA9.out.1.1; omega
      have hx10_11 : x10 ≠ x11 := by have h1 := HA11.out.1.1; omega
      have HW10 := HPL.out.1.fr (Nat.le_of_eq hx10); clear hx10 hz9; replace HB9 := Lib.hid (thn HB9.out hb); replace HA8 := hpl HA8 hb; replace HA9 := hpl HA9 hb; replace HA11 := hbl HA11 hb; replace HPL := Lib.hid (And.intro (HPL.out.1.later hb) HPL.out.2); have HA10 := HA10n; clear HA10n; refine hK2.out _ _ (s3b hHeld hb) (fun hHeld2 => ?_); clear hb; clear hK2 K2 hHeld; have hHeld := hHeld2; clear hHeld2
      try simp only [Act.put, List.setIfInBounds_toArray, List.set_cons_zero, List.set_cons_succ]
      revert hHeld; revert HB9; revert HA8; revert HA9; revert HA10; revert HA11; revert hx8_9; revert hx8_10; revert hx8_11; revert hx9_10; revert hx9_11; revert hx10_11; revert HPL; revert HW8; revert HW9; revert HW10; revert HW11; revert x8; revert x9; revert x10; revert x11; revert B; revert lo; revert g; revert col; revert M; revert R; revert P; revert pg; revert pc; revert ws; revert B'; revert lo'
      revert g'; revert col'; revert M'; revert R'; revert P'; revert pg'; revert pc'; revert ws'; revert u2; exact hS2_89ab.out
  · intro u ws' pc' pg' P' R' M' col' g' lo' B' ws pc pg P R M col g lo B x10 x9 x8 HW10 HW9 HW8 HPL hx9_10 hx8_10 hx8_9 HA10 HA9 HA8 HB9 hHeld
    refine wpAnyH_ready (rs := [5, 11]) (by kernel_rfl) (by simp) ?_; refine AllReadyH.cons rfl (fun K2 hK2 => ?_) (AllReadyH.cons rfl (fun K2 hK2 => ?_) AllReadyH.nil)
    all_goals go_simp
    · with_reducible refine Calls.mono (few37 b l c p t v _) ?_
      rintro e u2 ⟨b1, l1, c1, p1, t1, rfl, hq1, hb⟩; have HQ1 : Hid (FB37 b1 l1 c1 p1 t1) := Lib.hid hq1; clear hq1; replace HB9 := Lib.hid (thn HB9.out hb); replace HA8 := hpl HA8 hb; replace HA9 := hpl HA9 hb; replace HA10 := hbl HA10 hb; replace HPL := Lib.hid (And.intro (HPL.out.1.later hb) HPL.out.2); refine hK2.out _ _ (s3b hHeld hb) (fun hHeld2 => ?_); clear hb; clear hK2 K2 hHeld; have hHeld := hHeld2
      clear hHeld2
      try simp only [Act.put, List.setIfInBounds_toArray, List.set_cons_zero, List.set_cons_succ]
      revert hHeld; revert HB9; revert HA8; revert HA9; revert HA10; revert hx8_9; revert hx8_10; revert hx9_10; revert HPL; revert HW8; revert HW9; revert HW10; revert HQ1; revert x8; revert x9; revert x10; revert B; revert lo; revert g; revert col; revert M; revert R; revert P; revert pg; revert pc; revert ws; revert B'; revert lo'; revert g'; revert col'; revert M'; revert R'; revert P'; revert pg'; revert pc'
      revert ws'; revert b1; revert l1; revert c1; revert p1; revert t1; revert u2; exact hS3_89a.out
    · obtain ⟨x11, u2, hx11, hw9, hz9, hb⟩ := cz_next u
      rw [hw9]
      try rw [hx11]
      clear hw9; have HA11n := Lib.hid (And.intro hz9 (show v3.heap.size ≤ x11 by have := HB9.out.size; omega))
      have hx8_11 : x8 ≠ x11 := by have h1 := HA8.out.1.1; omega
      have hx9_11 : x9 ≠ x11 := by have h1 := HA9.out.1.1; omega
      have hx10_11 : x10 ≠ x11 := by have h1 := HA10.out.1.1; omega
      have HW11 := HPL.out.1.fr (Nat.le_of_eq hx11); clear hx11 hz9; replace HB9 := Lib.hid (thn HB9.out hb); replace HA8 := hpl HA8 hb; replace HA9 := hpl HA9 hb; replace HA10 := hbl HA10 hb; replace HPL := Lib.hid (And.intro (HPL.out.1.later hb) HPL.out.2); have HA11 := HA11n; clear HA11n; refine hK2.out _ _ (s3b hHeld hb) (fun hHeld2 => ?_); clear hb; clear hK2 K2 hHeld; have hHeld := hHeld2; clear hHeld2
      try simp only [Act.put, List.setIfInBounds_toArray, List.set_cons_zero, List.set_cons_succ]
      revert hHeld; revert HB9; revert HA8; revert HA9; revert HA10; revert HA11; revert hx8_9; revert hx8_10; revert hx8_11; revert hx9_10; revert hx9_11; revert hx10_11; revert HPL; revert HW8; revert HW9; revert HW10; revert HW11; revert x8; revert x9; revert x10; revert x11; revert B; revert lo; revert g; revert col; revert M; revert R; revert P; revert pg; revert pc; revert ws; revert B'; revert lo'
      revert g'; revert col'; revert M'; revert R'; revert P'; revert pg'; revert pc'; revert ws'; revert u2; exact hS2_89ab.out
  · intro u t1 p1 c1 l1 b1 ws' pc' pg' P' R' M' col' g' lo' B' ws pc pg P R M col g lo B x11 x10 HQ1 HW11 HW10 HPL hx10_11 HA11 HA10 HB9 hHeld
    refine wpAnyH_ready (rs := [7, 8, 9]) (by kernel_rfl) (by simp) ?_; refine AllReadyH.cons rfl (fun K2 hK2 => ?_) (AllReadyH.cons rfl (fun K2 hK2 => ?_) (AllReadyH.cons rfl (fun K2 hK2 => ?_) AllReadyH.nil))
    all_goals go_simp
    · with_reducible refine Calls.mono (few37 b' l' c' p' t' v' _) ?_
      rintro e u2 ⟨b2, l2, c2, p2, t2, rfl, hq2, hb⟩; have HQ2 : Hid (FB37 b2 l2 c2 p2 t2) := Lib.hid hq2; clear hq2; replace HB9 := Lib.hid (thn HB9.out hb); replace HA10 := hbl HA10 hb; replace HA11 := hbl HA11 hb; replace HPL := Lib.hid (And.intro (HPL.out.1.later hb) HPL.out.2); refine hK2.out _ _ (s3b hHeld hb) (fun hHeld2 => ?_); clear hb; clear hK2 K2 hHeld; have hHeld := hHeld2; clear hHeld2
      try simp only [Act.put, List.setIfInBounds_toArray, List.set_cons_zero, List.set_cons_succ]
      revert hHeld; revert HB9; revert HA10; revert HA11; revert hx10_11; revert HPL; revert HW10; revert HW11; revert HQ1; revert HQ2; revert x10; revert x11; revert B; revert lo; revert g; revert col; revert M; revert R; revert P; revert pg; revert pc; revert ws; revert B'; revert lo'; revert g'; revert col'; revert M'; revert R'; revert P'; revert pg'; revert pc'; revert ws'; revert b1; revert l1; revert c1
      revert p1; revert t1; revert b2; revert l2; revert c2; revert p2; revert t2; revert u2; exact hS4_ab.out
    · obtain ⟨x8, u2, hx8, hw9, hz9, hb⟩ := pz_next u
      rw [hw9]
      try rw [hx8]
      clear hw9; have HA8n := Lib.hid (And.intro hz9 (show v3.heap.size ≤ x8 by have := HB9.out.size; omega))
      have hx8_10 : x8 ≠ x10 := by have h1 := HA10.out.1.1; omega
      have hx8_11 : x8 ≠ x11 := by have h1 := HA11.out.1.1; omega
      have HW8 := HPL.out.1.fr (Nat.le_of_eq hx8); clear hx8 hz9; replace HB9 := Lib.hid (thn HB9.out hb); replace HA10 := hbl HA10 hb; replace HA11 := hbl HA11 hb; replace HPL := Lib.hid (And.intro (HPL.out.1.later hb) HPL.out.2); have HA8 := HA8n; clear HA8n; refine hK2.out _ _ (s3b hHeld hb) (fun hHeld2 => ?_); clear hb; clear hK2 K2 hHeld; have hHeld := hHeld2; clear hHeld2
      try simp only [Act.put, List.setIfInBounds_toArray, List.set_cons_zero, List.set_cons_succ]
      revert hHeld; revert HB9; revert HA8; revert HA10; revert HA11; revert hx8_10; revert hx8_11; revert hx10_11; revert HPL; revert HW8; revert HW10; revert HW11; revert HQ1; revert x8; revert x10; revert x11; revert B; revert lo; revert g; revert col; revert M; revert R; revert P; revert pg; revert pc; revert ws; revert B'; revert lo'; revert g'; revert col'; revert M'; revert R'; revert P'; revert pg'
      revert pc'; revert ws'; revert b1; revert l1; revert c1; revert p1; revert t1; revert u2; exact hS3_8ab.out
    · obtain ⟨x9, u2, hx9, hw9, hz9, hb⟩ := pz_next u
      rw [hw9]
      try rw [hx9]
      clear hw9; have HA9n := Lib.hid (And.intro hz9 (show v3.heap.size ≤ x9 by have := HB9.out.size; omega))
      have hx9_10 : x9 ≠ x10 := by have h1 := HA10.out.1.1; omega
      have hx9_11 : x9 ≠ x11 := by have h1 := HA11.out.1.1; omega
      have HW9 := HPL.out.1.fr (Nat.le_of_eq hx9); clear hx9 hz9; replace HB9 := Lib.hid (thn HB9.out hb); replace HA10 := hbl HA10 hb; replace HA11 := hbl HA11 hb; replace HPL := Lib.hid (And.intro (HPL.out.1.later hb) HPL.out.2); have HA9 := HA9n; clear HA9n; refine hK2.out _ _ (s3b hHeld hb) (fun hHeld2 => ?_); clear hb; clear hK2 K2 hHeld; have hHeld := hHeld2; clear hHeld2
      try simp only [Act.put, List.setIfInBounds_toArray, List.set_cons_zero, List.set_cons_succ]
      revert hHeld; revert HB9; revert HA9; revert HA10; revert HA11; revert hx9_10; revert hx9_11; revert hx10_11; revert HPL; revert HW9; revert HW10; revert HW11; revert HQ1; revert x9; revert x10; revert x11; revert B; revert lo; revert g; revert col; revert M; revert R; revert P; revert pg; revert pc; revert ws; revert B'; revert lo'; revert g'; revert col'; revert M'; revert R'; revert P'; revert pg'
      revert pc'; revert ws'; revert b1; revert l1; revert c1; revert p1; revert t1; revert u2; exact hS3_9ab.out
  · intro u t1 p1 c1 l1 b1 ws' pc' pg' P' R' M' col' g' lo' B' ws pc pg P R M col g lo B x11 x9 HQ1 HW11 HW9 HPL hx9_11 HA11 HA9 HB9 hHeld
    refine wpAnyH_ready (rs := [7, 8, 10]) (by kernel_rfl) (by simp) ?_; refine AllReadyH.cons rfl (fun K2 hK2 => ?_) (AllReadyH.cons rfl (fun K2 hK2 => ?_) (AllReadyH.cons rfl (fun K2 hK2 => ?_) AllReadyH.nil))
    all_goals go_simp
    · with_reducible refine Calls.mono (few37 b' l' c' p' t' v' _) ?_
      rintro e u2 ⟨b2, l2, c2, p2, t2, rfl, hq2, hb⟩; have HQ2 : Hid (FB37 b2 l2 c2 p2 t2) := Lib.hid hq2; clear hq2; replace HB9 := Lib.hid (thn HB9.out hb); replace HA9 := hpl HA9 hb; replace HA11 := hbl HA11 hb; replace HPL := Lib.hid (And.intro (HPL.out.1.later hb) HPL.out.2); refine hK2.out _ _ (s3b hHeld hb) (fun hHeld2 => ?_); clear hb; clear hK2 K2 hHeld; have hHeld := hHeld2; clear hHeld2
      try simp only [Act.put, List.setIfInBounds_toArray, List.set_cons_zero, List.set_cons_succ]
      revert hHeld; revert HB9; revert HA9; revert HA11; revert hx9_11; revert HPL; revert HW9; revert HW11; revert HQ1; revert HQ2; revert x9; revert x11; revert B; revert lo; revert g; revert col; revert M; revert R; revert P; revert pg; revert pc; revert ws; revert B'; revert lo'; revert g'; revert col'; revert M'; revert R'; revert P'; revert pg'; revert pc'; revert ws'; revert b1; revert l1; revert c1
      revert p1; revert t1; revert b2; revert l2; revert c2; revert p2; revert t2; revert u2; exact hS4_9b.out
    · obtain ⟨x8, u2, hx8, hw9, hz9, hb⟩ := pz_next u
      rw [hw9]
      try rw [hx8]
      clear hw9; have HA8n := Lib.hid (And.intro hz9 (show v3.heap.size ≤ x8 by have := HB9.out.size; omega))
      have hx8_9 : x8 ≠ x9 := by have h1 := HA9.out.1.1; omega
      have hx8_11 : x8 ≠ x11 := by have h1 := HA11.out.1.1; omega
      have HW8 := HPL.out.1.fr (Nat.le_of_eq hx8); clear hx8 hz9; replace HB9 := Lib.hid (thn HB9.out hb); replace HA9 := hpl HA9 hb; replace HA11 := hbl HA11 hb; replace HPL := Lib.hid (And.intro (HPL.out.1.later hb) HPL.out.2); have HA8 := HA8n; clear HA8n; refine hK2.out _ _ (s3b hHeld hb) (fun hHeld2 => ?_); clear hb; clear hK2 K2 hHeld; have hHeld := hHeld2; clear hHeld2
      try simp only [Act.put, List.setIfInBounds_toArray, List.set_cons_zero, List.set_cons_succ]
      revert hHeld; revert HB9; revert HA8; revert HA9; revert HA11; revert hx8_9; revert hx8_11; revert hx9_11; revert HPL; revert HW8; revert HW9; revert HW11; revert HQ1; revert x8; revert x9; revert x11; revert B; revert lo; revert g; revert col; revert M; revert R; revert P; revert pg; revert pc; revert ws; revert B'; revert lo'; revert g'; revert col'; revert M'; revert R'; revert P'; revert pg'; revert pc'
      revert ws'; revert b1; revert l1; revert c1; revert p1; revert t1; revert u2; exact hS3_89b.out
    · obtain ⟨x10, u2, hx10, hw9, hz9, hb⟩ := cz_next u
      rw [hw9]
      try rw [hx10]
      clear hw9; have HA10n := Lib.hid (And.intro hz9 (show v3.heap.size ≤ x10 by have := HB9.out.size; omega))
      have hx9_10 : x9 ≠ x10 := by have h1 := HA9.out.1.1; omega
      have hx10_11 : x10 ≠ x11 := by have h1 := HA11.out.1.1; omega
      have HW10 := HPL.out.1.fr (Nat.le_of_eq hx10); clear hx10 hz9; replace HB9 := Lib.hid (thn HB9.out hb); replace HA9 := hpl HA9 hb; replace HA11 := hbl HA11 hb; replace HPL := Lib.hid (And.intro (HPL.out.1.later hb) HPL.out.2); have HA10 := HA10n; clear HA10n; refine hK2.out _ _ (s3b hHeld hb) (fun hHeld2 => ?_); clear hb; clear hK2 K2 hHeld; have hHeld := hHeld2; clear hHeld2
      try simp only [Act.put, List.setIfInBounds_toArray, List.set_cons_zero, List.set_cons_succ]
      revert hHeld; revert HB9; revert HA9; revert HA10; revert HA11; revert hx9_10; revert hx9_11; revert hx10_11; revert HPL; revert HW9; revert HW10; revert HW11; revert HQ1; revert x9; revert x10; revert x11; revert B; revert lo; revert g; revert col; revert M; revert R; revert P; revert pg; revert pc; revert ws; revert B'; revert lo'; revert g'; revert col'; revert M'; revert R'; revert P'; revert pg'
      revert pc'; revert ws'; revert b1; revert l1; revert c1; revert p1; revert t1; revert u2; exact hS3_9ab.out
  · intro u t1 p1 c1 l1 b1 ws' pc' pg' P' R' M' col' g' lo' B' ws pc pg P R M col g lo B x10 x9 HQ1 HW10 HW9 HPL hx9_10 HA10 HA9 HB9 hHeld
    refine wpAnyH_ready (rs := [7, 8, 11]) (by kernel_rfl) (by simp) ?_; refine AllReadyH.cons rfl (fun K2 hK2 => ?_) (AllReadyH.cons rfl (fun K2 hK2 => ?_) (AllReadyH.cons rfl (fun K2 hK2 => ?_) AllReadyH.nil))
    all_goals go_simp
    · with_reducible refine Calls.mono (few37 b' l' c' p' t' v' _) ?_
      rintro e u2 ⟨b2, l2, c2, p2, t2, rfl, hq2, hb⟩; have HQ2 : Hid (FB37 b2 l2 c2 p2 t2) := Lib.hid hq2; clear hq2; replace HB9 := Lib.hid (thn HB9.out hb); replace HA9 := hpl HA9 hb; replace HA10 := hbl HA10 hb; replace HPL := Lib.hid (And.intro (HPL.out.1.later hb) HPL.out.2); refine hK2.out _ _ (s3b hHeld hb) (fun hHeld2 => ?_); clear hb; clear hK2 K2 hHeld; have hHeld := hHeld2; clear hHeld2
      try simp only [Act.put, List.setIfInBounds_toArray, List.set_cons_zero, List.set_cons_succ]
      revert hHeld; revert HB9; revert HA9; revert HA10; revert hx9_10; revert HPL; revert HW9; revert HW10; revert HQ1; revert HQ2; revert x9; revert x10; revert B; revert lo; revert g; revert col; revert M; revert R; revert P; revert pg; revert pc; revert ws; revert B'; revert lo'; revert g'; revert col'; revert M'; revert R'; revert P'; revert pg'; revert pc'; revert ws'; revert b1; revert l1; revert c1
      revert p1; revert t1; revert b2; revert l2; revert c2; revert p2; revert t2; revert u2; exact hS4_9a.out
    · obtain ⟨x8, u2, hx8, hw9, hz9, hb⟩ := pz_next u
      rw [hw9]
      try rw [hx8]
      clear hw9; have HA8n := Lib.hid (And.intro hz9 (show v3.heap.size ≤ x8 by have := HB9.out.size; omega))
      have hx8_9 : x8 ≠ x9 := by have h1 := HA9.out.1.1; omega
      have hx8_10 : x8 ≠ x10 := by have h1 := HA10.out.1.1; omega
      have HW8 := HPL.out.1.fr (Nat.le_of_eq hx8); clear hx8 hz9; replace HB9 := Lib.hid (thn HB9.out hb); replace HA9 := hpl HA9 hb; replace HA10 := hbl HA10 hb; replace HPL := Lib.hid (And.intro (HPL.out.1.later hb) HPL.out.2); have HA8 := HA8n; clear HA8n; refine hK2.out _ _ (s3b hHeld hb) (fun hHeld2 => ?_); clear hb; clear hK2 K2 hHeld; have hHeld := hHeld2; clear hHeld2
      try simp only [Act.put, List.setIfInBounds_toArray, List.set_cons_zero, List.set_cons_succ]
      revert hHeld; revert HB9; revert HA8; revert HA9; revert HA10; revert hx8_9; revert hx8_10; revert hx9_10; revert HPL; revert HW8; revert HW9; revert HW10; revert HQ1; revert x8; revert x9; revert x10; revert B; revert lo; revert g; revert col; revert M; revert R; revert P; revert pg; revert pc; revert ws; revert B'; revert lo'; revert g'; revert col'; revert M'; revert R'; revert P'; revert pg'; revert pc'
      revert ws'; revert b1; revert l1; revert c1; revert p1; revert t1; revert u2; exact hS3_89a.out
    · obtain ⟨x11, u2, hx11, hw9, hz9, hb⟩ := cz_next u
      rw [hw9]
      try rw [hx11]
      clear hw9; have HA11n := Lib.hid (And.intro hz9 (show v3.heap.size ≤ x11 by have := HB9.out.size; omega))
      have hx9_11 : x9 ≠ x11 := by have h1 := HA9.out.1.1; omega
      have hx10_11 : x10 ≠ x11 := by have h1 := HA10.out.1.1; omega
      have HW11 := HPL.out.1.fr (Nat.le_of_eq hx11); clear hx11 hz9; replace HB9 := Lib.hid (thn HB9.out hb); replace HA9 := hpl HA9 hb; replace HA10 := hbl HA10 hb; replace HPL := Lib.hid (And.intro (HPL.out.1.later hb) HPL.out.2); have HA11 := HA11n; clear HA11n; refine hK2.out _ _ (s3b hHeld hb) (fun hHeld2 => ?_); clear hb; clear hK2 K2 hHeld; have hHeld := hHeld2; clear hHeld2
      try simp only [Act.put, List.setIfInBounds_toArray, List.set_cons_zero, List.set_cons_succ]
      revert hHeld; revert HB9; revert HA9; revert HA10; revert HA11; revert hx9_10; revert hx9_11; revert hx10_11; revert HPL; revert HW9; revert HW10; revert HW11; revert HQ1; revert x9; revert x10; revert x11; revert B; revert lo; revert g; revert col; revert M; revert R; revert P; revert pg; revert pc; revert ws; revert B'; revert lo'; revert g'; revert col'; revert M'; revert R'; revert P'; revert pg'
      revert pc'; revert ws'; revert b1; revert l1; revert c1; revert p1; revert t1; revert u2; exact hS3_9ab.out
  · intro u t1 p1 c1 l1 b1 ws' pc' pg' P' R' M' col' g' lo' B' ws pc pg P R M col g lo B x11 x8 HQ1 HW11 HW8 HPL hx8_11 HA11 HA8 HB9 hHeld
    refine wpAnyH_ready (rs := [7, 9, 10]) (by kernel_rfl) (by simp) ?_; refine AllReadyH.cons rfl (fun K2 hK2 => ?_) (AllReadyH.cons rfl (fun K2 hK2 => ?_) (AllReadyH.cons rfl (fun K2 hK2 => ?_) AllReadyH.nil))
    all_goals go_simp
    · with_reducible refine Calls.mono (few37 b' l' c' p' t' v' _) ?_
      rintro e u2 ⟨b2, l2, c2, p2, t2, rfl, hq2, hb⟩; have HQ2 : Hid (FB37 b2 l2 c2 p2 t2) := Lib.hid hq2; clear hq2; replace HB9 := Lib.hid (thn HB9.out hb); replace HA8 := hpl HA8 hb; replace HA11 := hbl HA11 hb; replace HPL := Lib.hid (And.intro (HPL.out.1.later hb) HPL.out.2); refine hK2.out _ _ (s3b hHeld hb) (fun hHeld2 => ?_); clear hb; clear hK2 K2 hHeld; have hHeld := hHeld2; clear hHeld2
      try simp only [Act.put, List.setIfInBounds_toArray, List.set_cons_zero, List.set_cons_succ]
      revert hHeld; revert HB9; revert HA8; revert HA11; revert hx8_11; revert HPL; revert HW8; revert HW11; revert HQ1; revert HQ2; revert x8; revert x11; revert B; revert lo; revert g; revert col; revert M; revert R; revert P; revert pg; revert pc; revert ws; revert B'; revert lo'; revert g'; revert col'; revert M'; revert R'; revert P'; revert pg'; revert pc'; revert ws'; revert b1; revert l1; revert c1
      revert p1; revert t1; revert b2; revert l2; revert c2; revert p2; revert t2; revert u2; exact hS4_8b.out
    · obtain ⟨x9, u2, hx9, hw9, hz9, hb⟩ := pz_next u
      rw [hw9]
      try rw [hx9]
      clear hw9; have HA9n := Lib.hid (And.intro hz9 (show v3.heap.size ≤ x9 by have := HB9.out.size; omega))
      have hx8_9 : x8 ≠ x9 := by have h1 := HA8.out.1.1; omega
      have hx9_11 : x9 ≠ x11 := by have h1 := HA11.out.1.1; omega
      have HW9 := HPL.out.1.fr (Nat.le_of_eq hx9); clear hx9 hz9; replace HB9 := Lib.hid (thn HB9.out hb); replace HA8 := hpl HA8 hb; replace HA11 := hbl HA11 hb; replace HPL := Lib.hid (And.intro (HPL.out.1.later hb) HPL.out.2); have HA9 := HA9n; clear HA9n; refine hK2.out _ _ (s3b hHeld hb) (fun hHeld2 => ?_); clear hb; clear hK2 K2 hHeld; have hHeld := hHeld2; clear hHeld2
      try simp only [Act.put, List.setIfInBounds_toArray, List.set_cons_zero, List.set_cons_succ]
      revert hHeld; revert HB9; revert HA8; revert HA9; revert HA11; revert hx8_9; revert hx8_11; revert hx9_11; revert HPL; revert HW8; revert HW9; revert HW11; revert HQ1; revert x8; revert x9; revert x11; revert B; revert lo; revert g; revert col; revert M; revert R; revert P; revert pg; revert pc; revert ws; revert B'; revert lo'; revert g'; revert col'; revert M'; revert R'; revert P'; revert pg'; revert pc'
      revert ws'; revert b1; revert l1; revert c1; revert p1; revert t1; revert u2; exact hS3_89b.out
    · obtain ⟨x10, u2, hx10, hw9, hz9, hb⟩ := cz_next u
      rw [hw9]
      try rw [hx10]
      clear hw9; have HA10n := Lib.hid (And.intro hz9 (show v3.heap.size ≤ x10 by have := HB9.out.size; omega))
      have hx8_10 : x8 ≠ x10 := by have h1 := HA8.out.1.1; omega
      have hx10_11 : x10 ≠ x11 := by have h1 := HA11.out.1.1; omega
      have HW10 := HPL.out.1.fr (Nat.le_of_eq hx10); clear hx10 hz9; replace HB9 := Lib.hid (thn HB9.out hb); replace HA8 := hpl HA8 hb; replace HA11 := hbl HA11 hb; replace HPL := Lib.hid (And.intro (HPL.out.1.later hb) HPL.out.2); have HA10 := HA10n; clear HA10n; refine hK2.out _ _ (s3b hHeld hb) (fun hHeld2 => ?_); clear hb; clear hK2 K2 hHeld; have hHeld := hHeld2; clear hHeld2
      try simp only [Act.put, List.setIfInBounds_toArray, List.set_cons_zero, List.set_cons_succ]
      revert hHeld; revert HB9; revert HA8; revert HA10; revert HA11; revert hx8_10; revert hx8_11; revert hx10_11; revert HPL; revert HW8; revert HW10; revert HW11; revert HQ1; revert x8; revert x10; revert x11; revert B; revert lo; revert g; revert col; revert M; revert R; revert P; revert pg; revert pc; revert ws; revert B'; revert lo'; revert g'; revert col'; revert M'; revert R'; revert P'; revert pg'
      revert pc'; revert ws'; revert b1; revert l1; revert c1; revert p1; revert t1; revert u2; exact hS3_8ab.out
  · intro u t1 p1 c1 l1 b1 ws' pc' pg' P' R' M' col' g' lo' B' ws pc pg P R M col g lo B x10 x8 HQ1 HW10 HW8 HPL hx8_10 HA10 HA8 HB9 hHeld
    refine wpAnyH_ready (rs := [7, 9, 11]) (by kernel_rfl) (by simp) ?_; refine AllReadyH.cons rfl (fun K2 hK2 => ?_) (AllReadyH.cons rfl (fun K2 hK2 => ?_) (AllReadyH.cons rfl (fun K2 hK2 => ?_) AllReadyH.nil))
    all_goals go_simp
    · with_reducible refine Calls.mono (few37 b' l' c' p' t' v' _) ?_
      rintro e u2 ⟨b2, l2, c2, p2, t2, rfl, hq2, hb⟩; have HQ2 : Hid (FB37 b2 l2 c2 p2 t2) := Lib.hid hq2; clear hq2; replace HB9 := Lib.hid (thn HB9.out hb); replace HA8 := hpl HA8 hb; replace HA10 := hbl HA10 hb; replace HPL := Lib.hid (And.intro (HPL.out.1.later hb) HPL.out.2); refine hK2.out _ _ (s3b hHeld hb) (fun hHeld2 => ?_); clear hb; clear hK2 K2 hHeld; have hHeld := hHeld2; clear hHeld2
      try simp only [Act.put, List.setIfInBounds_toArray, List.set_cons_zero, List.set_cons_succ]
      revert hHeld; revert HB9; revert HA8; revert HA10; revert hx8_10; revert HPL; revert HW8; revert HW10; revert HQ1; revert HQ2; revert x8; revert x10; revert B; revert lo; revert g; revert col; revert M; revert R; revert P; revert pg; revert pc; revert ws; revert B'; revert lo'; revert g'; revert col'; revert M'; revert R'; revert P'; revert pg'; revert pc'; revert ws'; revert b1; revert l1; revert c1
      revert p1; revert t1; revert b2; revert l2; revert c2; revert p2; revert t2; revert u2; exact hS4_8a.out
    · obtain ⟨x9, u2, hx9, hw9, hz9, hb⟩ := pz_next u
      rw [hw9]
      try rw [hx9]
      clear hw9; have HA9n := Lib.hid (And.intro hz9 (show v3.heap.size ≤ x9 by have := HB9.out.size; omega))
      have hx8_9 : x8 ≠ x9 := by have h1 := HA8.out.1.1; omega
      have hx9_10 : x9 ≠ x10 := by have h1 := HA10.out.1.1; omega
      have HW9 := HPL.out.1.fr (Nat.le_of_eq hx9); clear hx9 hz9; replace HB9 := Lib.hid (thn HB9.out hb); replace HA8 := hpl HA8 hb; replace HA10 := hbl HA10 hb; replace HPL := Lib.hid (And.intro (HPL.out.1.later hb) HPL.out.2); have HA9 := HA9n; clear HA9n; refine hK2.out _ _ (s3b hHeld hb) (fun hHeld2 => ?_); clear hb; clear hK2 K2 hHeld; have hHeld := hHeld2; clear hHeld2
      try simp only [Act.put, List.setIfInBounds_toArray, List.set_cons_zero, List.set_cons_succ]
      revert hHeld; revert HB9; revert HA8; revert HA9; revert HA10; revert hx8_9; revert hx8_10; revert hx9_10; revert HPL; revert HW8; revert HW9; revert HW10; revert HQ1; revert x8; revert x9; revert x10; revert B; revert lo; revert g; revert col; revert M; revert R; revert P; revert pg; revert pc; revert ws; revert B'; revert lo'; revert g'; revert col'; revert M'; revert R'; revert P'; revert pg'; revert pc'
      revert ws'; revert b1; revert l1; revert c1; revert p1; revert t1; revert u2; exact hS3_89a.out
    · obtain ⟨x11, u2, hx11, hw9, hz9, hb⟩ := cz_next u
      rw [hw9]
      try rw [hx11]
      clear hw9; have HA11n := Lib.hid (And.intro hz9 (show v3.heap.size ≤ x11 by have := HB9.out.size; omega))
      have hx8_11 : x8 ≠ x11 := by have h1 := HA8.out.1.1; omega
      have hx10_11 : x10 ≠ x11 := by have h1 := HA10.out.1.1; omega
      have HW11 := HPL.out.1.fr (Nat.le_of_eq hx11); clear hx11 hz9; replace HB9 := Lib.hid (thn HB9.out hb); replace HA8 := hpl HA8 hb; replace HA10 := hbl HA10 hb; replace HPL := Lib.hid (And.intro (HPL.out.1.later hb) HPL.out.2); have HA11 := HA11n; clear HA11n; refine hK2.out _ _ (s3b hHeld hb) (fun hHeld2 => ?_); clear hb; clear hK2 K2 hHeld; have hHeld := hHeld2; clear hHeld2
      try simp only [Act.put, List.setIfInBounds_toArray, List.set_cons_zero, List.set_cons_succ]
      revert hHeld; revert HB9; revert HA8; revert HA10; revert HA11; revert hx8_10; revert hx8_11; revert hx10_11; revert HPL; revert HW8; revert HW10; revert HW11; revert HQ1; revert x8; revert x10; revert x11; revert B; revert lo; revert g; revert col; revert M; revert R; revert P; revert pg; revert pc; revert ws; revert B'; revert lo'; revert g'; revert col'; revert M'; revert R'; revert P'; revert pg'
      revert pc'; revert ws'; revert b1; revert l1; revert c1; revert p1; revert t1; revert u2; exact hS3_8ab.out
  · intro u t1 p1 c1 l1 b1 ws' pc' pg' P' R' M' col' g' lo' B' ws pc pg P R M col g lo B x9 x8 HQ1 HW9 HW8 HPL hx8_9 HA9 HA8 HB9 hHeld
    refine wpAnyH_ready (rs := [7, 10, 11]) (by kernel_rfl) (by simp) ?_; refine AllReadyH.cons rfl (fun K2 hK2 => ?_) (AllReadyH.cons rfl (fun K2 hK2 => ?_) (AllReadyH.cons rfl (fun K2 hK2 => ?_) AllReadyH.nil))
    all_goals go_simp
    · with_reducible refine Calls.mono (few37 b' l' c' p' t' v' _) ?_
      rintro e u2 ⟨b2, l2, c2, p2, t2, rfl, hq2, hb⟩; have HQ2 : Hid (FB37 b2 l2 c2 p2 t2) := Lib.hid hq2; clear hq2; replace HB9 := Lib.hid (thn HB9.out hb); replace HA8 := hpl HA8 hb; replace HA9 := hpl HA9 hb; replace HPL := Lib.hid (And.intro (HPL.out.1.later hb) HPL.out.2); refine hK2.out _ _ (s3b hHeld hb) (fun hHeld2 => ?_); clear hb; clear hK2 K2 hHeld; have hHeld := hHeld2; clear hHeld2
      try simp only [Act.put, List.setIfInBounds_toArray, List.set_cons_zero, List.set_cons_succ]
      revert hHeld; revert HB9; revert HA8; revert HA9; revert hx8_9; revert HPL; revert HW8; revert HW9; revert HQ1; revert HQ2; revert x8; revert x9; revert B; revert lo; revert g; revert col; revert M; revert R; revert P; revert pg; revert pc; revert ws; revert B'; revert lo'; revert g'; revert col'; revert M'; revert R'; revert P'; revert pg'; revert pc'; revert ws'; revert b1; revert l1; revert c1; revert p1
      revert t1; revert b2; revert l2; revert c2; revert p2; revert t2; revert u2; exact hS4_89.out
    · obtain ⟨x10, u2, hx10, hw9, hz9, hb⟩ := cz_next u
      rw [hw9]
      try rw [hx10]
      clear hw9; have HA10n := Lib.hid (And.intro hz9 (show v3.heap.size ≤ x10 by have := HB9.out.size; omega))
      have hx8_10 : x8 ≠ x10 := by have h1 := HA8.out.1.1; omega
      have hx9_10 : x9 ≠ x10 := by have h1 := HA9.out.1.1; omega
      have HW10 := HPL.out.1.fr (Nat.le_of_eq hx10); clear hx10 hz9; replace HB9 := Lib.hid (thn HB9.out hb); replace HA8 := hpl HA8 hb; replace HA9 := hpl HA9 hb; replace HPL := Lib.hid (And.intro (HPL.out.1.later hb) HPL.out.2); have HA10 := HA10n; clear HA10n; refine hK2.out _ _ (s3b hHeld hb) (fun hHeld2 => ?_); clear hb; clear hK2 K2 hHeld; have hHeld := hHeld2; clear hHeld2
      try simp only [Act.put, List.setIfInBounds_toArray, List.set_cons_zero, List.set_cons_succ]
      revert hHeld; revert HB9; revert HA8; revert HA9; revert HA10; revert hx8_9; revert hx8_10; revert hx9_10; revert HPL; revert HW8; revert HW9; revert HW10; revert HQ1; revert x8; revert x9; revert x10; revert B; revert lo; revert g; revert col; revert M; revert R; revert P; revert pg; revert pc; revert ws; revert B'; revert lo'; revert g'; revert col'; revert M'; revert R'; revert P'; revert pg'; revert pc'
      revert ws'; revert b1; revert l1; revert c1; revert p1; revert t1; revert u2; exact hS3_89a.out
    · obtain ⟨x11, u2, hx11, hw9, hz9, hb⟩ := cz_next u
      rw [hw9]
      try rw [hx11]
      clear hw9; have HA11n := Lib.hid (And.intro hz9 (show v3.heap.size ≤ x11 by have := HB9.out.size; omega))
      have hx8_11 : x8 ≠ x11 := by have h1 := HA8.out.1.1; omega
      have hx9_11 : x9 ≠ x11 := by have h1 := HA9.out.1.1; omega
      have HW11 := HPL.out.1.fr (Nat.le_of_eq hx11); clear hx11 hz9; replace HB9 := Lib.hid (thn HB9.out hb); replace HA8 := hpl HA8 hb; replace HA9 := hpl HA9 hb; replace HPL := Lib.hid (And.intro (HPL.out.1.later hb) HPL.out.2); have HA11 := HA11n; clear HA11n; refine hK2.out _ _ (s3b hHeld hb) (fun hHeld2 => ?_); clear hb; clear hK2 K2 hHeld; have hHeld := hHeld2; clear hHeld2
      try simp only [Act.put, List.setIfInBounds_toArray, List.set_cons_zero, List.set_cons_succ]
      revert hHeld; revert HB9; revert HA8; revert HA9; revert HA11; revert hx8_9; revert hx8_11; revert hx9_11; revert HPL; revert HW8; revert HW9; revert HW11; revert HQ1; revert x8; revert x9; revert x11; revert B; revert lo; revert g; revert col; revert M; revert R; revert P; revert pg; revert pc; revert ws; revert B'; revert lo'; revert g'; revert col'; revert M'; revert R'; revert P'; revert pg'; revert pc'
      revert ws'; revert b1; revert l1; revert c1; revert p1; revert t1; revert u2; exact hS3_89b.out
  · intro u t2 p2 c2 l2 b2 t1 p1 c1 l1 b1 ws' pc' pg' P' R' M' col' g' lo' B' ws pc pg P R M col g lo B x11 HQ2 HQ1 HW11 HPL HA11 HB9 hHeld
    refine wpAnyH_ready (rs := [8, 9, 10]) (by kernel_rfl) (by simp) ?_; refine AllReadyH.cons rfl (fun K2 hK2 => ?_) (AllReadyH.cons rfl (fun K2 hK2 => ?_) (AllReadyH.cons rfl (fun K2 hK2 => ?_) AllReadyH.nil))
    all_goals go_simp
    · obtain ⟨x8, u2, hx8, hw9, hz9, hb⟩ := pz_next u
      rw [hw9]
      try rw [hx8]
      clear hw9; have HA8n := Lib.hid (And.intro hz9 (show v3.heap.size ≤ x8 by have := HB9.out.size; omega))
      have hx8_11 : x8 ≠ x11 := by have h1 := HA11.out.1.1; omega
      have HW8 := HPL.out.1.fr (Nat.le_of_eq hx8); clear hx8 hz9; replace HB9 := Lib.hid (thn HB9.out hb); replace HA11 := hbl HA11 hb; replace HPL := Lib.hid (And.intro (HPL.out.1.later hb) HPL.out.2); have HA8 := HA8n; clear HA8n; refine hK2.out _ _ (s3b hHeld hb) (fun hHeld2 => ?_); clear hb; clear hK2 K2 hHeld; have hHeld := hHeld2; clear hHeld2
      try simp only [Act.put, List.setIfInBounds_toArray, List.set_cons_zero, List.set_cons_succ]
      revert hHeld; revert HB9; revert HA8; revert HA11; revert hx8_11; revert HPL; revert HW8; revert HW11; revert HQ1; revert HQ2; revert x8; revert x11; revert B; revert lo; revert g; revert col; revert M; revert R; revert P; revert pg; revert pc; revert ws; revert B'; revert lo'; revert g'; revert col'; revert M'; revert R'; revert P'; revert pg'; revert pc'; revert ws'; revert b1; revert l1; revert c1
      revert p1; revert t1; revert b2; revert l2; revert c2; revert p2; revert t2; revert u2; exact hS4_8b.out
    · obtain ⟨x9, u2, hx9, hw9, hz9, hb⟩ := pz_next u
      rw [hw9]
      try rw [hx9]
      clear hw9; have HA9n := Lib.hid (And.intro hz9 (show v3.heap.size ≤ x9 by have := HB9.out.size; omega))
      have hx9_11 : x9 ≠ x11 := by have h1 := HA11.out.1.1; omega
      have HW9 := HPL.out.1.fr (Nat.le_of_eq hx9); clear hx9 hz9; replace HB9 := Lib.hid (thn HB9.out hb); replace HA11 := hbl HA11 hb; replace HPL := Lib.hid (And.intro (HPL.out.1.later hb) HPL.out.2); have HA9 := HA9n; clear HA9n; refine hK2.out _ _ (s3b hHeld hb) (fun hHeld2 => ?_); clear hb; clear hK2 K2 hHeld; have hHeld := hHeld2; clear hHeld2
      try simp only [Act.put, List.setIfInBounds_toArray, List.set_cons_zero, List.set_cons_succ]
      revert hHeld; revert HB9; revert HA9; revert HA11; revert hx9_11; revert HPL; revert HW9; revert HW11; revert HQ1; revert HQ2; revert x9; revert x11; revert B; revert lo; revert g; revert col; revert M; revert R; revert P; revert pg; revert pc; revert ws; revert B'; revert lo'; revert g'; revert col'; revert M'; revert R'; revert P'; revert pg'; revert pc'; revert ws'; revert b1; revert l1; revert c1
      revert p1; revert t1; revert b2; revert l2; revert c2; revert p2; revert t2; revert u2; exact hS4_9b.out
    · obtain ⟨x10, u2, hx10, hw9, hz9, hb⟩ := cz_next u
      rw [hw9]
      try rw [hx10]
      clear hw9; have HA10n := Lib.hid (And.intro hz9 (show v3.heap.size ≤ x10 by have := HB9.out.size; omega))
      have hx10_11 : x10 ≠ x11 := by have h1 := HA11.out.1.1; omega
      have HW10 := HPL.out.1.fr (Nat.le_of_eq hx10); clear hx10 hz9; replace HB9 := Lib.hid (thn HB9.out hb); replace HA11 := hbl HA11 hb; replace HPL := Lib.hid (And.intro (HPL.out.1.later hb) HPL.out.2); have HA10 := HA10n; clear HA10n; refine hK2.out _ _ (s3b hHeld hb) (fun hHeld2 => ?_); clear hb; clear hK2 K2 hHeld; have hHeld := hHeld2; clear hHeld2
      try simp only [Act.put, List.setIfInBounds_toArray, List.set_cons_zero, List.set_cons_succ]
      revert hHeld; revert HB9; revert HA10; revert HA11; revert hx10_11; revert HPL; revert HW10; revert HW11; revert HQ1; revert HQ2; revert x10; revert x11; revert B; revert lo; revert g; revert col; revert M; revert R; revert P; revert pg; revert pc; revert ws; revert B'; revert lo'; revert g'; revert col'; revert M'; revert R'; revert P'; revert pg'; revert pc'; revert ws'; revert b1; revert l1; revert c1
      revert p1; revert t1; revert b2; revert l2; revert c2; revert p2; revert t2; revert u2; exact hS4_ab.out
  · intro u t2 p2 c2 l2 b2 t1 p1 c1 l1 b1 ws' pc' pg' P' R' M' col' g' lo' B' ws pc pg P R M col g lo B x10 HQ2 HQ1 HW10 HPL HA10 HB9 hHeld
    refine wpAnyH_ready (rs := [8, 9, 11]) (by kernel_rfl) (by simp) ?_; refine AllReadyH.cons rfl (fun K2 hK2 => ?_) (AllReadyH.cons rfl (fun K2 hK2 => ?_) (AllReadyH.cons rfl (fun K2 hK2 => ?_) AllReadyH.nil))
    all_goals go_simp
    · obtain ⟨x8, u2, hx8, hw9, hz9, hb⟩ := pz_next u
      rw [hw9]
      try rw [hx8]
      clear hw9; have HA8n := Lib.hid (And.intro hz9 (show v3.heap.size ≤ x8 by have := HB9.out.size; omega))
      have hx8_10 : x8 ≠ x10 := by have h1 := HA10.out.1.1; omega
      have HW8 := HPL.out.1.fr (Nat.le_of_eq hx8); clear hx8 hz9; replace HB9 := Lib.hid (thn HB9.out hb); replace HA10 := hbl HA10 hb; replace HPL := Lib.hid (And.intro (HPL.out.1.later hb) HPL.out.2); have HA8 := HA8n; clear HA8n; refine hK2.out _ _ (s3b hHeld hb) (fun hHeld2 => ?_); clear hb; clear hK2 K2 hHeld; have hHeld := hHeld2; clear hHeld2
      try simp only [Act.put, List.setIfInBounds_toArray, List.set_cons_zero, List.set_cons_succ]
      revert hHeld; revert HB9; revert HA8; revert HA10; revert hx8_10; revert HPL; revert HW8; revert HW10; revert HQ1; revert HQ2; revert x8; revert x10; revert B; revert lo; revert g; revert col; revert M; revert R; revert P; revert pg; revert pc; revert ws; revert B'; revert lo'; revert g'; revert col'; revert M'; revert R'; revert P'; revert pg'; revert pc'; revert ws'; revert b1; revert l1; revert c1
      revert p1; revert t1; revert b2; revert l2; revert c2; revert p2; revert t2; revert u2; exact hS4_8a.out
    · obtain ⟨x9, u2, hx9, hw9, hz9, hb⟩ := pz_next u
      rw [hw9]
      try rw [hx9]
      clear hw9; have HA9n := Lib.hid (And.intro hz9 (show v3.heap.size ≤ x9 by have := HB9.out.size; omega))
      have hx9_10 : x9 ≠ x10 := by have h1 := HA10.out.1.1; omega
      have HW9 := HPL.out.1.fr (Nat.le_of_eq hx9); clear hx9 hz9; replace HB9 := Lib.hid (thn HB9.out hb); replace HA10 := hbl HA10 hb; replace HPL := Lib.hid (And.intro (HPL.out.1.later hb) HPL.out.2); have HA9 := HA9n; clear HA9n; refine hK2.out _ _ (s3b hHeld hb) (fun hHeld2 => ?_); clear hb; clear hK2 K2 hHeld; have hHeld := hHeld2; clear hHeld2
      try simp only [Act.put, List.setIfInBounds_toArray, List.set_cons_zero, List.set_cons_succ]
      revert hHeld; revert HB9; revert HA9; revert HA10; revert hx9_10; revert HPL; revert HW9; revert HW10; revert HQ1; revert HQ2; revert x9; revert x10; revert B; revert lo; revert g; revert col; revert M; revert R; revert P; revert pg; revert pc; revert ws; revert B'; revert lo'; revert g'; revert col'; revert M'; revert R'; revert P'; revert pg'; revert pc'; revert ws'; revert b1; revert l1; revert c1
      revert p1; revert t1; revert b2; revert l2; revert c2; revert p2; revert t2; revert u2; exact hS4_9a.out
    · obtain ⟨x11, u2, hx11, hw9, hz9, hb⟩ := cz_next u
      rw [hw9]
      try rw [hx11]
      clear hw9; have HA11n := Lib.hid (And.intro hz9 (show v3.heap.size ≤ x11 by have := HB9.out.size; omega))
      have hx10_11 : x10 ≠ x11 := by have h1 := HA10.out.1.1; omega
      have HW11 := HPL.out.1.fr (Nat.le_of_eq hx11); clear hx11 hz9; replace HB9 := Lib.hid (thn HB9.out hb); replace HA10 := hbl HA10 hb; replace HPL := Lib.hid (And.intro (HPL.out.1.later hb) HPL.out.2); have HA11 := HA11n; clear HA11n; refine hK2.out _ _ (s3b hHeld hb) (fun hHeld2 => ?_); clear hb; clear hK2 K2 hHeld; have hHeld := hHeld2; clear hHeld2
      try simp only [Act.put, List.setIfInBounds_toArray, List.set_cons_zero, List.set_cons_succ]
      revert hHeld; revert HB9; revert HA10; revert HA11; revert hx10_11; revert HPL; revert HW10; revert HW11; revert HQ1; revert HQ2; revert x10; revert x11; revert B; revert lo; revert g; revert col; revert M; revert R; revert P; revert pg; revert pc; revert ws; revert B'; revert lo'; revert g'; revert col'; revert M'; revert R'; revert P'; revert pg'; revert pc'; revert ws'; revert b1; revert l1; revert c1
      revert p1; revert t1; revert b2; revert l2; revert c2; revert p2; revert t2; revert u2; exact hS4_ab.out
  · intro u t2 p2 c2 l2 b2 t1 p1 c1 l1 b1 ws' pc' pg' P' R' M' col' g' lo' B' ws pc pg P R M col g lo B x9 HQ2 HQ1 HW9 HPL HA9 HB9 hHeld
    refine wpAnyH_ready (rs := [8, 10, 11]) (by kernel_rfl) (by simp) ?_; refine AllReadyH.cons rfl (fun K2 hK2 => ?_) (AllReadyH.cons rfl (fun K2 hK2 => ?_) (AllReadyH.cons rfl (fun K2 hK2 => ?_) AllReadyH.nil))
    all_goals go_simp
    · obtain ⟨x8, u2, hx8, hw9, hz9, hb⟩ := pz_next u
      rw [hw9]
      try rw [hx8]
      clear hw9; have HA8n := Lib.hid (And.intro hz9 (show v3.heap.size ≤ x8 by have := HB9.out.size; omega))
      have hx8_9 : x8 ≠ x9 := by have h1 := HA9.out.1.1; omega
      have HW8 := HPL.out.1.fr (Nat.le_of_eq hx8); clear hx8 hz9; replace HB9 := Lib.hid (thn HB9.out hb); replace HA9 := hpl HA9 hb; replace HPL := Lib.hid (And.intro (HPL.out.1.later hb) HPL.out.2); have HA8 := HA8n; clear HA8n; refine hK2.out _ _ (s3b hHeld hb) (fun hHeld2 => ?_); clear hb; clear hK2 K2 hHeld; have hHeld := hHeld2; clear hHeld2
      try simp only [Act.put, List.setIfInBounds_toArray, List.set_cons_zero, List.set_cons_succ]
      revert hHeld; revert HB9; revert HA8; revert HA9; revert hx8_9; revert HPL; revert HW8; revert HW9; revert HQ1; revert HQ2; revert x8; revert x9; revert B; revert lo; revert g; revert col; revert M; revert R; revert P; revert pg; revert pc; revert ws; revert B'; revert lo'; revert g'; revert col'; revert M'; revert R'; revert P'; revert pg'; revert pc'; revert ws'; revert b1; revert l1; revert c1; revert p1
      revert t1; revert b2; revert l2; revert c2; revert p2; revert t2; revert u2; exact hS4_89.out
    · obtain ⟨x10, u2, hx10, hw9, hz9, hb⟩ := cz_next u
      rw [hw9]
      try rw [hx10]
      clear hw9; have HA10n := Lib.hid (And.intro hz9 (show v3.heap.size ≤ x10 by have := HB9.out.size; omega))
      have hx9_10 : x9 ≠ x10 := by have h1 := HA9.out.1.1; omega
      have HW10 := HPL.out.1.fr (Nat.le_of_eq hx10); clear hx10 hz9; replace HB9 := Lib.hid (thn HB9.out hb); replace HA9 := hpl HA9 hb; replace HPL := Lib.hid (And.intro (HPL.out.1.later hb) HPL.out.2); have HA10 := HA10n; clear HA10n; refine hK2.out _ _ (s3b hHeld hb) (fun hHeld2 => ?_); clear hb; clear hK2 K2 hHeld; have hHeld := hHeld2; clear hHeld2
      try simp only [Act.put, List.setIfInBounds_toArray, List.set_cons_zero, List.set_cons_succ]
      revert hHeld; revert HB9; revert HA9; revert HA10; revert hx9_10; revert HPL; revert HW9; revert HW10; revert HQ1; revert HQ2; revert x9; revert x10; revert B; revert lo; revert g; revert col; revert M; revert R; revert P; revert pg; revert pc; revert ws; revert B'; revert lo'; revert g'; revert col'; revert M'; revert R'; revert P'; revert pg'; revert pc'; revert ws'; revert b1; revert l1; revert c1
      revert p1; revert t1; revert b2; revert l2; revert c2; revert p2; revert t2; revert u2; exact hS4_9a.out
    · obtain ⟨x11, u2, hx11, hw9, hz9, hb⟩ := cz_next u
      rw [hw9]
      try rw [hx11]
      clear hw9; have HA11n := Lib.hid (And.intro hz9 (show v3.heap.size ≤ x11 by have := HB9.out.size; omega))
      have hx9_11 : x9 ≠ x11 := by have h1 := HA9.out.1.1; omega
      have HW11 := HPL.out.1.fr (Nat.le_of_eq hx11); clear hx11 hz9; replace HB9 := Lib.hid (thn HB9.out hb); replace HA9 := hpl HA9 hb; replace HPL := Lib.hid (And.intro (HPL.out.1.later hb) HPL.out.2); have HA11 := HA11n; clear HA11n; refine hK2.out _ _ (s3b hHeld hb) (fun hHeld2 => ?_); clear hb; clear hK2 K2 hHeld; have hHeld := hHeld2; clear hHeld2
      try simp only [Act.put, List.setIfInBounds_toArray, List.set_cons_zero, List.set_cons_succ]
      revert hHeld; revert HB9; revert HA9; revert HA11; revert hx9_11; revert HPL; revert HW9; revert HW11; revert HQ1; revert HQ2; revert x9; revert x11; revert B; revert lo; revert g; revert col; revert M; revert R; revert P; revert pg; revert pc; revert ws; revert B'; revert lo'; revert g'; revert col'; revert M'; revert R'; revert P'; revert pg'; revert pc'; revert ws'; revert b1; revert l1; revert c1
      revert p1; revert t1; revert b2; revert l2; revert c2; revert p2; revert t2; revert u2; exact hS4_9b.out
  · intro u t2 p2 c2 l2 b2 t1 p1 c1 l1 b1 ws' pc' pg' P' R' M' col' g' lo' B' ws pc pg P R M col g lo B x8 HQ2 HQ1 HW8 HPL HA8 HB9 hHeld
    refine wpAnyH_ready (rs := [9, 10, 11]) (by kernel_rfl) (by simp) ?_; refine AllReadyH.cons rfl (fun K2 hK2 => ?_) (AllReadyH.cons rfl (fun K2 hK2 => ?_) (AllReadyH.cons rfl (fun K2 hK2 => ?_) AllReadyH.nil))
    all_goals go_simp
    · obtain ⟨x9, u2, hx9, hw9, hz9, hb⟩ := pz_next u
      rw [hw9]
      try rw [hx9]
      clear hw9; have HA9n := Lib.hid (And.intro hz9 (show v3.heap.size ≤ x9 by have := HB9.out.size; omega))
      have hx8_9 : x8 ≠ x9 := by have h1 := HA8.out.1.1; omega
      have HW9 := HPL.out.1.fr (Nat.le_of_eq hx9); clear hx9 hz9; replace HB9 := Lib.hid (thn HB9.out hb); replace HA8 := hpl HA8 hb; replace HPL := Lib.hid (And.intro (HPL.out.1.later hb) HPL.out.2); have HA9 := HA9n; clear HA9n; refine hK2.out _ _ (s3b hHeld hb) (fun hHeld2 => ?_); clear hb; clear hK2 K2 hHeld; have hHeld := hHeld2; clear hHeld2
      try simp only [Act.put, List.setIfInBounds_toArray, List.set_cons_zero, List.set_cons_succ]
      revert hHeld; revert HB9; revert HA8; revert HA9; revert hx8_9; revert HPL; revert HW8; revert HW9; revert HQ1; revert HQ2; revert x8; revert x9; revert B; revert lo; revert g; revert col; revert M; revert R; revert P; revert pg; revert pc; revert ws; revert B'; revert lo'; revert g'; revert col'; revert M'; revert R'; revert P'; revert pg'; revert pc'; revert ws'; revert b1; revert l1; revert c1; revert p1
      revert t1; revert b2; revert l2; revert c2; revert p2; revert t2; revert u2; exact hS4_89.out
    · obtain ⟨x10, u2, hx10, hw9, hz9, hb⟩ := cz_next u
      rw [hw9]
      try rw [hx10]
      clear hw9; have HA10n := Lib.hid (And.intro hz9 (show v3.heap.size ≤ x10 by have := HB9.out.size; omega))
      have hx8_10 : x8 ≠ x10 := by have h1 := HA8.out.1.1; omega
      have HW10 := HPL.out.1.fr (Nat.le_of_eq hx10); clear hx10 hz9; replace HB9 := Lib.hid (thn HB9.out hb); replace HA8 := hpl HA8 hb; replace HPL := Lib.hid (And.intro (HPL.out.1.later hb) HPL.out.2); have HA10 := HA10n; clear HA10n; refine hK2.out _ _ (s3b hHeld hb) (fun hHeld2 => ?_); clear hb; clear hK2 K2 hHeld; have hHeld := hHeld2; clear hHeld2
      try simp only [Act.put, List.setIfInBounds_toArray, List.set_cons_zero, List.set_cons_succ]
      revert hHeld; revert HB9; revert HA8; revert HA10; revert hx8_10; revert HPL; revert HW8; revert HW10; revert HQ1; revert HQ2; revert x8; revert x10; revert B; revert lo; revert g; revert col; revert M; revert R; revert P; revert pg; revert pc; revert ws; revert B'; revert lo'; revert g'; revert col'; revert M'; revert R'; revert P'; revert pg'; revert pc'; revert ws'; revert b1; revert l1; revert c1
      revert p1; revert t1; revert b2; revert l2; revert c2; revert p2; revert t2; revert u2; exact hS4_8a.out
    · obtain ⟨x11, u2, hx11, hw9, hz9, hb⟩ := cz_next u
      rw [hw9]
      try rw [hx11]
      clear hw9; have HA11n := Lib.hid (And.intro hz9 (show v3.heap.size ≤ x11 by have := HB9.out.size; omega))
      have hx8_11 : x8 ≠ x11 := by have h1 := HA8.out.1.1; omega
      have HW11 := HPL.out.1.fr (Nat.le_of_eq hx11); clear hx11 hz9; replace HB9 := Lib.hid (thn HB9.out hb); replace HA8 := hpl HA8 hb; replace HPL := Lib.hid (And.intro (HPL.out.1.later hb) HPL.out.2); have HA11 := HA11n; clear HA11n; refine hK2.out _ _ (s3b hHeld hb) (fun hHeld2 => ?_); clear hb; clear hK2 K2 hHeld; have hHeld := hHeld2; clear hHeld2
      try simp only [Act.put, List.setIfInBounds_toArray, List.set_cons_zero, List.set_cons_succ]
      revert hHeld; revert HB9; revert HA8; revert HA11; revert hx8_11; revert HPL; revert HW8; revert HW11; revert HQ1; revert HQ2; revert x8; revert x11; revert B; revert lo; revert g; revert col; revert M; revert R; revert P; revert pg; revert pc; revert ws; revert B'; revert lo'; revert g'; revert col'; revert M'; revert R'; revert P'; revert pg'; revert pc'; revert ws'; revert b1; revert l1; revert c1
      revert p1; revert t1; revert b2; revert l2; revert c2; revert p2; revert t2; revert u2; exact hS4_8b.out
  · intro u ws' pc' pg' P' R' M' col' g' lo' B' ws pc pg P R M col g lo B x11 x10 x9 x8 HW11 HW10 HW9 HW8 HPL hx10_11 hx9_11 hx9_10 hx8_11 hx8_10 hx8_9 HA11 HA10 HA9 HA8 HB9 hHeld
    refine wpAnyH_ready (rs := [5]) (by kernel_rfl) (by simp) ?_; refine AllReadyH.cons rfl (fun K2 hK2 => ?_) AllReadyH.nil
    go_simp
    with_reducible refine Calls.mono (few37 b l c p t v _) ?_
    rintro e u2 ⟨b1, l1, c1, p1, t1, rfl, hq1, hb⟩; have HQ1 : Hid (FB37 b1 l1 c1 p1 t1) := Lib.hid hq1; clear hq1; replace HB9 := Lib.hid (thn HB9.out hb); replace HA8 := hpl HA8 hb; replace HA9 := hpl HA9 hb; replace HA10 := hbl HA10 hb; replace HA11 := hbl HA11 hb; replace HPL := Lib.hid (And.intro (HPL.out.1.later hb) HPL.out.2); refine hK2.out _ _ (s3b hHeld hb) (fun hHeld2 => ?_); clear hb; clear hK2 K2 hHeld
    have hHeld := hHeld2; clear hHeld2
    try simp only [Act.put, List.setIfInBounds_toArray, List.set_cons_zero, List.set_cons_succ]
    revert hHeld; revert HB9; revert HA8; revert HA9; revert HA10; revert HA11; revert hx8_9; revert hx8_10; revert hx8_11; revert hx9_10; revert hx9_11; revert hx10_11; revert HPL; revert HW8; revert HW9; revert HW10; revert HW11; revert HQ1; revert x8; revert x9; revert x10; revert x11; revert B; revert lo; revert g; revert col; revert M; revert R; revert P; revert pg; revert pc; revert ws; revert B'
    revert lo'; revert g'; revert col'; revert M'; revert R'; revert P'; revert pg'; revert pc'; revert ws'; revert b1; revert l1; revert c1; revert p1; revert t1; revert u2; exact hS3_89ab.out
  · intro u t1 p1 c1 l1 b1 ws' pc' pg' P' R' M' col' g' lo' B' ws pc pg P R M col g lo B x11 x10 x9 HQ1 HW11 HW10 HW9 HPL hx10_11 hx9_11 hx9_10 HA11 HA10 HA9 HB9 hHeld
    refine wpAnyH_ready (rs := [7, 8]) (by kernel_rfl) (by simp) ?_; refine AllReadyH.cons rfl (fun K2 hK2 => ?_) (AllReadyH.cons rfl (fun K2 hK2 => ?_) AllReadyH.nil)
    all_goals go_simp
    · with_reducible refine Calls.mono (few37 b' l' c' p' t' v' _) ?_
      rintro e u2 ⟨b2, l2, c2, p2, t2, rfl, hq2, hb⟩; have HQ2 : Hid (FB37 b2 l2 c2 p2 t2) := Lib.hid hq2; clear hq2; replace HB9 := Lib.hid (thn HB9.out hb); replace HA9 := hpl HA9 hb; replace HA10 := hbl HA10 hb; replace HA11 := hbl HA11 hb; replace HPL := Lib.hid (And.intro (HPL.out.1.later hb) HPL.out.2); refine hK2.out _ _ (s3b hHeld hb) (fun hHeld2 => ?_); clear hb; clear hK2 K2 hHeld; have hHeld := hHeld2
      clear hHeld2
      try simp only [Act.put, List.setIfInBounds_toArray, List.set_cons_zero, List.set_cons_succ]
      revert hHeld; revert HB9; revert HA9; revert HA10; revert HA11; revert hx9_10; revert hx9_11; revert hx10_11; revert HPL; revert HW9; revert HW10; revert HW11; revert HQ1; revert HQ2; revert x9; revert x10; revert x11; revert B; revert lo; revert g; revert col; revert M; revert R; revert P; revert pg; revert pc; revert ws; revert B'; revert lo'; revert g'; revert col'; revert M'; revert R'; revert P'
      revert pg'; revert pc'; revert ws'; revert b1; revert l1; revert c1; revert p1; revert t1; revert b2; revert l2; revert c2; revert p2; revert t2; revert u2; exact hS4_9ab.out
    · obtain ⟨x8, u2, hx8, hw9, hz9, hb⟩ := pz_next u
      rw [hw9]
      try rw [hx8]
      clear hw9; have HA8n := Lib.hid (And.intro hz9 (show v3.heap.size ≤ x8 by have := HB9.out.size; omega))
      have hx8_9 : x8 ≠ x9 := by have h1 := HA9.out.1.1; omega
      have hx8_10 : x8 ≠ x10 := by have h1 := HA10.out.1.1; omega
      have hx8_11 : x8 ≠ x11 := by have h1 := HA11.out.1.1; omega
      have HW8 := HPL.out.1.fr (Nat.le_of_eq hx8); clear hx8 hz9; replace HB9 := Lib.hid (thn HB9.out hb); replace HA9 := hpl HA9 hb; replace HA10 := hbl HA10 hb; replace HA11 := hbl HA11 hb; replace HPL := Lib.hid (And.intro (HPL.out.1.later hb) HPL.out.2); have HA8 := HA8n; clear HA8n; refine hK2.out _ _ (s3b hHeld hb) (fun hHeld2 => ?_); clear hb; clear hK2 K2 hHeld; have hHeld := hHeld2; clear hHeld2
      try simp only [Act.put, List.setIfInBounds_toArray, List.set_cons_zero, List.set_cons_succ]
      revert hHeld; revert HB9; revert HA8; revert HA9; revert HA10; revert HA11; revert hx8_9; revert hx8_10; revert hx8_11; revert hx9_10; revert hx9_11; revert hx10_11; revert HPL; revert HW8; revert HW9; revert HW10; revert HW11; revert HQ1; revert x8; revert x9; revert x10; revert x11; revert B; revert lo; revert g; revert col; revert M; revert R; revert P; revert pg; revert pc; revert ws; revert B'
      revert lo'; revert g'; revert col'; revert M'; revert R'; revert P'; revert pg'; revert pc'; revert ws'; revert b1; revert l1; revert c1; revert p1; revert t1; revert u2; exact hS3_89ab.out
  · intro u t1 p1 c1 l1 b1 ws' pc' pg' P' R' M' col' g' lo' B' ws pc pg P R M col g lo B x11 x10 x8 HQ1 HW11 HW10 HW8 HPL hx10_11 hx8_11 hx8_10 HA11 HA10 HA8 HB9 hHeld
    refine wpAnyH_ready (rs := [7, 9]) (by kernel_rfl) (by simp) ?_; refine AllReadyH.cons rfl (fun K2 hK2 => ?_) (AllReadyH.cons rfl (fun K2 hK2 => ?_) AllReadyH.nil)
    all_goals go_simp
    · with_reducible refine Calls.mono (few37 b' l' c' p' t' v' _) ?_
      rintro e u2 ⟨b2, l2, c2, p2, t2, rfl, hq2, hb⟩; have HQ2 : Hid (FB37 b2 l2 c2 p2 t2) := Lib.hid hq2; clear hq2; replace HB9 := Lib.hid (thn HB9.out hb); replace HA8 := hpl HA8 hb; replace HA10 := hbl HA10 hb; replace HA11 := hbl HA11 hb; replace HPL := Lib.hid (And.intro (HPL.out.1.later hb) HPL.out.2); refine hK2.out _ _ (s3b hHeld hb) (fun hHeld2 => ?_); clear hb; clear hK2 K2 hHeld; have hHeld := hHeld2
      clear hHeld2
      try simp only [Act.put, List.setIfInBounds_toArray, List.set_cons_zero, List.set_cons_succ]
      revert hHeld; revert HB9; revert HA8; revert HA10; revert HA11; revert hx8_10; revert hx8_11; revert hx10_11; revert HPL; revert HW8; revert HW10; revert HW11; revert HQ1; revert HQ2; revert x8; revert x10; revert x11; revert B; revert lo; revert g; revert col; revert M; revert R; revert P; revert pg; revert pc; revert ws; revert B'; revert lo'; revert g'; revert col'; revert M'; revert R'; revert P'
      revert pg'; revert pc'; revert ws'; revert b1; revert l1; revert c1; revert p1; revert t1; revert b2; revert l2; revert c2; revert p2; revert t2; revert u2; exact hS4_8ab.out
    · obtain ⟨x9, u2, hx9, hw9, hz9, hb⟩ := pz_next u
      rw [hw9]
      try rw [hx9]
      clear hw9; have HA9n := Lib.hid (And.intro hz9 (show v3.heap.size ≤ x9 by have := HB9.out.size; omega))
      have hx8_9 : x8 ≠ x9 := by have h1 := HA8.out.1.1; omega
      have hx9_10 : x9 ≠ x10 := by have h1 := HA10.out.1.1; omega
      have hx9_11 : x9 ≠ x11 := by have h1 := HA11.out.1.1; omega
      have HW9 := HPL.out.1.fr (Nat.le_of_eq hx9); clear hx9 hz9; replace HB9 := Lib.hid (thn HB9.out hb); replace HA8 := hpl HA8 hb; replace HA10 := hbl HA10 hb; replace HA11 := hbl HA11 hb; replace HPL := Lib.hid (And.intro (HPL.out.1.later hb) HPL.out.2); have HA9 := HA9n; clear HA9n; refine hK2.out _ _ (s3b hHeld hb) (fun hHeld2 => ?_); clear hb; clear hK2 K2 hHeld; have hHeld := hHeld2; clear hHeld2
      try simp only [Act.put, List.setIfInBounds_toArray, List.set_cons_zero, List.set_cons_succ]
      revert hHeld; revert HB9; revert HA8; revert HA9; revert HA10; revert HA11; revert hx8_9; revert hx8_10; revert hx8_11; revert hx9_10; revert hx9_11; revert hx10_11; revert HPL; revert HW8; revert HW9; revert HW10; revert HW11; revert HQ1; revert x8; revert x9; revert x10; revert x11; revert B; revert lo; revert g; revert col; revert M; revert R; revert P; revert pg; revert pc; revert ws; revert B'
      revert lo'; revert g'; revert col'; revert M'; revert R'; revert P'; revert pg'; revert pc'; revert ws'; revert b1; revert l1; revert c1; revert p1; revert t1; revert u2; exact hS3_89ab.out
  · intro u t1 p1 c1 l1 b1 ws' pc' pg' P' R' M' col' g' lo' B' ws pc pg P R M col g lo B x11 x9 x8 HQ1 HW11 HW9 HW8 HPL hx9_11 hx8_11 hx8_9 HA11 HA9 HA8 HB9 hHeld
    refine wpAnyH_ready (rs := [7, 10]) (by kernel_rfl) (by simp) ?_; refine AllReadyH.cons rfl (fun K2 hK2 => ?_) (AllReadyH.cons rfl (fun K2 hK2 => ?_) AllReadyH.nil)
    all_goals go_simp
    · with_reducible refine Calls.mono (few37 b' l' c' p' t' v' _) ?_
      rintro e u2 ⟨b2, l2, c2, p2, t2, rfl, hq2, hb⟩; have HQ2 : Hid (FB37 b2 l2 c2 p2 t2) := Lib.hid hq2; clear hq2; replace HB9 := Lib.hid (thn HB9.out hb); replace HA8 := hpl HA8 hb; replace HA9 := hpl HA9 hb; replace HA11 := hbl HA11 hb; replace HPL := Lib.hid (And.intro (HPL.out.1.later hb) HPL.out.2); refine hK2.out _ _ (s3b hHeld hb) (fun hHeld2 => ?_); clear hb; clear hK2 K2 hHeld; have hHeld := hHeld2
      clear hHeld2
      try simp only [Act.put, List.setIfInBounds_toArray, List.set_cons_zero, List.set_cons_succ]
      revert hHeld; revert HB9; revert HA8; revert HA9; revert HA11; revert hx8_9; revert hx8_11; revert hx9_11; revert HPL; revert HW8; revert HW9; revert HW11; revert HQ1; revert HQ2; revert x8; revert x9; revert x11; revert B; revert lo; revert g; revert col; revert M; revert R; revert P; revert pg; revert pc; revert ws; revert B'; revert lo'; revert g'; revert col'; revert M'; revert R'; revert P'; revert pg'
      revert pc'; revert ws'; revert b1; revert l1; revert c1; revert p1; revert t1; revert b2; revert l2; revert c2; revert p2; revert t2; revert u2; exact hS4_89b.out
    · obtain ⟨x10, u2, hx10, hw9, hz9, hb⟩ := cz_next u
      rw [hw9]
      try rw [hx10]
      clear hw9; have HA10n := Lib.hid (And.intro hz9 (show v3.heap.size ≤ x10 by have := HB9.out.size; omega))
      have hx8_10 : x8 ≠ x10 := by have h1 := HA8.out.1.1; omega
      have hx9_10 : x9 ≠ x10 := by have h1 := HA9.out.1.1; omega
      have hx10_11 : x10 ≠ x11 := by have h1 := HA11.out.1.1; omega
      have HW10 := HPL.out.1.fr (Nat.le_of_eq hx10); clear hx10 hz9; replace HB9 := Lib.hid (thn HB9.out hb); replace HA8 := hpl HA8 hb; replace HA9 := hpl HA9 hb; replace HA11 := hbl HA11 hb; replace HPL := Lib.hid (And.intro (HPL.out.1.later hb) HPL.out.2); have HA10 := HA10n; clear HA10n; refine hK2.out _ _ (s3b hHeld hb) (fun hHeld2 => ?_); clear hb; clear hK2 K2 hHeld; have hHeld := hHeld2; clear hHeld2
      try simp only [Act.put, List.setIfInBounds_toArray, List.set_cons_zero, List.set_cons_succ]
      revert hHeld; revert HB9; revert HA8; revert HA9; revert HA10; revert HA11; revert hx8_9; revert hx8_10; revert hx8_11; revert hx9_10; revert hx9_11; revert hx10_11; revert HPL; revert HW8; revert HW9; revert HW10; revert HW11; revert HQ1; revert x8; revert x9; revert x10; revert x11; revert B; revert lo; revert g; revert col; revert M; revert R; revert P; revert pg; revert pc; revert ws; revert B'
      revert lo'; revert g'; revert col'; revert M'; revert R'; revert P'; revert pg'; revert pc'; revert ws'; revert b1; revert l1; revert c1; revert p1; revert t1; revert u2; exact hS3_89ab.out
  · intro u t1 p1 c1 l1 b1 ws' pc' pg' P' R' M' col' g' lo' B' ws pc pg P R M col g lo B x10 x9 x8 HQ1 HW10 HW9 HW8 HPL hx9_10 hx8_10 hx8_9 HA10 HA9 HA8 HB9 hHeld
    refine wpAnyH_ready (rs := [7, 11]) (by kernel_rfl) (by simp) ?_; refine AllReadyH.cons rfl (fun K2 hK2 => ?_) (AllReadyH.cons rfl (fun K2 hK2 => ?_) AllReadyH.nil)
    all_goals go_simp
    · with_reducible refine Calls.mono (few37 b' l' c' p' t' v' _) ?_
      rintro e u2 ⟨b2, l2, c2, p2, t2, rfl, hq2, hb⟩; have HQ2 : Hid (FB37 b2 l2 c2 p2 t2) := Lib.hid hq2; clear hq2; replace HB9 := Lib.hid (thn HB9.out hb); replace HA8 := hpl HA8 hb; replace HA9 := hpl HA9 hb; replace HA10 := hbl HA10 hb; replace HPL := Lib.hid (And.intro (HPL.out.1.later hb) HPL.out.2); refine hK2.out _ _ (s3b hHeld hb) (fun hHeld2 => ?_); clear hb; clear hK2 K2 hHeld; have hHeld := hHeld2
      clear hHeld2
      try simp only [Act.put, List.setIfInBounds_toArray, List.set_cons_zero, List.set_cons_succ]
      revert hHeld; revert HB9; revert HA8; revert HA9; revert HA10; revert hx8_9; revert hx8_10; revert hx9_10; revert HPL; revert HW8; revert HW9; revert HW10; revert HQ1; revert HQ2; revert x8; revert x9; revert x10; revert B; revert lo; revert g; revert col; revert M; revert R; revert P; revert pg; revert pc; revert ws; revert B'; revert lo'; revert g'; revert col'; revert M'; revert R'; revert P'; revert pg'
      revert pc'; revert ws'; revert b1; revert l1; revert c1; revert p1; revert t1; revert b2; revert l2; revert c2; revert p2; revert t2; revert u2; exact hS4_89a.out
    · obtain ⟨x11, u2, hx11, hw9, hz9, hb⟩ := cz_next u
      rw [hw9]
      try rw [hx11]
      clear hw9; have HA11n := Lib.hid (And.intro hz9 (show v3.heap.size ≤ x11 by have := HB9.out.size; omega))
      have hx8_11 : x8 ≠ x11 := by have h1 := HA8.out.1.1; omega
      have hx9_11 : x9 ≠ x11 := by have h1 := HA9.out.1.1; omega
      have hx10_11 : x10 ≠ x11 := by have h1 := HA10.out.1.1; omega
      have HW11 := HPL.out.1.fr (Nat.le_of_eq hx11); clear hx11 hz9; replace HB9 := Lib.hid (thn HB9.out hb); replace HA8 := hpl HA8 hb; replace HA9 := hpl HA9 hb; replace HA10 := hbl HA10 hb; replace HPL := Lib.hid (And.intro (HPL.out.1.later hb) HPL.out.2); have HA11 := HA11n; clear HA11n; refine hK2.out _ _ (s3b hHeld hb) (fun hHeld2 => ?_); clear hb; clear hK2 K2 hHeld; have hHeld := hHeld2; clear hHeld2
      try simp only [Act.put, List.setIfInBounds_toArray, List.set_cons_zero, List.set_cons_succ]
      revert hHeld; revert HB9; revert HA8; revert HA9; revert HA10; revert HA11; revert hx8_9; revert hx8_10; revert hx8_11; revert hx9_10; revert hx9_11; revert hx10_11; revert HPL; revert HW8; revert HW9; revert HW10; revert HW11; revert HQ1; revert x8; revert x9; revert x10; revert x11; revert B; revert lo; revert g; revert col; revert M; revert R; revert P; revert pg; revert pc; revert ws; revert B'
      revert lo'; revert g'; revert col'; revert M'; revert R'; revert P'; revert pg'; revert pc'; revert ws'; revert b1; revert l1; revert c1; revert p1; revert t1; revert u2; exact hS3_89ab.out
  · intro u t2 p2 c2 l2 b2 t1 p1 c1 l1 b1 ws' pc' pg' P' R' M' col' g' lo' B' ws pc pg P R M col g lo B x11 x10 HQ2 HQ1 HW11 HW10 HPL hx10_11 HA11 HA10 HB9 hHeld
    refine wpAnyH_ready (rs := [8, 9]) (by kernel_rfl) (by simp) ?_; refine AllReadyH.cons rfl (fun K2 hK2 => ?_) (AllReadyH.cons rfl (fun K2 hK2 => ?_) AllReadyH.nil)
    all_goals go_simp
    · obtain ⟨x8, u2, hx8, hw9, hz9, hb⟩ := pz_next u
      rw [hw9]
      try rw [hx8]
      clear hw9; have HA8n := Lib.hid (And.intro hz9 (show v3.heap.size ≤ x8 by have := HB9.out.size; omega))
      have hx8_10 : x8 ≠ x10 := by have h1 := HA10.out.1.1; omega
      have hx8_11 : x8 ≠ x11 := by have h1 := HA11.out.1.1; omega
      have HW8 := HPL.out.1.fr (Nat.le_of_eq hx8); clear hx8 hz9; replace HB9 := Lib.hid (thn HB9.out hb); replace HA10 := hbl HA10 hb; replace HA11 := hbl HA11 hb; replace HPL := Lib.hid (And.intro (HPL.out.1.later hb) HPL.out.2); have HA8 := HA8n; clear HA8n; refine hK2.out _ _ (s3b hHeld hb) (fun hHeld2 => ?_); clear hb; clear hK2 K2 hHeld; have hHeld := hHeld2; clear hHeld2
      try simp only [Act.put, List.setIfInBounds_toArray, List.set_cons_zero, List.set_cons_succ]
      revert hHeld; revert HB9; revert HA8; revert HA10; revert HA11; revert hx8_10; revert hx8_11; revert hx10_11; revert HPL; revert HW8; revert HW10; revert HW11; revert HQ1; revert HQ2; revert x8; revert x10; revert x11; revert B; revert lo; revert g; revert col; revert M; revert R; revert P; revert pg; revert pc; revert ws; revert B'; revert lo'; revert g'; revert col'; revert M'; revert R'; revert P'
      revert pg'; revert pc'; revert ws'; revert b1; revert l1; revert c1; revert p1; revert t1; revert b2; revert l2; revert c2; revert p2; revert t2; revert u2; exact hS4_8ab.out
    · obtain ⟨x9, u2, hx9, hw9, hz9, hb⟩ := pz_next u
      rw [hw9]
      try rw [hx9]
      clear hw9; have HA9n := Lib.hid (And.intro hz9 (show v3.heap.size ≤ x9 by have := HB9.out.size; omega))
      have hx9_10 : x9 ≠ x10 := by have h1 := HA10.out.1.1; omega
      have hx9_11 : x9 ≠ x11 := by have h1 := HA11.out.1.1; omega
      have HW9 := HPL.out.1.fr (Nat.le_of_eq hx9); clear hx9 hz9; replace HB9 := Lib.hid (thn HB9.out hb); replace HA10 := hbl HA10 hb; replace HA11 := hbl HA11 hb; replace HPL := Lib.hid (And.intro (HPL.out.1.later hb) HPL.out.2); have HA9 := HA9n; clear HA9n; refine hK2.out _ _ (s3b hHeld hb) (fun hHeld2 => ?_); clear hb; clear hK2 K2 hHeld; have hHeld := hHeld2; clear hHeld2
      try simp only [Act.put, List.setIfInBounds_toArray, List.set_cons_zero, List.set_cons_succ]
      revert hHeld; revert HB9; revert HA9; revert HA10; revert HA11; revert hx9_10; revert hx9_11; revert hx10_11; revert HPL; revert HW9; revert HW10; revert HW11; revert HQ1; revert HQ2; revert x9; revert x10; revert x11; revert B; revert lo; revert g; revert col; revert M; revert R; revert P; revert pg; revert pc; revert ws; revert B'; revert lo'; revert g'; revert col'; revert M'; revert R'; revert P'
      revert pg'; revert pc'; revert ws'; revert b1; revert l1; revert c1; revert p1; revert t1; revert b2; revert l2; revert c2; revert p2; revert t2; revert u2; exact hS4_9ab.out
  · intro u t2 p2 c2 l2 b2 t1 p1 c1 l1 b1 ws' pc' pg' P' R' M' col' g' lo' B' ws pc pg P R M col g lo B x11 x9 HQ2 HQ1 HW11 HW9 HPL hx9_11 HA11 HA9 HB9 hHeld
    refine wpAnyH_ready (rs := [8, 10]) (by kernel_rfl) (by simp) ?_; refine AllReadyH.cons rfl (fun K2 hK2 => ?_) (AllReadyH.cons rfl (fun K2 hK2 => ?_) AllReadyH.nil)
    all_goals go_simp
    · obtain ⟨x8, u2, hx8, hw9, hz9, hb⟩ := pz_next u
      rw [hw9]
      try rw [hx8]
      clear hw9; have HA8n := Lib.hid (And.intro hz9 (show v3.heap.size ≤ x8 by have := HB9.out.size; omega))
      have hx8_9 : x8 ≠ x9 := by have h1 := HA9.out.1.1; omega
      have hx8_11 : x8 ≠ x11 := by have h1 := HA11.out.1.1; omega
      have HW8 := HPL.out.1.fr (Nat.le_of_eq hx8); clear hx8 hz9; replace HB9 := Lib.hid (thn HB9.out hb); replace HA9 := hpl HA9 hb; replace HA11 := hbl HA11 hb; replace HPL := Lib.hid (And.intro (HPL.out.1.later hb) HPL.out.2); have HA8 := HA8n; clear HA8n; refine hK2.out _ _ (s3b hHeld hb) (fun hHeld2 => ?_); clear hb; clear hK2 K2 hHeld; have hHeld := hHeld2; clear hHeld2
      try simp only [Act.put, List.setIfInBounds_toArray, List.set_cons_zero, List.set_cons_succ]
      revert hHeld; revert HB9; revert HA8; revert HA9; revert HA11; revert hx8_9; revert hx8_11; revert hx9_11; revert HPL; revert HW8; revert HW9; revert HW11; revert HQ1; revert HQ2; revert x8; revert x9; revert x11; revert B; revert lo; revert g; revert col; revert M; revert R; revert P; revert pg; revert pc; revert ws; revert B'; revert lo'; revert g'; revert col'; revert M'; revert R'; revert P'; revert pg'
      revert pc'; revert ws'; revert b1; revert l1; revert c1; revert p1; revert t1; revert b2; revert l2; revert c2; revert p2; revert t2; revert u2; exact hS4_89b.out
    · obtain ⟨x10, u2, hx10, hw9, hz9, hb⟩ := cz_next u
      rw [hw9]
      try rw [hx10]
      clear hw9; have HA10n := Lib.hid (And.intro hz9 (show v3.heap.size ≤ x10 by have := HB9.out.size; omega))
      have hx9_10 : x9 ≠ x10 := by have h1 := HA9.out.1.1; omega
      have hx10_11 : x10 ≠ x11 := by have h1 := HA11.out.1.1; omega
      have HW10 := HPL.out.1.fr (Nat.le_of_eq hx10); clear hx10 hz9; replace HB9 := Lib.hid (thn HB9.out hb); replace HA9 := hpl HA9 hb; replace HA11 := hbl HA11 hb; replace HPL := Lib.hid (And.intro (HPL.out.1.later hb) HPL.out.2); have HA10 := HA10n; clear HA10n; refine hK2.out _ _ (s3b hHeld hb) (fun hHeld2 => ?_); clear hb; clear hK2 K2 hHeld; have hHeld := hHeld2; clear hHeld2
      try simp only [Act.put, List.setIfInBounds_toArray, List.set_cons_zero, List.set_cons_succ]
      revert hHeld; revert HB9; revert HA9; revert HA10; revert HA11; revert hx9_10; revert hx9_11; revert hx10_11; revert HPL; revert HW9; revert HW10; revert HW11; revert HQ1; revert HQ2; revert x9; revert x10; revert x11; revert B; revert lo; revert g; revert col; revert M; revert R; revert P; revert pg; revert pc; revert ws; revert B'; revert lo'; revert g'; revert col'; revert M'; revert R'; revert P'
      revert pg'; revert pc'; revert ws'; revert b1; revert l1; revert c1; revert p1; revert t1; revert b2; revert l2; revert c2; revert p2; revert t2; revert u2; exact hS4_9ab.out
  · intro u t2 p2 c2 l2 b2 t1 p1 c1 l1 b1 ws' pc' pg' P' R' M' col' g' lo' B' ws pc pg P R M col g lo B x10 x9 HQ2 HQ1 HW10 HW9 HPL hx9_10 HA10 HA9 HB9 hHeld
    refine wpAnyH_ready (rs := [8, 11]) (by kernel_rfl) (by simp) ?_; refine AllReadyH.cons rfl (fun K2 hK2 => ?_) (AllReadyH.cons rfl (fun K2 hK2 => ?_) AllReadyH.nil)
    all_goals go_simp
    · obtain ⟨x8, u2, hx8, hw9, hz9, hb⟩ := pz_next u
      rw [hw9]
      try rw [hx8]
      clear hw9; have HA8n := Lib.hid (And.intro hz9 (show v3.heap.size ≤ x8 by have := HB9.out.size; omega))
      have hx8_9 : x8 ≠ x9 := by have h1 := HA9.out.1.1; omega
      have hx8_10 : x8 ≠ x10 := by have h1 := HA10.out.1.1; omega
      have HW8 := HPL.out.1.fr (Nat.le_of_eq hx8); clear hx8 hz9; replace HB9 := Lib.hid (thn HB9.out hb); replace HA9 := hpl HA9 hb; replace HA10 := hbl HA10 hb; replace HPL := Lib.hid (And.intro (HPL.out.1.later hb) HPL.out.2); have HA8 := HA8n; clear HA8n; refine hK2.out _ _ (s3b hHeld hb) (fun hHeld2 => ?_); clear hb; clear hK2 K2 hHeld; have hHeld := hHeld2; clear hHeld2
      try simp only [Act.put, List.setIfInBounds_toArray, List.set_cons_zero, List.set_cons_succ]
      revert hHeld; revert HB9; revert HA8; revert HA9; revert HA10; revert hx8_9; revert hx8_10; revert hx9_10; revert HPL; revert HW8; revert HW9; revert HW10; revert HQ1; revert HQ2; revert x8; revert x9; revert x10; revert B; revert lo; revert g; revert col; revert M; revert R; revert P; revert pg; revert pc; revert ws; revert B'; revert lo'; revert g'; revert col'; revert M'; revert R'; revert P'; revert pg'
      revert pc'; revert ws'; revert b1; revert l1; revert c1; revert p1; revert t1; revert b2; revert l2; revert c2; revert p2; revert t2; revert u2; exact hS4_89a.out
    · obtain ⟨x11, u2, hx11, hw9, hz9, hb⟩ := cz_next u
      rw [hw9]
      try rw [hx11]
      clear hw9; have HA11n := Lib.hid (And.intro hz9 (show v3.heap.size ≤ x11 by have := HB9.out.size; omega))
      have hx9_11 : x9 ≠ x11 := by have h1 := HA9.out.1.1; omega
      have hx10_11 : x10 ≠ x11 := by have h1 := HA10.out.1.1; omega
      have HW11 := HPL.out.1.fr (Nat.le_of_eq hx11); clear hx11 hz9; replace HB9 := Lib.hid (thn HB9.out hb); replace HA9 := hpl HA9 hb; replace HA10 := hbl HA10 hb; replace HPL := Lib.hid (And.intro (HPL.out.1.later hb) HPL.out.2); have HA11 := HA11n; clear HA11n; refine hK2.out _ _ (s3b hHeld hb) (fun hHeld2 => ?_); clear hb; clear hK2 K2 hHeld; have hHeld := hHeld2; clear hHeld2
      try simp only [Act.put, List.setIfInBounds_toArray, List.set_cons_zero, List.set_cons_succ]
      revert hHeld; revert HB9; revert HA9; revert HA10; revert HA11; revert hx9_10; revert hx9_11; revert hx10_11; revert HPL; revert HW9; revert HW10; revert HW11; revert HQ1; revert HQ2; revert x9; revert x10; revert x11; revert B; revert lo; revert g; revert col; revert M; revert R; revert P; revert pg; revert pc; revert ws; revert B'; revert lo'; revert g'; revert col'; revert M'; revert R'; revert P'
      revert pg'; revert pc'; revert ws'; revert b1; revert l1; revert c1; revert p1; revert t1; revert b2; revert l2; revert c2; revert p2; revert t2; revert u2; exact hS4_9ab.out
  · intro u t2 p2 c2 l2 b2 t1 p1 c1 l1 b1 ws' pc' pg' P' R' M' col' g' lo' B' ws pc pg P R M col g lo B x11 x8 HQ2 HQ1 HW11 HW8 HPL hx8_11 HA11 HA8 HB9 hHeld
    refine wpAnyH_ready (rs := [9, 10]) (by kernel_rfl) (by simp) ?_; refine AllReadyH.cons rfl (fun K2 hK2 => ?_) (AllReadyH.cons rfl (fun K2 hK2 => ?_) AllReadyH.nil)
    all_goals go_simp
    · obtain ⟨x9, u2, hx9, hw9, hz9, hb⟩ := pz_next u
      rw [hw9]
      try rw [hx9]
      clear hw9; have HA9n := Lib.hid (And.intro hz9 (show v3.heap.size ≤ x9 by have := HB9.out.size; omega))
      have hx8_9 : x8 ≠ x9 := by have h1 := HA8.out.1.1; omega
      have hx9_11 : x9 ≠ x11 := by have h1 := HA11.out.1.1; omega
      have HW9 := HPL.out.1.fr (Nat.le_of_eq hx9); clear hx9 hz9; replace HB9 := Lib.hid (thn HB9.out hb); replace HA8 := hpl HA8 hb; replace HA11 := hbl HA11 hb; replace HPL := Lib.hid (And.intro (HPL.out.1.later hb) HPL.out.2); have HA9 := HA9n; clear HA9n; refine hK2.out _ _ (s3b hHeld hb) (fun hHeld2 => ?_); clear hb; clear hK2 K2 hHeld; have hHeld := hHeld2; clear hHeld2
      try simp only [Act.put, List.setIfInBounds_toArray, List.set_cons_zero, List.set_cons_succ]
      revert hHeld; revert HB9; revert HA8; revert HA9; revert HA11; revert hx8_9; revert hx8_11; revert hx9_11; revert HPL; revert HW8; revert HW9; revert HW11; revert HQ1; revert HQ2; revert x8; revert x9; revert x11; revert B; revert lo; revert g; revert col; revert M; revert R; revert P; revert pg; revert pc; revert ws; revert B'; revert lo'; revert g'; revert col'; revert M'; revert R'; revert P'; revert pg'
      revert pc'; revert ws'; revert b1; revert l1; revert c1; revert p1; revert t1; revert b2; revert l2; revert c2; revert p2; revert t2; revert u2; exact hS4_89b.out
    · obtain ⟨x10, u2, hx10, hw9, hz9, hb⟩ := cz_next u
      rw [hw9]
      try rw [hx10]
      clear hw9; have HA10n := Lib.hid (And.intro hz9 (show v3.heap.size ≤ x10 by have := HB9.out.size; omega))
      have hx8_10 : x8 ≠ x10 := by have h1 := HA8.out.1.1; omega
      have hx10_11 : x10 ≠ x11 := by have h1 := HA11.out.1.1; omega
      have HW10 := HPL.out.1.fr (Nat.le_of_eq hx10); clear hx10 hz9; replace HB9 := Lib.hid (thn HB9.out hb); replace HA8 := hpl HA8 hb; replace HA11 := hbl HA11 hb; replace HPL := Lib.hid (And.intro (HPL.out.1.later hb) HPL.out.2); have HA10 := HA10n; clear HA10n; refine hK2.out _ _ (s3b hHeld hb) (fun hHeld2 => ?_); clear hb; clear hK2 K2 hHeld; have hHeld := hHeld2; clear hHeld2
      try simp only [Act.put, List.setIfInBounds_toArray, List.set_cons_zero, List.set_cons_succ]
      revert hHeld; revert HB9; revert HA8; revert HA10; revert HA11; revert hx8_10; revert hx8_11; revert hx10_11; revert HPL; revert HW8; revert HW10; revert HW11; revert HQ1; revert HQ2; revert x8; revert x10; revert x11; revert B; revert lo; revert g; revert col; revert M; revert R; revert P; revert pg; revert pc; revert ws; revert B'; revert lo'; revert g'; revert col'; revert M'; revert R'; revert P'
      revert pg'; revert pc'; revert ws'; revert b1; revert l1; revert c1; revert p1; revert t1; revert b2; revert l2; revert c2; revert p2; revert t2; revert u2; exact hS4_8ab.out
  · intro u t2 p2 c2 l2 b2 t1 p1 c1 l1 b1 ws' pc' pg' P' R' M' col' g' lo' B' ws pc pg P R M col g lo B x10 x8 HQ2 HQ1 HW10 HW8 HPL hx8_10 HA10 HA8 HB9 hHeld
    refine wpAnyH_ready (rs := [9, 11]) (by kernel_rfl) (by simp) ?_; refine AllReadyH.cons rfl (fun K2 hK2 => ?_) (AllReadyH.cons rfl (fun K2 hK2 => ?_) AllReadyH.nil)
    all_goals go_simp
    · obtain ⟨x9, u2, hx9, hw9, hz9, hb⟩ := pz_next u
      rw [hw9]
      try rw [hx9]
      clear hw9; have HA9n := Lib.hid (And.intro hz9 (show v3.heap.size ≤ x9 by have := HB9.out.size; omega))
      have hx8_9 : x8 ≠ x9 := by have h1 := HA8.out.1.1; omega
      have hx9_10 : x9 ≠ x10 := by have h1 := HA10.out.1.1; omega
      have HW9 := HPL.out.1.fr (Nat.le_of_eq hx9); clear hx9 hz9; replace HB9 := Lib.hid (thn HB9.out hb); replace HA8 := hpl HA8 hb; replace HA10 := hbl HA10 hb; replace HPL := Lib.hid (And.intro (HPL.out.1.later hb) HPL.out.2); have HA9 := HA9n; clear HA9n; refine hK2.out _ _ (s3b hHeld hb) (fun hHeld2 => ?_); clear hb; clear hK2 K2 hHeld; have hHeld := hHeld2; clear hHeld2
      try simp only [Act.put, List.setIfInBounds_toArray, List.set_cons_zero, List.set_cons_succ]
      revert hHeld; revert HB9; revert HA8; revert HA9; revert HA10; revert hx8_9; revert hx8_10; revert hx9_10; revert HPL; revert HW8; revert HW9; revert HW10; revert HQ1; revert HQ2; revert x8; revert x9; revert x10; revert B; revert lo; revert g; revert col; revert M; revert R; revert P; revert pg; revert pc; revert ws; revert B'; revert lo'; revert g'; revert col'; revert M'; revert R'; revert P'; revert pg'
      revert pc'; revert ws'; revert b1; revert l1; revert c1; revert p1; revert t1; revert b2; revert l2; revert c2; revert p2; revert t2; revert u2; exact hS4_89a.out
    · obtain ⟨x11, u2, hx11, hw9, hz9, hb⟩ := cz_next u
      rw [hw9]
      try rw [hx11]
      clear hw9; have HA11n := Lib.hid (And.intro hz9 (show v3.heap.size ≤ x11 by have := HB9.out.size; omega))
      have hx8_11 : x8 ≠ x11 := by have h1 := HA8.out.1.1; omega
      have hx10_11 : x10 ≠ x11 := by have h1 := HA10.out.1.1; omega
      have HW11 := HPL.out.1.fr (Nat.le_of_eq hx11); clear hx11 hz9; replace HB9 := Lib.hid (thn HB9.out hb); replace HA8 := hpl HA8 hb; replace HA10 := hbl HA10 hb; replace HPL := Lib.hid (And.intro (HPL.out.1.later hb) HPL.out.2); have HA11 := HA11n; clear HA11n; refine hK2.out _ _ (s3b hHeld hb) (fun hHeld2 => ?_); clear hb; clear hK2 K2 hHeld; have hHeld := hHeld2; clear hHeld2
      try simp only [Act.put, List.setIfInBounds_toArray, List.set_cons_zero, List.set_cons_succ]
      revert hHeld; revert HB9; revert HA8; revert HA10; revert HA11; revert hx8_10; revert hx8_11; revert hx10_11; revert HPL; revert HW8; revert HW10; revert HW11; revert HQ1; revert HQ2; revert x8; revert x10; revert x11; revert B; revert lo; revert g; revert col; revert M; revert R; revert P; revert pg; revert pc; revert ws; revert B'; revert lo'; revert g'; revert col'; revert M'; revert R'; revert P'
      revert pg'; revert pc'; revert ws'; revert b1; revert l1; revert c1; revert p1; revert t1; revert b2; revert l2; revert c2; revert p2; revert t2; revert u2; exact hS4_8ab.out
  · intro u t2 p2 c2 l2 b2 t1 p1 c1 l1 b1 ws' pc' pg' P' R' M' col' g' lo' B' ws pc pg P R M col g lo B x9 x8 HQ2 HQ1 HW9 HW8 HPL hx8_9 HA9 HA8 HB9 hHeld
    refine wpAnyH_ready (rs := [10, 11]) (by kernel_rfl) (by simp) ?_; refine AllReadyH.cons rfl (fun K2 hK2 => ?_) (AllReadyH.cons rfl (fun K2 hK2 => ?_) AllReadyH.nil)
    all_goals go_simp
    · obtain ⟨x10, u2, hx10, hw9, hz9, hb⟩ := cz_next u
      rw [hw9]
      try rw [hx10]
      clear hw9; have HA10n := Lib.hid (And.intro hz9 (show v3.heap.size ≤ x10 by have := HB9.out.size; omega))
      have hx8_10 : x8 ≠ x10 := by have h1 := HA8.out.1.1; omega
      have hx9_10 : x9 ≠ x10 := by have h1 := HA9.out.1.1; omega
      have HW10 := HPL.out.1.fr (Nat.le_of_eq hx10); clear hx10 hz9; replace HB9 := Lib.hid (thn HB9.out hb); replace HA8 := hpl HA8 hb; replace HA9 := hpl HA9 hb; replace HPL := Lib.hid (And.intro (HPL.out.1.later hb) HPL.out.2); have HA10 := HA10n; clear HA10n; refine hK2.out _ _ (s3b hHeld hb) (fun hHeld2 => ?_); clear hb; clear hK2 K2 hHeld; have hHeld := hHeld2; clear hHeld2
      try simp only [Act.put, List.setIfInBounds_toArray, List.set_cons_zero, List.set_cons_succ]
      revert hHeld; revert HB9; revert HA8; revert HA9; revert HA10; revert hx8_9; revert hx8_10; revert hx9_10; revert HPL; revert HW8; revert HW9; revert HW10; revert HQ1; revert HQ2; revert x8; revert x9; revert x10; revert B; revert lo; revert g; revert col; revert M; revert R; revert P; revert pg; revert pc; revert ws; revert B'; revert lo'; revert g'; revert col'; revert M'; revert R'; revert P'; revert pg'
      revert pc'; revert ws'; revert b1; revert l1; revert c1; revert p1; revert t1; revert b2; revert l2; revert c2; revert p2; revert t2; revert u2; exact hS4_89a.out
    · obtain ⟨x11, u2, hx11, hw9, hz9, hb⟩ := cz_next u
      rw [hw9]
      try rw [hx11]
      clear hw9; have HA11n := Lib.hid (And.intro hz9 (show v3.heap.size ≤ x11 by have := HB9.out.size; omega))
      have hx8_11 : x8 ≠ x11 := by have h1 := HA8.out.1.1; omega
      have hx9_11 : x9 ≠ x11 := by have h1 := HA9.out.1.1; omega
      have HW11 := HPL.out.1.fr (Nat.le_of_eq hx11); clear hx11 hz9; replace HB9 := Lib.hid (thn HB9.out hb); replace HA8 := hpl HA8 hb; replace HA9 := hpl HA9 hb; replace HPL := Lib.hid (And.intro (HPL.out.1.later hb) HPL.out.2); have HA11 := HA11n; clear HA11n; refine hK2.out _ _ (s3b hHeld hb) (fun hHeld2 => ?_); clear hb; clear hK2 K2 hHeld; have hHeld := hHeld2; clear hHeld2
      try simp only [Act.put, List.setIfInBounds_toArray, List.set_cons_zero, List.set_cons_succ]
      revert hHeld; revert HB9; revert HA8; revert HA9; revert HA11; revert hx8_9; revert hx8_11; revert hx9_11; revert HPL; revert HW8; revert HW9; revert HW11; revert HQ1; revert HQ2; revert x8; revert x9; revert x11; revert B; revert lo; revert g; revert col; revert M; revert R; revert P; revert pg; revert pc; revert ws; revert B'; revert lo'; revert g'; revert col'; revert M'; revert R'; revert P'; revert pg'
      revert pc'; revert ws'; revert b1; revert l1; revert c1; revert p1; revert t1; revert b2; revert l2; revert c2; revert p2; revert t2; revert u2; exact hS4_89b.out
  · intro u t1 p1 c1 l1 b1 ws' pc' pg' P' R' M' col' g' lo' B' ws pc pg P R M col g lo B x11 x10 x9 x8 HQ1 HW11 HW10 HW9 HW8 HPL hx10_11 hx9_11 hx9_10 hx8_11 hx8_10 hx8_9 HA11 HA10 HA9 HA8 HB9 hHeld
    refine wpAnyH_ready (rs := [7]) (by kernel_rfl) (by simp) ?_; refine AllReadyH.cons rfl (fun K2 hK2 => ?_) AllReadyH.nil
    go_simp
    with_reducible refine Calls.mono (few37 b' l' c' p' t' v' _) ?_
    rintro e u2 ⟨b2, l2, c2, p2, t2, rfl, hq2, hb⟩; have HQ2 : Hid (FB37 b2 l2 c2 p2 t2) := Lib.hid hq2; clear hq2; replace HB9 := Lib.hid (thn HB9.out hb); replace HA8 := hpl HA8 hb; replace HA9 := hpl HA9 hb; replace HA10 := hbl HA10 hb; replace HA11 := hbl HA11 hb; replace HPL := Lib.hid (And.intro (HPL.out.1.later hb) HPL.out.2); refine hK2.out _ _ (s3b hHeld hb) (fun hHeld2 => ?_); clear hb; clear hK2 K2 hHeld
    have hHeld := hHeld2; clear hHeld2
    try simp only [Act.put, List.setIfInBounds_toArray, List.set_cons_zero, List.set_cons_succ]
    revert hHeld; revert HB9; revert HA8; revert HA9; revert HA10; revert HA11; revert hx8_9; revert hx8_10; revert hx8_11; revert hx9_10; revert hx9_11; revert hx10_11; revert HPL; revert HW8; revert HW9; revert HW10; revert HW11; revert HQ1; revert HQ2; revert x8; revert x9; revert x10; revert x11; revert B; revert lo; revert g; revert col; revert M; revert R; revert P; revert pg; revert pc; revert ws
    revert B'; revert lo'; revert g'; revert col'; revert M'; revert R'; revert P'; revert pg'; revert pc'; revert ws'; revert b1; revert l1; revert c1; revert p1; revert t1; revert b2; revert l2; revert c2; revert p2; revert t2; revert u2; exact hS4_89ab.out
  · intro u t2 p2 c2 l2 b2 t1 p1 c1 l1 b1 ws' pc' pg' P' R' M' col' g' lo' B' ws pc pg P R M col g lo B x11 x10 x9 HQ2 HQ1 HW11 HW10 HW9 HPL hx10_11 hx9_11 hx9_10 HA11 HA10 HA9 HB9 hHeld
    refine wpAnyH_ready (rs := [8]) (by kernel_rfl) (by simp) ?_; refine AllReadyH.cons rfl (fun K2 hK2 => ?_) AllReadyH.nil
    go_simp
    obtain ⟨x8, u2, hx8, hw9, hz9, hb⟩ := pz_next u; rw [hw9]
    try rw [hx8]
    clear hw9; have HA8n := Lib.hid (And.intro hz9 (show v3.heap.size ≤ x8 by have := HB9.out.size; omega))
    have hx8_9 : x8 ≠ x9 := by have h1 := HA9.out.1.1; omega
    have hx8_10 : x8 ≠ x10 := by have h1 := HA10.out.1.1; omega
    have hx8_11 : x8 ≠ x11 := by have h1 := HA11.out.1.1; omega
    have HW8 := HPL.out.1.fr (Nat.le_of_eq hx8); clear hx8 hz9; replace HB9 := Lib.hid (thn HB9.out hb); replace HA9 := hpl HA9 hb; replace HA10 := hbl HA10 hb; replace HA11 := hbl HA11 hb; replace HPL := Lib.hid (And.intro (HPL.out.1.later hb) HPL.out.2); have HA8 := HA8n; clear HA8n; refine hK2.out _ _ (s3b hHeld hb) (fun hHeld2 => ?_); clear hb; clear hK2 K2 hHeld; have hHeld := hHeld2; clear hHeld2
    try simp only [Act.put, List.setIfInBounds_toArray, List.set_cons_zero, List.set_cons_succ]
    revert hHeld; revert HB9; revert HA8; revert HA9; revert HA10; revert HA11; revert hx8_9; revert hx8_10; revert hx8_11; revert hx9_10; revert hx9_11; revert hx10_11; revert HPL; revert HW8; revert HW9; revert HW10; revert HW11; revert HQ1; revert HQ2; revert x8; revert x9; revert x10; revert x11; revert B; revert lo; revert g; revert col; revert M; revert R; revert P; revert pg; revert pc; revert ws
    revert B'; revert lo'; revert g'; revert col'; revert M'; revert R'; revert P'; revert pg'; revert pc'; revert ws'; revert b1; revert l1; revert c1; revert p1; revert t1; revert b2; revert l2; revert c2; revert p2; revert t2; revert u2; exact hS4_89ab.out
  · intro u t2 p2 c2 l2 b2 t1 p1 c1 l1 b1 ws' pc' pg' P' R' M' col' g' lo' B' ws pc pg P R M col g lo B x11 x10 x8 HQ2 HQ1 HW11 HW10 HW8 HPL hx10_11 hx8_11 hx8_10 HA11 HA10 HA8 HB9 hHeld
    refine wpAnyH_ready (rs := [9]) (by kernel_rfl) (by simp) ?_; refine AllReadyH.cons rfl (fun K2 hK2 => ?_) AllReadyH.nil
    go_simp
    obtain ⟨x9, u2, hx9, hw9, hz9, hb⟩ := pz_next u; rw [hw9]
    try rw [hx9]
    clear hw9; have HA9n := Lib.hid (And.intro hz9 (show v3.heap.size ≤ x9 by have := HB9.out.size; omega))
    have hx8_9 : x8 ≠ x9 := by have h1 := HA8.out.1.1; omega
    have hx9_10 : x9 ≠ x10 := by have h1 := HA10.out.1.1; omega
    have hx9_11 : x9 ≠ x11 := by have h1 := HA11.out.1.1; omega
    have HW9 := HPL.out.1.fr (Nat.le_of_eq hx9); clear hx9 hz9; replace HB9 := Lib.hid (thn HB9.out hb); replace HA8 := hpl HA8 hb; replace HA10 := hbl HA10 hb; replace HA11 := hbl HA11 hb; replace HPL := Lib.hid (And.intro (HPL.out.1.later hb) HPL.out.2); have HA9 := HA9n; clear HA9n; refine hK2.out _ _ (s3b hHeld hb) (fun hHeld2 => ?_); clear hb; clear hK2 K2 hHeld; have hHeld := hHeld2; clear hHeld2
    try simp only [Act.put, List.setIfInBounds_toArray, List.set_cons_zero, List.set_cons_succ]
    revert hHeld; revert HB9; revert HA8; revert HA9; revert HA10; revert HA11; revert hx8_9; revert hx8_10; revert hx8_11; revert hx9_10; revert hx9_11; revert hx10_11; revert HPL; revert HW8; revert HW9; revert HW10; revert HW11; revert HQ1; revert HQ2; revert x8; revert x9; revert x10; revert x11; revert B; revert lo; revert g; revert col; revert M; revert R; revert P; revert pg; revert pc; revert ws
    revert B'; revert lo'; revert g'; revert col'; revert M'; revert R'; revert P'; revert pg'; revert pc'; revert ws'; revert b1; revert l1; revert c1; revert p1; revert t1; revert b2; revert l2; revert c2; revert p2; revert t2; revert u2; exact hS4_89ab.out
  · intro u t2 p2 c2 l2 b2 t1 p1 c1 l1 b1 ws' pc' pg' P' R' M' col' g' lo' B' ws pc pg P R M col g lo B x11 x9 x8 HQ2 HQ1 HW11 HW9 HW8 HPL hx9_11 hx8_11 hx8_9 HA11 HA9 HA8 HB9 hHeld
    refine wpAnyH_ready (rs := [10]) (by kernel_rfl) (by simp) ?_; refine AllReadyH.cons rfl (fun K2 hK2 => ?_) AllReadyH.nil
    go_simp
    obtain ⟨x10, u2, hx10, hw9, hz9, hb⟩ := cz_next u; rw [hw9]
    try rw [hx10]
    clear hw9; have HA10n := Lib.hid (And.intro hz9 (show v3.heap.size ≤ x10 by have := HB9.out.size; omega))
    have hx8_10 : x8 ≠ x10 := by have h1 := HA8.out.1.1; omega
    have hx9_10 : x9 ≠ x10 := by have h1 := HA9.out.1.1; omega
    have hx10_11 : x10 ≠ x11 := by have h1 := HA11.out.1.1; omega
    have HW10 := HPL.out.1.fr (Nat.le_of_eq hx10); clear hx10 hz9; replace HB9 := Lib.hid (thn HB9.out hb); replace HA8 := hpl HA8 hb; replace HA9 := hpl HA9 hb; replace HA11 := hbl HA11 hb; replace HPL := Lib.hid (And.intro (HPL.out.1.later hb) HPL.out.2); have HA10 := HA10n; clear HA10n; refine hK2.out _ _ (s3b hHeld hb) (fun hHeld2 => ?_); clear hb; clear hK2 K2 hHeld; have hHeld := hHeld2; clear hHeld2
    try simp only [Act.put, List.setIfInBounds_toArray, List.set_cons_zero, List.set_cons_succ]
    revert hHeld; revert HB9; revert HA8; revert HA9; revert HA10; revert HA11; revert hx8_9; revert hx8_10; revert hx8_11; revert hx9_10; revert hx9_11; revert hx10_11; revert HPL; revert HW8; revert HW9; revert HW10; revert HW11; revert HQ1; revert HQ2; revert x8; revert x9; revert x10; revert x11; revert B; revert lo; revert g; revert col; revert M; revert R; revert P; revert pg; revert pc; revert ws
    revert B'; revert lo'; revert g'; revert col'; revert M'; revert R'; revert P'; revert pg'; revert pc'; revert ws'; revert b1; revert l1; revert c1; revert p1; revert t1; revert b2; revert l2; revert c2; revert p2; revert t2; revert u2; exact hS4_89ab.out
  · intro u t2 p2 c2 l2 b2 t1 p1 c1 l1 b1 ws' pc' pg' P' R' M' col' g' lo' B' ws pc pg P R M col g lo B x10 x9 x8 HQ2 HQ1 HW10 HW9 HW8 HPL hx9_10 hx8_10 hx8_9 HA10 HA9 HA8 HB9 hHeld
    refine wpAnyH_ready (rs := [11]) (by kernel_rfl) (by simp) ?_; refine AllReadyH.cons rfl (fun K2 hK2 => ?_) AllReadyH.nil
    go_simp
    obtain ⟨x11, u2, hx11, hw9, hz9, hb⟩ := cz_next u; rw [hw9]
    try rw [hx11]
    clear hw9; have HA11n := Lib.hid (And.intro hz9 (show v3.heap.size ≤ x11 by have := HB9.out.size; omega))
    have hx8_11 : x8 ≠ x11 := by have h1 := HA8.out.1.1; omega
    have hx9_11 : x9 ≠ x11 := by have h1 := HA9.out.1.1; omega
    have hx10_11 : x10 ≠ x11 := by have h1 := HA10.out.1.1; omega
    have HW11 := HPL.out.1.fr (Nat.le_of_eq hx11); clear hx11 hz9; replace HB9 := Lib.hid (thn HB9.out hb); replace HA8 := hpl HA8 hb; replace HA9 := hpl HA9 hb; replace HA10 := hbl HA10 hb; replace HPL := Lib.hid (And.intro (HPL.out.1.later hb) HPL.out.2); have HA11 := HA11n; clear HA11n; refine hK2.out _ _ (s3b hHeld hb) (fun hHeld2 => ?_); clear hb; clear hK2 K2 hHeld; have hHeld := hHeld2; clear hHeld2
    try simp only [Act.put, List.setIfInBounds_toArray, List.set_cons_zero, List.set_cons_succ]
    revert hHeld; revert HB9; revert HA8; revert HA9; revert HA10; revert HA11; revert hx8_9; revert hx8_10; revert hx8_11; revert hx9_10; revert hx9_11; revert hx10_11; revert HPL; revert HW8; revert HW9; revert HW10; revert HW11; revert HQ1; revert HQ2; revert x8; revert x9; revert x10; revert x11; revert B; revert lo; revert g; revert col; revert M; revert R; revert P; revert pg; revert pc; revert ws
    revert B'; revert lo'; revert g'; revert col'; revert M'; revert R'; revert P'; revert pg'; revert pc'; revert ws'; revert b1; revert l1; revert c1; revert p1; revert t1; revert b2; revert l2; revert c2; revert p2; revert t2; revert u2; exact hS4_89ab.out
  · intro u t2 p2 c2 l2 b2 t1 p1 c1 l1 b1 ws' pc' pg' P' R' M' col' g' lo' B' ws pc pg P R M col g lo B x11 x10 x9 x8 HQ2 HQ1 HW11 HW10 HW9 HW8 HPL hx10_11 hx9_11 hx9_10 hx8_11 hx8_10 hx8_9 HA11 HA10 HA9 HA8 HB9 hHeld
    obtain ⟨-, ⟨z0, z1, z2⟩, g0, g1, g2⟩ := HA8.out.1; refine wpAnyH_ready (rs := [12]) (by kernel_rfl) (by simp) ?_; refine AllReadyH.cons rfl (fun K2 hK2 => ?_) AllReadyH.nil
    go_simp
    obtain ⟨u2, hw9, hz9, hs9, hk9, hb9⟩ := pl_st HA8.out.1 HA8.out.2 HB9.out M R P; rw [hw9]; clear hw9 z0 z1 z2 g0 g1 g2; have HA8n := Lib.hid (And.intro hz9 HA8.out.2); have HA9n := Lib.hid (And.intro (HA9.out.1.keep (Nat.le_of_eq hs9.symm) (hk9 _ hx8_9.symm)) HA9.out.2); have HA10n := Lib.hid (And.intro (HA10.out.1.keep (Nat.le_of_eq hs9.symm) (hk9 _ hx8_10.symm)) HA10.out.2); have HA11n := Lib.hid (And.intro (HA11.out.1.keep (Nat.le_of_eq hs9.symm) (hk9 _ hx8_11.symm)) HA11.out.2)
    have HPLn := Lib.hid (And.intro (HPL.out.1.away HW8.out T3.out rfl hb9 hs9 hk9) HPL.out.2); have HB9n := Lib.hid hb9; refine hK2.out _ _ (⟨hHeld.1.keep (Nat.le_of_eq hs9.symm) (hk9 _ (by have := HLT.out; have := HA8.out.2; omega)), hHeld.2.1.keep (Nat.le_of_eq hs9.symm) (hk9 _ (by have := HLT.out; have := HA8.out.2; omega)), hHeld.2.2.keep (Nat.le_of_eq hs9.symm) (hk9 _ (by have := HLT.out; have := HA8.out.2; omega))⟩) (fun hHeld2 => ?_)
    clear HA8 HA9 HA10 HA11 HB9 HPL hz9 hs9 hk9 hb9; have HA8 := HA8n; have HA9 := HA9n; have HA10 := HA10n; have HA11 := HA11n; have HPL := HPLn; have HB9 := HB9n; clear HA8n HA9n HA10n HA11n HPLn HB9n; clear hK2 K2 hHeld; have hHeld := hHeld2; clear hHeld2
    try simp only [Act.put, List.setIfInBounds_toArray, List.set_cons_zero, List.set_cons_succ]
    obtain ⟨-, ⟨z0, z1, z2⟩, g0, g1, g2⟩ := HA9.out.1; refine wpAnyH_ready (rs := [13]) (by kernel_rfl) (by simp) ?_; refine AllReadyH.cons rfl (fun K2 hK2 => ?_) AllReadyH.nil
    go_simp
    obtain ⟨u3, hw9, hz9, hs9, hk9, hb9⟩ := pl_st HA9.out.1 HA9.out.2 HB9.out M' R' P'; rw [hw9]; clear hw9 z0 z1 z2 g0 g1 g2; have HA9n := Lib.hid (And.intro hz9 HA9.out.2); have HA8n := Lib.hid (And.intro (HA8.out.1.keep (Nat.le_of_eq hs9.symm) (hk9 _ hx8_9)) HA8.out.2); have HA10n := Lib.hid (And.intro (HA10.out.1.keep (Nat.le_of_eq hs9.symm) (hk9 _ hx9_10.symm)) HA10.out.2); have HA11n := Lib.hid (And.intro (HA11.out.1.keep (Nat.le_of_eq hs9.symm) (hk9 _ hx9_11.symm)) HA11.out.2)
    have HPLn := Lib.hid (And.intro (HPL.out.1.away HW9.out T3.out rfl hb9 hs9 hk9) HPL.out.2); have HB9n := Lib.hid hb9; refine hK2.out _ _ (⟨hHeld.1.keep (Nat.le_of_eq hs9.symm) (hk9 _ (by have := HLT.out; have := HA9.out.2; omega)), hHeld.2.1.keep (Nat.le_of_eq hs9.symm) (hk9 _ (by have := HLT.out; have := HA9.out.2; omega)), hHeld.2.2.keep (Nat.le_of_eq hs9.symm) (hk9 _ (by have := HLT.out; have := HA9.out.2; omega))⟩) (fun hHeld2 => ?_)
    clear HA8 HA9 HA10 HA11 HB9 HPL hz9 hs9 hk9 hb9; have HA8 := HA8n; have HA9 := HA9n; have HA10 := HA10n; have HA11 := HA11n; have HPL := HPLn; have HB9 := HB9n; clear HA8n HA9n HA10n HA11n HPLn HB9n; clear hK2 K2 hHeld; have hHeld := hHeld2; clear hHeld2
    try simp only [Act.put, List.setIfInBounds_toArray, List.set_cons_zero, List.set_cons_succ]
    obtain ⟨-, z0, z1, z2, z3, z4, z5, -⟩ := HA10.out.1; obtain ⟨g0, g1, g2, g3, g4, g5⟩ := HA10.out.1.fzB; refine wpAnyH_ready (rs := [14]) (by kernel_rfl) (by simp) ?_; refine AllReadyH.cons rfl (fun K2 hK2 => ?_) AllReadyH.nil
    go_simp
    obtain ⟨u4, hw9, hz9, hs9, hk9, hb9⟩ := cap_st HA10.out.1 HA10.out.2 HB9.out b1 l1 c1 p1 t1 true; rw [hw9]; clear hw9 z0 g0 z1 g1 z2 g2 z3 g3 z4 g4 z5 g5; have HA10n := Lib.hid (And.intro hz9 HA10.out.2); have HA8n := Lib.hid (And.intro (HA8.out.1.keep (Nat.le_of_eq hs9.symm) (hk9 _ hx8_10)) HA8.out.2); have HA9n := Lib.hid (And.intro (HA9.out.1.keep (Nat.le_of_eq hs9.symm) (hk9 _ hx9_10)) HA9.out.2)
    have HA11n := Lib.hid (And.intro (HA11.out.1.keep (Nat.le_of_eq hs9.symm) (hk9 _ hx10_11.symm)) HA11.out.2); have HPLn := Lib.hid (And.intro (HPL.out.1.away HW10.out T3.out rfl hb9 hs9 hk9) HPL.out.2); have HB9n := Lib.hid hb9; refine hK2.out _ _ (⟨hHeld.1.keep (Nat.le_of_eq hs9.symm) (hk9 _ (by have := HLT.out; have := HA10.out.2; omega)), hHeld.2.1.keep (Nat.le_of_eq hs9.symm) (hk9 _ (by have := HLT.out; have := HA10.out.2; omega)), hHeld.2.2.keep (Nat.le_of_eq hs9.symm) (hk9 _ (by have := HLT.out; have := HA10.out.2; omega))⟩) (fun hHeld2 => ?_)
    clear HA8 HA9 HA10 HA11 HB9 HPL hz9 hs9 hk9 hb9; have HA8 := HA8n; have HA9 := HA9n; have HA10 := HA10n; have HA11 := HA11n; have HPL := HPLn; have HB9 := HB9n; clear HA8n HA9n HA10n HA11n HPLn HB9n; clear hK2 K2 hHeld; have hHeld := hHeld2; clear hHeld2
    try simp only [Act.put, List.setIfInBounds_toArray, List.set_cons_zero, List.set_cons_succ]
    obtain ⟨-, z0, z1, z2, z3, z4, z5, -⟩ := HA11.out.1; obtain ⟨g0, g1, g2, g3, g4, g5⟩ := HA11.out.1.fzB; refine wpAnyH_ready (rs := [15]) (by kernel_rfl) (by simp) ?_; refine AllReadyH.cons rfl (fun K2 hK2 => ?_) AllReadyH.nil
    go_simp
    obtain ⟨u5, hw9, hz9, hs9, hk9, hb9⟩ := cap_st HA11.out.1 HA11.out.2 HB9.out b2 l2 c2 p2 t2 true; rw [hw9]; clear hw9 z0 g0 z1 g1 z2 g2 z3 g3 z4 g4 z5 g5; have HA11n := Lib.hid (And.intro hz9 HA11.out.2); have HA8n := Lib.hid (And.intro (HA8.out.1.keep (Nat.le_of_eq hs9.symm) (hk9 _ hx8_11)) HA8.out.2); have HA9n := Lib.hid (And.intro (HA9.out.1.keep (Nat.le_of_eq hs9.symm) (hk9 _ hx9_11)) HA9.out.2)
    have HA10n := Lib.hid (And.intro (HA10.out.1.keep (Nat.le_of_eq hs9.symm) (hk9 _ hx10_11)) HA10.out.2); have HPLn := Lib.hid (And.intro (HPL.out.1.away HW11.out T3.out rfl hb9 hs9 hk9) HPL.out.2); have HB9n := Lib.hid hb9; refine hK2.out _ _ (⟨hHeld.1.keep (Nat.le_of_eq hs9.symm) (hk9 _ (by have := HLT.out; have := HA11.out.2; omega)), hHeld.2.1.keep (Nat.le_of_eq hs9.symm) (hk9 _ (by have := HLT.out; have := HA11.out.2; omega)), hHeld.2.2.keep (Nat.le_of_eq hs9.symm) (hk9 _ (by have := HLT.out; have := HA11.out.2; omega))⟩) (fun hHeld2 => ?_)
    clear HA8 HA9 HA10 HA11 HB9 HPL hz9 hs9 hk9 hb9; have HA8 := HA8n; have HA9 := HA9n; have HA10 := HA10n; have HA11 := HA11n; have HPL := HPLn; have HB9 := HB9n; clear HA8n HA9n HA10n HA11n HPLn HB9n; clear hK2 K2 hHeld; have hHeld := hHeld2; clear hHeld2
    try simp only [Act.put, List.setIfInBounds_toArray, List.set_cons_zero, List.set_cons_succ]
    refine wpAnyH_done (by kernel_rfl) ?_ _
    go_wp2_with fail
    go_meet
    exact ⟨x8, x9, x10, x11, _, _, _, _, _, _, _, _, _, _, B, lo, g, col, M, R, P, pg, pc, ws, B', lo', g', col', M', R', P', pg', pc', ws', rfl, rfl, rfl, rfl, HPL, HQ1, HQ2, HA8, HA9, HA10, HA11, HW8, HW9, HW10, HW11, Lib.hid ⟨hx8_9, hx8_10, hx8_11, hx9_10, hx9_11, hx10_11⟩, HB9⟩
end Go.Proofs.YtnfcpohbdkionaaGreatDoor
