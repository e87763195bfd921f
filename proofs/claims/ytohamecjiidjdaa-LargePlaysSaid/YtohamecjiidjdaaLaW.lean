/- The walk of LargePlays. -/
import Derived.Test.YtohamecjiidjdaaLaK
import Derived.Deep.RegionHeld3
namespace Go.Proofs.Ytohamecjiidjdaa
open Go.RowKit
set_option linter.unusedVariables false
set_option linter.unusedSimpArgs false

set_option maxRecDepth 100000 in
set_option maxHeartbeats 40000000 in
theorem lplays (A : Option Addr) (l : List AC) (cp : Nat) (at0 : Int) (W : World) (hl : l.length ≤ 9223372036854775807) (hA : ACS W A l) : Calls Try.prog 4 #[.slice A l.length cp, .int .i64 at0] W fun e w' => e = .returned (.bool true) ∧ Below W.heap.size W w' := by
  have HA := Lib.hid hA
  obtain ⟨L, hL⟩ : ∃ L, l.length = L := ⟨_, rfl⟩
  rw [hL] at hl ⊢
  have HL := Lib.hid hL
  clear hA hL
  go_enter Try.func4, Try.ntmps4
  go_upto_region 2 with (fail)
  obtain ⟨g, hg⟩ : ∃ g, W.heap.size = g := ⟨_, rfl⟩
  obtain ⟨bm0, hbm0⟩ : ∃ bm0, W.heap.size + 1 = bm0 := ⟨_, rfl⟩
  obtain ⟨wa, hwa⟩ : ∃ wa, (W.alloc (.cells #[.slice none 0 0] 48)).alloc (.cells #[] 50) = wa := ⟨_, rfl⟩
  have HLS : Hid (LS W g (g + 2) bm0 wa (.slice (some ⟨bm0, 0, none⟩) 0 0) []) := Lib.hid (by
    have h1 := (LgAt.new W 48 (W.heap.size + 2) (by omega)).below (alc0 _ (.cells #[] 50))
    have h2 := vz_made 4 (W.alloc (.cells #[.slice none 0 0] 48)) 50
    rw [hwa, hg] at h1
    rw [hwa, show (W.alloc (.cells #[.slice none 0 0] 48)).heap.size = bm0 by simp; omega] at h2
    refine ⟨h1, h2, ⟨by omega, by omega, by rw [← hwa]; simp; omega, by omega, by omega, by omega⟩, fun i j p q _ h => by simp at h, fun p h => by simp at h, by rw [← hwa]; exact alc (alc0 _ _) _, by simp⟩)
  try rw [hwa]
  try simp only [hbm0]
  try rw [hg]
  have hg2 : g + 1 = bm0 := by omega
  try simp only [hg2]
  clear hwa hg hbm0 hg2
  go_wp2_with fail
  go_loopw [6, 7, 8, 9, 10, 11, 12, 13] (fun v6 v7 v8 v9 v10 v11 v12 v13 wr => ∃ i : Nat, i ≤ L ∧ i ≤ 40 ∧ v7 = .int .i64 i ∧ ∃ ms b bm, Hid (ms.length ≤ i) ∧ Hid (LS W g b bm wr v6 ms)) (fun _ v7 _ _ _ _ _ _ _ => L - (intOf v7).toNat)
  case atStart => exact ⟨0, by omega, by omega, rfl, [], _, _, Lib.hid (by simp), HLS⟩
  case round =>
    obtain ⟨i, hi, hi40, rfl, ms, b, bm, HML, HP⟩ := hrel
    clear HLS
    obtain ⟨off, c, e6, hbmw, hnc, hc63, -⟩ := HP.out.open_
    subst e6
    obtain ⟨n, hnn⟩ : ∃ n, ms.length = n := ⟨_, rfl⟩
    rw [hnn] at hnc HP HML ⊢
    have HN := Lib.hid hnn
    clear hnn
    have hn40 : n ≤ 40 := by have := HML.out; omega
    by_cases hgo : i < L ∧ i < 40
    · obtain ⟨g1, g2⟩ := hgo
      have g1I : (i : Int) < (L : Int) := by omega
      have g2I : (i : Int) < 40 := by omega
      obtain ⟨q, hq⟩ : ∃ q, l[i]? = some q := ⟨l[i]'(by have := HL.out; omega), List.getElem?_eq_getElem _⟩
      obtain h0 | ⟨ab, ao, rfl, hab0, hcells⟩ := HA.out
      · have h9 := HL.out
        subst h0
        simp at h9
        omega
      have HC0 : Hid (∀ w, Below W.heap.size W w → ACAt w ab (ao + i * 5) q ∧ ab < w.heap.size) := Lib.hid (fun w hw => ⟨(hcells i q hq).keep hab0 hw, Nat.lt_of_lt_of_le hab0 hw.size⟩)
      obtain ⟨⟨c0, c1, c2, c3, c4⟩, -⟩ := (HC0.out wr HP.out.wb).1
      have hab := (HC0.out wr HP.out.wb).2
      clear hcells hq
      have f1 := and31 q.a
      have f7 := and7 q.g
      obtain ⟨a5, ha5, ha51, ha52⟩ : ∃ a5 : Int, q.a % 32 = a5 ∧ 0 ≤ a5 ∧ a5 ≤ 31 := ⟨_, rfl, by omega, by omega⟩
      obtain ⟨pg, hpg, hpg1, hpg2⟩ : ∃ pg : Int, q.g % 8 = pg ∧ 0 ≤ pg ∧ pg ≤ 7 := ⟨_, rfl, by omega, by omega⟩
      rw [ha5] at f1
      rw [hpg] at f7
      obtain ⟨ya, hya⟩ : ∃ ya : Int, a5 * 16 = ya := ⟨_, rfl⟩
      have hyb : 0 ≤ ya ∧ ya ≤ 496 := by omega
      have HYA : Hid (ya % 16 = 0) := Lib.hid (by omega)
      have hyw : IntKind.i64.wrap ya = ya := by rw [IntKind.wrap_i64]; omega
      clear ha5 hpg
      go_upto_region 5 with (fail)
      go_cut [8] (fun v8 wx => ∃ z, v8 = .pointer (some ⟨z, 0, none⟩) ∧ Hid (L4 z wx ya q.f pg q.r) ∧ Hid (Below wr.heap.size wr wx) ∧ Hid (wr.heap.size ≤ z))
      case first =>
        as_aux_lemma =>
        refine wp_region_held_drew (S := fun w' => (w'.cell? ⟨ab, ao + i * 5 + 1, none⟩ = some (.int .i64 q.a) ∧ w'.cell? ⟨ab, ao + i * 5 + 2, none⟩ = some (.int .i64 q.f) ∧ w'.cell? ⟨ab, ao + i * 5 + 3, none⟩ = some (.int .i64 q.g) ∧ w'.cell? ⟨ab, ao + i * 5 + 4, none⟩ = some (.int .i64 q.r)) ∧ Hid (LS W g b bm w' (.slice (some ⟨bm, off, none⟩) n c) ms)) (by kernel_rfl) ?_ (fun hHeld => ?_)
        · exact ⟨⟨c1, c2, c3, c4⟩, Lib.hid HP.out.drew⟩
        refine wpAnyH_take (i := 0) (v := ?_) rfl (by kernel_rfl) (by kernel_rfl) (by kernel_rfl) (fun _ _ _ h => h) (Or.inl ⟨by kernel_rfl, ?_⟩) (by assumption) ?_
        rotate_left
        · (intro w hSw; (try dsimp only at hSw); go_simp)
          try (with_reducible rfl)
        rotate_left
        try simp (maxSteps := 4000000) only [Act.put, List.setIfInBounds_toArray, List.set_cons_zero, List.set_cons_succ, List.getElem_toArray, List.getElem_cons_zero, List.getElem_cons_succ]
        refine wpAnyH_take (i := 1) (v := ?_) rfl (by kernel_rfl) (by kernel_rfl) (by kernel_rfl) (fun _ _ _ h => h) (Or.inl ⟨by kernel_rfl, ?_⟩) (by assumption) ?_
        rotate_left
        · (intro w hSw; (try dsimp only at hSw); go_simp)
          try (with_reducible rfl)
        rotate_left
        try simp (maxSteps := 4000000) only [Act.put, List.setIfInBounds_toArray, List.set_cons_zero, List.set_cons_succ, List.getElem_toArray, List.getElem_cons_zero, List.getElem_cons_succ]
        refine wpAnyH_take (i := 2) (v := ?_) rfl (by kernel_rfl) (by kernel_rfl) (by kernel_rfl) (fun _ _ _ h => h) (Or.inl ⟨by kernel_rfl, ?_⟩) (by assumption) ?_
        rotate_left
        · (intro w hSw; (try dsimp only at hSw); go_simp)
          try (with_reducible rfl)
        rotate_left
        try simp (maxSteps := 4000000) only [Act.put, List.setIfInBounds_toArray, List.set_cons_zero, List.set_cons_succ, List.getElem_toArray, List.getElem_cons_zero, List.getElem_cons_succ]
        refine wpAnyH_take (i := 3) (v := ?_) rfl (by kernel_rfl) (by kernel_rfl) (by kernel_rfl) (fun _ _ _ h => h) (Or.inl ⟨by kernel_rfl, ?_⟩) (by assumption) ?_
        rotate_left
        · (intro w hSw; (try dsimp only at hSw); go_simp)
          try (with_reducible rfl)
        rotate_left
        try simp (maxSteps := 4000000) only [Act.put, List.setIfInBounds_toArray, List.set_cons_zero, List.set_cons_succ, List.getElem_toArray, List.getElem_cons_zero, List.getElem_cons_succ]
        refine wpAnyH_take (i := 4) (v := ?_) rfl (by kernel_rfl) (by kernel_rfl) (by kernel_rfl) (fun _ _ _ h => h) (Or.inl ⟨by kernel_rfl, ?_⟩) (by assumption) ?_
        rotate_left
        · (intro w hSw; (try dsimp only at hSw); go_simp)
          try (with_reducible rfl)
        rotate_left
        try simp (maxSteps := 4000000) only [Act.put, List.setIfInBounds_toArray, List.set_cons_zero, List.set_cons_succ, List.getElem_toArray, List.getElem_cons_zero, List.getElem_cons_succ]
        refine wpAnyH_take (i := 5) (v := ?_) rfl (by kernel_rfl) (by kernel_rfl) (by kernel_rfl) (fun _ _ _ h => h) (Or.inl ⟨by kernel_rfl, ?_⟩) (by assumption) ?_
        rotate_left
        · (intro w hSw; (try dsimp only at hSw); go_simp)
          try (with_reducible rfl)
        rotate_left
        try simp (maxSteps := 4000000) only [Act.put, List.setIfInBounds_toArray, List.set_cons_zero, List.set_cons_succ, List.getElem_toArray, List.getElem_cons_zero, List.getElem_cons_succ]
        refine wpAnyH_take (i := 6) (v := ?_) rfl (by kernel_rfl) (by kernel_rfl) (by kernel_rfl) (fun _ _ _ h => h) (Or.inl ⟨by kernel_rfl, ?_⟩) (by assumption) ?_
        rotate_left
        · (intro w hSw; (try dsimp only at hSw); go_simp)
          try (with_reducible rfl)
        rotate_left
        try simp (maxSteps := 4000000) only [Act.put, List.setIfInBounds_toArray, List.set_cons_zero, List.set_cons_succ, List.getElem_toArray, List.getElem_cons_zero, List.getElem_cons_succ]
        refine wpAnyH_take (i := 7) (v := ?_) rfl (by kernel_rfl) (by kernel_rfl) (by kernel_rfl) (fun _ _ _ h => h) (Or.inl ⟨by kernel_rfl, ?_⟩) (by assumption) ?_
        rotate_left
        · (intro w hSw; (try dsimp only at hSw); go_simp)
          try (with_reducible rfl)
        rotate_left
        try simp (maxSteps := 4000000) only [Act.put, List.setIfInBounds_toArray, List.set_cons_zero, List.set_cons_succ, List.getElem_toArray, List.getElem_cons_zero, List.getElem_cons_succ]
        refine wpAnyH_take (i := 8) (v := ?_) rfl (by kernel_rfl) (by kernel_rfl) (by kernel_rfl) (fun _ _ _ h => h) (Or.inl ⟨by kernel_rfl, ?_⟩) (by assumption) ?_
        rotate_left
        · (intro w hSw; (try dsimp only at hSw); go_simp)
          try (with_reducible rfl)
        rotate_left
        try simp (maxSteps := 4000000) only [Act.put, List.setIfInBounds_toArray, List.set_cons_zero, List.set_cons_succ, List.getElem_toArray, List.getElem_cons_zero, List.getElem_cons_succ]
        refine wpAnyH_take (i := 9) (v := ?_) rfl (by kernel_rfl) (by kernel_rfl) (by kernel_rfl) (fun _ _ _ h => h) (Or.inl ⟨by kernel_rfl, ?_⟩) (by assumption) ?_
        rotate_left
        · (intro w hSw; (try dsimp only at hSw); go_simp)
          try (with_reducible rfl)
        rotate_left
        try simp (maxSteps := 4000000) only [Act.put, List.setIfInBounds_toArray, List.set_cons_zero, List.set_cons_succ, List.getElem_toArray, List.getElem_cons_zero, List.getElem_cons_succ]
        refine wpAnyH_take (i := 10) (v := ?_) rfl (by kernel_rfl) (by kernel_rfl) (by kernel_rfl) (fun _ _ _ h => h) (Or.inl ⟨by kernel_rfl, ?_⟩) (by assumption) ?_
        rotate_left
        · (intro w hSw; (try dsimp only at hSw); go_simp)
          try (with_reducible rfl)
        rotate_left
        try simp (maxSteps := 4000000) only [Act.put, List.setIfInBounds_toArray, List.set_cons_zero, List.set_cons_succ, List.getElem_toArray, List.getElem_cons_zero, List.getElem_cons_succ]
        refine wpAnyH_take (i := 11) (v := ?_) rfl (by kernel_rfl) (by kernel_rfl) (by kernel_rfl) (fun _ _ _ h => h) (Or.inl ⟨by kernel_rfl, ?_⟩) (by assumption) ?_
        rotate_left
        · (intro w hSw; (try dsimp only at hSw); go_simp)
          try (with_reducible rfl)
        rotate_left
        try simp (maxSteps := 4000000) only [Act.put, List.setIfInBounds_toArray, List.set_cons_zero, List.set_cons_succ, List.getElem_toArray, List.getElem_cons_zero, List.getElem_cons_succ]
        refine wpAnyH_take (i := 12) (v := ?_) rfl (by kernel_rfl) (by kernel_rfl) (by kernel_rfl) (fun _ _ _ h => h) (Or.inl ⟨by kernel_rfl, ?_⟩) (by assumption) ?_
        rotate_left
        · (intro w hSw; (try dsimp only at hSw); go_simp)
          try (with_reducible rfl)
        rotate_left
        try simp (maxSteps := 4000000) only [Act.put, List.setIfInBounds_toArray, List.set_cons_zero, List.set_cons_succ, List.getElem_toArray, List.getElem_cons_zero, List.getElem_cons_succ]
        refine wpAnyH_take (i := 13) (v := ?_) rfl (by kernel_rfl) (by kernel_rfl) (by kernel_rfl) (fun _ _ _ h => h) (Or.inl ⟨by kernel_rfl, ?_⟩) (by assumption) ?_
        rotate_left
        · (intro w hSw; (try dsimp only at hSw); go_simp)
          try (with_reducible rfl)
        rotate_left
        try simp (maxSteps := 4000000) only [Act.put, List.setIfInBounds_toArray, List.set_cons_zero, List.set_cons_succ, List.getElem_toArray, List.getElem_cons_zero, List.getElem_cons_succ]
        refine wpAnyH_take (i := 14) (v := ?_) rfl (by kernel_rfl) (by kernel_rfl) (by kernel_rfl) (fun _ _ _ h => h) (Or.inl ⟨by kernel_rfl, ?_⟩) (by assumption) ?_
        rotate_left
        · (intro w hSw; (try dsimp only at hSw); go_simp)
          try (with_reducible rfl)
        rotate_left
        try simp (maxSteps := 4000000) only [Act.put, List.setIfInBounds_toArray, List.set_cons_zero, List.set_cons_succ, List.getElem_toArray, List.getElem_cons_zero, List.getElem_cons_succ]
        refine wpAnyH_take (i := 15) (v := ?_) rfl (by kernel_rfl) (by kernel_rfl) (by kernel_rfl) (fun _ _ _ h => h) (Or.inl ⟨by kernel_rfl, ?_⟩) (by assumption) ?_
        rotate_left
        · (intro w hSw; (try dsimp only at hSw); go_simp)
          try (with_reducible rfl)
        rotate_left
        try simp (maxSteps := 4000000) only [Act.put, List.setIfInBounds_toArray, List.set_cons_zero, List.set_cons_succ, List.getElem_toArray, List.getElem_cons_zero, List.getElem_cons_succ]
        refine wpAnyH_take (i := 16) (v := ?_) rfl (by kernel_rfl) (by kernel_rfl) (by kernel_rfl) (fun _ _ _ h => h) (Or.inl ⟨by kernel_rfl, ?_⟩) (by assumption) ?_
        rotate_left
        · (intro w hSw; (try dsimp only at hSw); go_simp)
          try (with_reducible rfl)
        rotate_left
        try simp (maxSteps := 4000000) only [Act.put, List.setIfInBounds_toArray, List.set_cons_zero, List.set_cons_succ, List.getElem_toArray, List.getElem_cons_zero, List.getElem_cons_succ]
        refine wpAnyH_take (i := 17) (v := ?_) rfl (by kernel_rfl) (by kernel_rfl) (by kernel_rfl) (fun _ _ _ h => h) (Or.inl ⟨by kernel_rfl, ?_⟩) (by assumption) ?_
        rotate_left
        · (intro w hSw; (try dsimp only at hSw); go_simp)
          try (with_reducible rfl)
        rotate_left
        try simp (maxSteps := 4000000) only [Act.put, List.setIfInBounds_toArray, List.set_cons_zero, List.set_cons_succ, List.getElem_toArray, List.getElem_cons_zero, List.getElem_cons_succ]
        refine wpAnyH_take (i := 18) (v := ?_) rfl (by kernel_rfl) (by kernel_rfl) (by kernel_rfl) (fun _ _ _ h => h) (Or.inl ⟨by kernel_rfl, ?_⟩) (by assumption) ?_
        rotate_left
        · (intro w hSw; (try dsimp only at hSw); go_simp)
          try (with_reducible rfl)
        rotate_left
        try simp (maxSteps := 4000000) only [Act.put, List.setIfInBounds_toArray, List.set_cons_zero, List.set_cons_succ, List.getElem_toArray, List.getElem_cons_zero, List.getElem_cons_succ]
        refine wpAnyH_take (i := 19) (v := ?_) rfl (by kernel_rfl) (by kernel_rfl) (by kernel_rfl) (fun _ _ _ h => h) (Or.inl ⟨by kernel_rfl, ?_⟩) (by assumption) ?_
        rotate_left
        · (intro w hSw; (try dsimp only at hSw); go_simp)
          try (with_reducible rfl)
        rotate_left
        try simp (maxSteps := 4000000) only [Act.put, List.setIfInBounds_toArray, List.set_cons_zero, List.set_cons_succ, List.getElem_toArray, List.getElem_cons_zero, List.getElem_cons_succ]
        refine wpAnyH_take (i := 20) (v := ?_) rfl (by kernel_rfl) (by kernel_rfl) (by kernel_rfl) (fun _ _ _ h => h) (Or.inl ⟨by kernel_rfl, ?_⟩) (by assumption) ?_
        rotate_left
        · (intro w hSw; (try dsimp only at hSw); go_simp)
          try (with_reducible rfl)
        rotate_left
        try simp (maxSteps := 4000000) only [Act.put, List.setIfInBounds_toArray, List.set_cons_zero, List.set_cons_succ, List.getElem_toArray, List.getElem_cons_zero, List.getElem_cons_succ]
        refine wpAnyH_take (i := 21) (v := ?_) rfl (by kernel_rfl) (by kernel_rfl) (by kernel_rfl) (fun _ _ _ h => h) (Or.inl ⟨by kernel_rfl, ?_⟩) (by assumption) ?_
        rotate_left
        · (intro w hSw; (try dsimp only at hSw); go_simp)
          try (with_reducible rfl)
        rotate_left
        try simp (maxSteps := 4000000) only [Act.put, List.setIfInBounds_toArray, List.set_cons_zero, List.set_cons_succ, List.getElem_toArray, List.getElem_cons_zero, List.getElem_cons_succ]
        refine wpAnyH_take (i := 22) (v := ?_) rfl (by kernel_rfl) (by kernel_rfl) (by kernel_rfl) (fun _ _ _ h => h) (Or.inl ⟨by kernel_rfl, ?_⟩) (by assumption) ?_
        rotate_left
        · (intro w hSw; (try dsimp only at hSw); go_simp)
          try (with_reducible rfl)
        rotate_left
        try simp (maxSteps := 4000000) only [Act.put, List.setIfInBounds_toArray, List.set_cons_zero, List.set_cons_succ, List.getElem_toArray, List.getElem_cons_zero, List.getElem_cons_succ]
        refine wpAnyH_take (i := 23) (v := ?_) rfl (by kernel_rfl) (by kernel_rfl) (by kernel_rfl) (fun _ _ _ h => h) (Or.inl ⟨by kernel_rfl, ?_⟩) (by assumption) ?_
        rotate_left
        · (intro w hSw; (try dsimp only at hSw); go_simp)
          try (with_reducible rfl)
        rotate_left
        try simp (maxSteps := 4000000) only [Act.put, List.setIfInBounds_toArray, List.set_cons_zero, List.set_cons_succ, List.getElem_toArray, List.getElem_cons_zero, List.getElem_cons_succ]
        refine wpAnyH_take (i := 24) (v := ?_) rfl (by kernel_rfl) (by kernel_rfl) (by kernel_rfl) (fun _ _ _ h => h) (Or.inl ⟨by kernel_rfl, ?_⟩) (by assumption) ?_
        rotate_left
        · (intro w hSw; (try dsimp only at hSw); go_simp)
          try (with_reducible rfl)
        rotate_left
        try simp (maxSteps := 4000000) only [Act.put, List.setIfInBounds_toArray, List.set_cons_zero, List.set_cons_succ, List.getElem_toArray, List.getElem_cons_zero, List.getElem_cons_succ]
        refine wpAnyH_take (i := 25) (v := ?_) rfl (by kernel_rfl) (by kernel_rfl) (by kernel_rfl) (fun _ _ _ h => h) (Or.inl ⟨by kernel_rfl, ?_⟩) (by assumption) ?_
        rotate_left
        · (intro w hSw; (try dsimp only at hSw); go_simp)
          try (with_reducible rfl)
        rotate_left
        try simp (maxSteps := 4000000) only [Act.put, List.setIfInBounds_toArray, List.set_cons_zero, List.set_cons_succ, List.getElem_toArray, List.getElem_cons_zero, List.getElem_cons_succ]
        refine wpAnyH_take (i := 26) (v := ?_) rfl (by kernel_rfl) (by kernel_rfl) (by kernel_rfl) (fun _ _ _ h => h) (Or.inl ⟨by kernel_rfl, ?_⟩) (by assumption) ?_
        rotate_left
        · (intro w hSw; (try dsimp only at hSw); go_simp)
          try (with_reducible rfl)
        rotate_left
        try simp (maxSteps := 4000000) only [Act.put, List.setIfInBounds_toArray, List.set_cons_zero, List.set_cons_succ, List.getElem_toArray, List.getElem_cons_zero, List.getElem_cons_succ]
        refine wpAnyH_take (i := 27) (v := ?_) rfl (by kernel_rfl) (by kernel_rfl) (by kernel_rfl) (fun _ _ _ h => h) (Or.inl ⟨by kernel_rfl, ?_⟩) (by assumption) ?_
        rotate_left
        · (intro w hSw; (try dsimp only at hSw); go_simp)
          try (with_reducible rfl)
        rotate_left
        try simp (maxSteps := 4000000) only [Act.put, List.setIfInBounds_toArray, List.set_cons_zero, List.set_cons_succ, List.getElem_toArray, List.getElem_cons_zero, List.getElem_cons_succ]
        refine wpAnyH_ready (rs := [28]) (by kernel_rfl) (by simp) ?_
        refine AllReadyH.cons rfl (fun K2 hK2 => ?_) AllReadyH.nil
        go_simp
        have hlp := HP.out.below (alc0 wr (.cells #[.int .i64 0, .int .i64 0, .int .i64 0, .int .i64 0] 50))
        refine hK2.out _ _ ?_ (fun hHeld2 => ?_)
        · obtain ⟨⟨⟨_, d1, d2, d3, d4⟩, -⟩, -⟩ := HC0.out _ hlp.drew.wb
          exact ⟨⟨d1, d2, d3, d4⟩, Lib.hid hlp.drew⟩
        clear hK2 K2 hHeld
        have hHeld := hHeld2
        clear hHeld2
        try simp (maxSteps := 4000000) only [Act.put, List.setIfInBounds_toArray, List.set_cons_zero, List.set_cons_succ]
        refine wpAnyH_ready (rs := [29]) (by kernel_rfl) (by simp) ?_
        refine AllReadyH.cons rfl (fun K2 hK2 => ?_) AllReadyH.nil
        go_simp
        refine hK2.out _ _ ?_ (fun hHeld2 => ?_)
        · have hlq := HP.out.below (alc0 wr (.cells #[.int .i64 ya, .int .i64 q.f, .int .i64 pg, .int .i64 q.r] 50))
          obtain ⟨⟨⟨_, d1, d2, d3, d4⟩, -⟩, -⟩ := HC0.out _ hlq.drew.wb
          exact ⟨⟨d1, d2, d3, d4⟩, Lib.hid hlq.drew⟩
        clear hK2 K2 hHeld
        have hHeld := hHeld2
        clear hHeld2
        try simp (maxSteps := 4000000) only [Act.put, List.setIfInBounds_toArray, List.set_cons_zero, List.set_cons_succ]
        refine wpAnyH_done (by kernel_rfl) ?_ _
        go_wp2_with fail
        go_meet
        exact ⟨wr.heap.size, rfl, Lib.hid ((L4.new wr ya q.f pg q.r _).below (Below.refl _ _).drew), Lib.hid ((alc0 wr _).drew), Lib.hid (Nat.le_refl _)⟩
      case rest =>
      obtain ⟨z, rfl, HZ, HBY, HZW⟩ := hcut
      obtain ⟨b9, hls9, hbz⟩ := HP.out.rez z HZW.out
      have hgz : g ≠ z := by have := HP.out.lg.1; have := HZW.out; omega
      have HP2 := Lib.hid (hls9.below HBY.out)
      clear hls9 HBY
      clear c0 c1 c2 c3 c4 hab f1 f7 hya ha51 ha52 hyw HP hbmw
      obtain ⟨b, hbb⟩ : ∃ b, b9 = b := ⟨_, rfl⟩
      rw [hbb] at HP2 hbz
      clear hbb
      rename World => wy
      go_wp2_with fail
      go_loopw [9] (fun v9 wl => ∃ k : Nat, k ≤ n ∧ v9 = .int .i64 k ∧ Hid (∀ j p, j < k → ms[j]? = some p → p.at_ < ya) ∧ Hid (Below wy.heap.size wy wl)) (fun v9 _ => n - (intOf v9).toNat)
      case atStart => exact ⟨0, by omega, rfl, Lib.hid (fun j p h => by omega), Lib.hid (Below.refl _ _)⟩
      case round =>
        rename World => wl
        obtain ⟨k, hk, rfl, HK1, HW⟩ := hrel
        have HPl := Lib.hid (HP2.out.below HW.out)
        have HZl := Lib.hid (HZ.out.below HW.out)
        obtain ⟨C, hC⟩ : ∃ C : Bool, (match ms[k]? with | some p => decide (p.at_ < ya) | none => false) = C := ⟨_, rfl⟩
        have HCC := Lib.hid hC
        clear hC
        go_upto_region 7 with (fail)
        go_cut [80] (fun v80 wx => v80 = .bool C ∧ Hid (Below wl.heap.size wl wx))
        case first =>
          obtain ⟨_, z0, -, -, -, -⟩ := HZl.out
          by_cases hkn : k < n
          · obtain ⟨p, hp⟩ : ∃ p, ms[k]? = some p := ⟨ms[k]'(by have := HN.out; omega), List.getElem?_eq_getElem _⟩
            obtain ⟨off', c'', e6, -, -, -, hcell⟩ := HPl.out.open_
            injection e6 with e6 e7 e8
            injection e6 with e6
            injection e6 with _ e6
            subst e6
            clear e7 e8
            obtain ⟨m0, -, -, -⟩ := hcell k p hp
            have hCe : decide (p.at_ < ya) = C := by have := HCC.out; rw [hp] at this; exact this
            have hCE := Lib.hid hCe
            have hknI : (k : Int) < (n : Int) := by omega
            have hd : decide ((k : Int) < (n : Int)) = true := by simpa using hkn
            have hd2 : decide (k < n) = true := by simpa using hkn
            clear hcell hp hCe
            refine wp_region_held_drew (S := fun w' => w'.cell? ⟨bm, off + k * 4, none⟩ = some (.int .i64 p.at_) ∧ w'.cell? ⟨z, 0, none⟩ = some (.int .i64 ya)) (by kernel_rfl) ?_ (fun hHeld => ?_)
            · exact ⟨m0, z0⟩
            refine wpAnyH_take (i := 0) (v := ?_) rfl (by kernel_rfl) (by kernel_rfl) (by kernel_rfl) (fun _ _ _ h => h) (Or.inl ⟨by kernel_rfl, ?_⟩) (by assumption) ?_
            rotate_left
            · (intro w hSw; (try dsimp only at hSw); go_simp)
              try (with_reducible rfl)
            rotate_left
            try simp (maxSteps := 4000000) only [Act.put, List.setIfInBounds_toArray, List.set_cons_zero, List.set_cons_succ, List.getElem_toArray, List.getElem_cons_zero, List.getElem_cons_succ]
            refine wpAnyH_take (i := 1) (v := ?_) rfl (by kernel_rfl) (by kernel_rfl) (by kernel_rfl) (fun _ _ _ h => h) (Or.inl ⟨by kernel_rfl, ?_⟩) (by assumption) ?_
            rotate_left
            · (intro w hSw; (try dsimp only at hSw); go_simp)
              try (with_reducible rfl)
            rotate_left
            try simp (maxSteps := 4000000) only [Act.put, List.setIfInBounds_toArray, List.set_cons_zero, List.set_cons_succ, List.getElem_toArray, List.getElem_cons_zero, List.getElem_cons_succ]
            refine wpAnyH_take (i := 2) (v := ?_) rfl (by kernel_rfl) (by kernel_rfl) (by kernel_rfl) (fun _ _ _ h => h) (Or.inl ⟨by kernel_rfl, ?_⟩) (by assumption) ?_
            rotate_left
            · (intro w hSw; (try dsimp only at hSw); go_simp)
              try (with_reducible rfl)
            rotate_left
            try simp (maxSteps := 4000000) only [Act.put, List.setIfInBounds_toArray, List.set_cons_zero, List.set_cons_succ, List.getElem_toArray, List.getElem_cons_zero, List.getElem_cons_succ]
            refine wpAnyH_take (i := 3) (v := ?_) rfl (by kernel_rfl) (by kernel_rfl) (by kernel_rfl) (fun _ _ _ h => h) (Or.inl ⟨by kernel_rfl, ?_⟩) (by assumption) ?_
            rotate_left
            · (intro w hSw; (try dsimp only at hSw); go_simp)
              try (with_reducible rfl)
            rotate_left
            try simp (maxSteps := 4000000) only [Act.put, List.setIfInBounds_toArray, List.set_cons_zero, List.set_cons_succ, List.getElem_toArray, List.getElem_cons_zero, List.getElem_cons_succ]
            refine wpAnyH_take (i := 4) (v := ?_) rfl (by kernel_rfl) (by kernel_rfl) (by kernel_rfl) (fun _ _ _ h => h) (Or.inl ⟨by kernel_rfl, ?_⟩) (by assumption) ?_
            rotate_left
            · (intro w hSw; (try dsimp only at hSw); go_simp)
              try (with_reducible rfl)
            rotate_left
            try simp (maxSteps := 4000000) only [Act.put, List.setIfInBounds_toArray, List.set_cons_zero, List.set_cons_succ, List.getElem_toArray, List.getElem_cons_zero, List.getElem_cons_succ]
            refine wpAnyH_take (i := 5) (v := ?_) rfl (by kernel_rfl) (by kernel_rfl) (by kernel_rfl) (fun _ _ _ h => h) (Or.inl ⟨by kernel_rfl, ?_⟩) (by assumption) ?_
            rotate_left
            · (intro w hSw; (try dsimp only at hSw); go_simp)
              try (with_reducible rfl)
            rotate_left
            try simp (maxSteps := 4000000) only [Act.put, List.setIfInBounds_toArray, List.set_cons_zero, List.set_cons_succ, List.getElem_toArray, List.getElem_cons_zero, List.getElem_cons_succ]
            refine wpAnyH_take (i := 6) (v := ?_) rfl (by kernel_rfl) (by kernel_rfl) (by kernel_rfl) (fun _ _ _ h => h) (Or.inl ⟨by kernel_rfl, ?_⟩) (by assumption) ?_
            rotate_left
            · (intro w hSw; (try dsimp only at hSw); go_simp)
              try (with_reducible rfl)
            rotate_left
            try simp (maxSteps := 4000000) only [Act.put, List.setIfInBounds_toArray, List.set_cons_zero, List.set_cons_succ, List.getElem_toArray, List.getElem_cons_zero, List.getElem_cons_succ]
            refine wpAnyH_take (i := 7) (v := ?_) rfl (by kernel_rfl) (by kernel_rfl) (by kernel_rfl) (fun _ _ _ h => h) (Or.inl ⟨by kernel_rfl, ?_⟩) (by assumption) ?_
            rotate_left
            · (intro w hSw; (try dsimp only at hSw); go_simp)
              try (with_reducible rfl)
            rotate_left
            try simp (maxSteps := 4000000) only [Act.put, List.setIfInBounds_toArray, List.set_cons_zero, List.set_cons_succ, List.getElem_toArray, List.getElem_cons_zero, List.getElem_cons_succ]
            refine wpAnyH_take (i := 8) (v := ?_) rfl (by kernel_rfl) (by kernel_rfl) (by kernel_rfl) (fun _ _ _ h => h) (Or.inl ⟨by kernel_rfl, ?_⟩) (by assumption) ?_
            rotate_left
            · (intro w hSw; (try dsimp only at hSw); go_simp)
              try (with_reducible rfl)
            rotate_left
            try simp (maxSteps := 4000000) only [Act.put, List.setIfInBounds_toArray, List.set_cons_zero, List.set_cons_succ, List.getElem_toArray, List.getElem_cons_zero, List.getElem_cons_succ]
            refine wpAnyH_take (i := 9) (v := ?_) rfl (by kernel_rfl) (by kernel_rfl) (by kernel_rfl) (fun _ _ _ h => h) (Or.inl ⟨by kernel_rfl, ?_⟩) (by assumption) ?_
            rotate_left
            · (intro w hSw; (try dsimp only at hSw); go_simp)
              try (with_reducible rfl)
            rotate_left
            try simp (maxSteps := 4000000) only [Act.put, List.setIfInBounds_toArray, List.set_cons_zero, List.set_cons_succ, List.getElem_toArray, List.getElem_cons_zero, List.getElem_cons_succ]
            refine wpAnyH_take (i := 10) (v := ?_) rfl (by kernel_rfl) (by kernel_rfl) (by kernel_rfl) (fun _ _ _ h => h) (Or.inl ⟨by kernel_rfl, ?_⟩) (by assumption) ?_
            rotate_left
            · (intro w hSw; (try dsimp only at hSw); go_simp)
              try (with_reducible rfl)
            rotate_left
            try simp (maxSteps := 4000000) only [Act.put, List.setIfInBounds_toArray, List.set_cons_zero, List.set_cons_succ, List.getElem_toArray, List.getElem_cons_zero, List.getElem_cons_succ]
            refine wpAnyH_take (i := 11) (v := ?_) rfl (by kernel_rfl) (by kernel_rfl) (by kernel_rfl) (fun _ _ _ h => h) (Or.inl ⟨by kernel_rfl, ?_⟩) (by assumption) ?_
            rotate_left
            · (intro w hSw; (try dsimp only at hSw); go_simp)
              try (with_reducible rfl)
            rotate_left
            try simp (maxSteps := 4000000) only [Act.put, List.setIfInBounds_toArray, List.set_cons_zero, List.set_cons_succ, List.getElem_toArray, List.getElem_cons_zero, List.getElem_cons_succ]
            refine wpAnyH_take (i := 12) (v := ?_) rfl (by kernel_rfl) (by kernel_rfl) (by kernel_rfl) (fun _ _ _ h => h) (Or.inl ⟨by kernel_rfl, ?_⟩) (by assumption) ?_
            rotate_left
            · (intro w hSw; (try dsimp only at hSw); go_simp)
              try (with_reducible rfl)
            rotate_left
            try simp (maxSteps := 4000000) only [Act.put, List.setIfInBounds_toArray, List.set_cons_zero, List.set_cons_succ, List.getElem_toArray, List.getElem_cons_zero, List.getElem_cons_succ]
            refine wpAnyH_take (i := 13) (v := ?_) rfl (by kernel_rfl) (by kernel_rfl) (by kernel_rfl) (fun _ _ _ h => h) (Or.inl ⟨by kernel_rfl, ?_⟩) (by assumption) ?_
            rotate_left
            · (intro w hSw; (try dsimp only at hSw); go_simp)
              try (with_reducible rfl)
            rotate_left
            try simp (maxSteps := 4000000) only [Act.put, List.setIfInBounds_toArray, List.set_cons_zero, List.set_cons_succ, List.getElem_toArray, List.getElem_cons_zero, List.getElem_cons_succ]
            refine wpAnyH_done (by kernel_rfl) ?_ _
            go_wp2_with fail
            go_meet
            exact ⟨by first | (rw [← hCE.out]; done) | (rw [← hCE.out]; simp), Lib.hid (Below.refl _ _).drew⟩
          · have hkn2 : k = n := by omega
            have hCe : false = C := by have := HCC.out; rw [List.getElem?_eq_none (by have := HN.out; omega)] at this; exact this
            have hd : decide ((k : Int) < (n : Int)) = false := by simp; omega
            have hd2 : decide (k < n) = false := by simp; omega
            have hCE := Lib.hid hCe
            have hknI : ¬ (k : Int) < (n : Int) := by omega
            clear hkn2 hCe
            refine wp_region_held_drew (S := fun w' => w'.cell? ⟨z, 0, none⟩ = some (.int .i64 ya) ∧ w'.cell? ⟨z, 0, none⟩ = some (.int .i64 ya)) (by kernel_rfl) ?_ (fun hHeld => ?_)
            · exact ⟨z0, z0⟩
            refine wpAnyH_take (i := 0) (v := ?_) rfl (by kernel_rfl) (by kernel_rfl) (by kernel_rfl) (fun _ _ _ h => h) (Or.inl ⟨by kernel_rfl, ?_⟩) (by assumption) ?_
            rotate_left
            · (intro w hSw; (try dsimp only at hSw); go_simp)
              try (with_reducible rfl)
            rotate_left
            try simp (maxSteps := 4000000) only [Act.put, List.setIfInBounds_toArray, List.set_cons_zero, List.set_cons_succ, List.getElem_toArray, List.getElem_cons_zero, List.getElem_cons_succ]
            refine wpAnyH_take (i := 1) (v := ?_) rfl (by kernel_rfl) (by kernel_rfl) (by kernel_rfl) (fun _ _ _ h => h) (Or.inl ⟨by kernel_rfl, ?_⟩) (by assumption) ?_
            rotate_left
            · (intro w hSw; (try dsimp only at hSw); go_simp)
              try (with_reducible rfl)
            rotate_left
            try simp (maxSteps := 4000000) only [Act.put, List.setIfInBounds_toArray, List.set_cons_zero, List.set_cons_succ, List.getElem_toArray, List.getElem_cons_zero, List.getElem_cons_succ]
            refine wpAnyH_take (i := 2) (v := ?_) rfl (by kernel_rfl) (by kernel_rfl) (by kernel_rfl) (fun _ _ _ h => h) (Or.inl ⟨by kernel_rfl, ?_⟩) (by assumption) ?_
            rotate_left
            · (intro w hSw; (try dsimp only at hSw); go_simp)
              try (with_reducible rfl)
            rotate_left
            try simp (maxSteps := 4000000) only [Act.put, List.setIfInBounds_toArray, List.set_cons_zero, List.set_cons_succ, List.getElem_toArray, List.getElem_cons_zero, List.getElem_cons_succ]
            refine wpAnyH_take (i := 3) (v := ?_) rfl (by kernel_rfl) (by kernel_rfl) (by kernel_rfl) (fun _ _ _ h => h) (Or.inl ⟨by kernel_rfl, ?_⟩) (by assumption) ?_
            rotate_left
            · (intro w hSw; (try dsimp only at hSw); go_simp)
              try (with_reducible rfl)
            rotate_left
            try simp (maxSteps := 4000000) only [Act.put, List.setIfInBounds_toArray, List.set_cons_zero, List.set_cons_succ, List.getElem_toArray, List.getElem_cons_zero, List.getElem_cons_succ]
            refine wpAnyH_take (i := 4) (v := ?_) rfl (by kernel_rfl) (by kernel_rfl) (by kernel_rfl) (fun _ _ _ h => h) (Or.inl ⟨by kernel_rfl, ?_⟩) (by assumption) ?_
            rotate_left
            · (intro w hSw; (try dsimp only at hSw); go_simp)
              try (with_reducible rfl)
            rotate_left
            try simp (maxSteps := 4000000) only [Act.put, List.setIfInBounds_toArray, List.set_cons_zero, List.set_cons_succ, List.getElem_toArray, List.getElem_cons_zero, List.getElem_cons_succ]
            refine wpAnyH_take (i := 5) (v := undef) rfl (by kernel_rfl) (by kernel_rfl) (by kernel_rfl) (fun _ _ _ h => h) (Or.inr ⟨by kernel_rfl, rfl⟩) (by assumption) ?_
            try simp (maxSteps := 4000000) only [Act.put, List.setIfInBounds_toArray, List.set_cons_zero, List.set_cons_succ, List.getElem_toArray, List.getElem_cons_zero, List.getElem_cons_succ]
            refine wpAnyH_take (i := 6) (v := undef) rfl (by kernel_rfl) (by kernel_rfl) (by kernel_rfl) (fun _ _ _ h => h) (Or.inr ⟨by kernel_rfl, rfl⟩) (by assumption) ?_
            try simp (maxSteps := 4000000) only [Act.put, List.setIfInBounds_toArray, List.set_cons_zero, List.set_cons_succ, List.getElem_toArray, List.getElem_cons_zero, List.getElem_cons_succ]
            refine wpAnyH_take (i := 7) (v := undef) rfl (by kernel_rfl) (by kernel_rfl) (by kernel_rfl) (fun _ _ _ h => h) (Or.inr ⟨by kernel_rfl, rfl⟩) (by assumption) ?_
            try simp (maxSteps := 4000000) only [Act.put, List.setIfInBounds_toArray, List.set_cons_zero, List.set_cons_succ, List.getElem_toArray, List.getElem_cons_zero, List.getElem_cons_succ]
            refine wpAnyH_take (i := 8) (v := undef) rfl (by kernel_rfl) (by kernel_rfl) (by kernel_rfl) (fun _ _ _ h => h) (Or.inr ⟨by kernel_rfl, rfl⟩) (by assumption) ?_
            try simp (maxSteps := 4000000) only [Act.put, List.setIfInBounds_toArray, List.set_cons_zero, List.set_cons_succ, List.getElem_toArray, List.getElem_cons_zero, List.getElem_cons_succ]
            refine wpAnyH_take (i := 9) (v := undef) rfl (by kernel_rfl) (by kernel_rfl) (by kernel_rfl) (fun _ _ _ h => h) (Or.inr ⟨by kernel_rfl, rfl⟩) (by assumption) ?_
            try simp (maxSteps := 4000000) only [Act.put, List.setIfInBounds_toArray, List.set_cons_zero, List.set_cons_succ, List.getElem_toArray, List.getElem_cons_zero, List.getElem_cons_succ]
            refine wpAnyH_take (i := 10) (v := undef) rfl (by kernel_rfl) (by kernel_rfl) (by kernel_rfl) (fun _ _ _ h => h) (Or.inr ⟨by kernel_rfl, rfl⟩) (by assumption) ?_
            try simp (maxSteps := 4000000) only [Act.put, List.setIfInBounds_toArray, List.set_cons_zero, List.set_cons_succ, List.getElem_toArray, List.getElem_cons_zero, List.getElem_cons_succ]
            refine wpAnyH_take (i := 11) (v := undef) rfl (by kernel_rfl) (by kernel_rfl) (by kernel_rfl) (fun _ _ _ h => h) (Or.inr ⟨by kernel_rfl, rfl⟩) (by assumption) ?_
            try simp (maxSteps := 4000000) only [Act.put, List.setIfInBounds_toArray, List.set_cons_zero, List.set_cons_succ, List.getElem_toArray, List.getElem_cons_zero, List.getElem_cons_succ]
            refine wpAnyH_take (i := 12) (v := undef) rfl (by kernel_rfl) (by kernel_rfl) (by kernel_rfl) (fun _ _ _ h => h) (Or.inr ⟨by kernel_rfl, rfl⟩) (by assumption) ?_
            try simp (maxSteps := 4000000) only [Act.put, List.setIfInBounds_toArray, List.set_cons_zero, List.set_cons_succ, List.getElem_toArray, List.getElem_cons_zero, List.getElem_cons_succ]
            refine wpAnyH_take (i := 13) (v := ?_) rfl (by kernel_rfl) (by kernel_rfl) (by kernel_rfl) (fun _ _ _ h => h) (Or.inl ⟨by kernel_rfl, ?_⟩) (by assumption) ?_
            rotate_left
            · (intro w hSw; (try dsimp only at hSw); go_simp)
              try (with_reducible rfl)
            rotate_left
            try simp (maxSteps := 4000000) only [Act.put, List.setIfInBounds_toArray, List.set_cons_zero, List.set_cons_succ, List.getElem_toArray, List.getElem_cons_zero, List.getElem_cons_succ]
            refine wpAnyH_done (by kernel_rfl) ?_ _
            go_wp2_with fail
            go_meet
            exact ⟨by rw [← hCE.out], Lib.hid (Below.refl _ _).drew⟩
        case rest =>
          obtain ⟨rfl, HW2⟩ := hcut
          rename World => wm
          have HWm := Lib.hid (thn HW.out HW2.out)
          clear HW HW2 HPl HZl
          cases C with
          | true =>
            have hkn : k < n := by
              have := HCC.out
              cases hms : ms[k]? with
              | none => rw [hms] at this; cases this
              | some p => have := (List.getElem?_eq_some_iff.1 hms).1; have := HN.out; omega
            have HK2 : Hid (∀ j p, j < k + 1 → ms[j]? = some p → p.at_ < ya) := Lib.hid (fun j p hj hp => by
              by_cases e : j = k
              · subst e
                have := HCC.out
                rw [hp] at this
                simpa using this
              · exact HK1.out j p (by omega) hp)
            have hk40 : k ≤ 40 := by omega
            clear HK1
            go_wp2_with fail
            go_roundw
            case rel => exact ⟨k + 1, by omega, by go_num, HK2, HWm⟩
            case measure => simp [intOf] <;> omega
          | false =>
            have HLB : Hid (LBat ms ya k) := Lib.hid (by
              refine ⟨by have := HN.out; omega, fun j p hj hp => HK1.out j p hj hp, fun j p hj hp => ?_⟩
              have h0 := HCC.out
              obtain ⟨p0, hp0⟩ : ∃ p0, ms[k]? = some p0 := ⟨ms[k]'(by have := (List.getElem?_eq_some_iff.1 hp).1; omega), List.getElem?_eq_getElem _⟩
              rw [hp0] at h0
              have h1 : ya ≤ p0.at_ := by simpa using h0
              by_cases e : k = j
              · subst e; rw [hp0] at hp; injection hp with hp; subst hp; exact h1
              · have := HP2.out.rise k j p0 p (by omega) hp0 hp
                omega)
            have HPm := Lib.hid (HP2.out.below HWm.out)
            have HZm := Lib.hid (HZ.out.below HWm.out)
            have hzy : wr.heap.size ≤ z := HZW.out
            clear HK1 HCC HP2 HZ HWm HZW
            obtain ⟨F, hF⟩ : ∃ F : Bool, fndB ms ya k = F := ⟨_, rfl⟩
            have HFF := Lib.hid hF
            clear hF
            go_upto_region 9 with (fail)
            go_cut [10] (fun v10 wx => v10 = .bool F ∧ Hid (Below wm.heap.size wm wx))
            case first =>
              obtain ⟨_, z0, -, -, -, -⟩ := HZm.out
              by_cases hkn : k < n
              · obtain ⟨p, hp⟩ : ∃ p, ms[k]? = some p := ⟨ms[k]'(by have := HN.out; omega), List.getElem?_eq_getElem _⟩
                obtain ⟨off', c'', e6, -, -, -, hcell⟩ := HPm.out.open_
                injection e6 with e6 e7 e8
                injection e6 with e6
                injection e6 with _ e6
                subst e6
                clear e7 e8
                obtain ⟨m0, -, -, -⟩ := hcell k p hp
                have hCe : (p.at_ == ya) = F := by have := HFF.out; unfold fndB at this; rw [hp] at this; exact this
                have hCE := Lib.hid hCe
                have hknI : (k : Int) < (n : Int) := by omega
                have hd : decide ((k : Int) < (n : Int)) = true := by simpa using hkn
                have hd2 : decide (k < n) = true := by simpa using hkn
                clear hcell hp hCe
                refine wp_region_held_drew (S := fun w' => w'.cell? ⟨bm, off + k * 4, none⟩ = some (.int .i64 p.at_) ∧ w'.cell? ⟨z, 0, none⟩ = some (.int .i64 ya)) (by kernel_rfl) ?_ (fun hHeld => ?_)
                · exact ⟨m0, z0⟩
                refine wpAnyH_take (i := 0) (v := ?_) rfl (by kernel_rfl) (by kernel_rfl) (by kernel_rfl) (fun _ _ _ h => h) (Or.inl ⟨by kernel_rfl, ?_⟩) (by assumption) ?_
                rotate_left
                · (intro w hSw; (try dsimp only at hSw); go_simp)
                  try (with_reducible rfl)
                rotate_left
                try simp (maxSteps := 4000000) only [Act.put, List.setIfInBounds_toArray, List.set_cons_zero, List.set_cons_succ, List.getElem_toArray, List.getElem_cons_zero, List.getElem_cons_succ]
                refine wpAnyH_take (i := 1) (v := ?_) rfl (by kernel_rfl) (by kernel_rfl) (by kernel_rfl) (fun _ _ _ h => h) (Or.inl ⟨by kernel_rfl, ?_⟩) (by assumption) ?_
                rotate_left
                · (intro w hSw; (try dsimp only at hSw); go_simp)
                  try (with_reducible rfl)
                rotate_left
                try simp (maxSteps := 4000000) only [Act.put, List.setIfInBounds_toArray, List.set_cons_zero, List.set_cons_succ, List.getElem_toArray, List.getElem_cons_zero, List.getElem_cons_succ]
                refine wpAnyH_take (i := 2) (v := ?_) rfl (by kernel_rfl) (by kernel_rfl) (by kernel_rfl) (fun _ _ _ h => h) (Or.inl ⟨by kernel_rfl, ?_⟩) (by assumption) ?_
                rotate_left
                · (intro w hSw; (try dsimp only at hSw); go_simp)
                  try (with_reducible rfl)
                rotate_left
                try simp (maxSteps := 4000000) only [Act.put, List.setIfInBounds_toArray, List.set_cons_zero, List.set_cons_succ, List.getElem_toArray, List.getElem_cons_zero, List.getElem_cons_succ]
                refine wpAnyH_take (i := 3) (v := ?_) rfl (by kernel_rfl) (by kernel_rfl) (by kernel_rfl) (fun _ _ _ h => h) (Or.inl ⟨by kernel_rfl, ?_⟩) (by assumption) ?_
                rotate_left
                · (intro w hSw; (try dsimp only at hSw); go_simp)
                  try (with_reducible rfl)
                rotate_left
                try simp (maxSteps := 4000000) only [Act.put, List.setIfInBounds_toArray, List.set_cons_zero, List.set_cons_succ, List.getElem_toArray, List.getElem_cons_zero, List.getElem_cons_succ]
                refine wpAnyH_take (i := 4) (v := ?_) rfl (by kernel_rfl) (by kernel_rfl) (by kernel_rfl) (fun _ _ _ h => h) (Or.inl ⟨by kernel_rfl, ?_⟩) (by assumption) ?_
                rotate_left
                · (intro w hSw; (try dsimp only at hSw); go_simp)
                  try (with_reducible rfl)
                rotate_left
                try simp (maxSteps := 4000000) only [Act.put, List.setIfInBounds_toArray, List.set_cons_zero, List.set_cons_succ, List.getElem_toArray, List.getElem_cons_zero, List.getElem_cons_succ]
                refine wpAnyH_take (i := 5) (v := ?_) rfl (by kernel_rfl) (by kernel_rfl) (by kernel_rfl) (fun _ _ _ h => h) (Or.inl ⟨by kernel_rfl, ?_⟩) (by assumption) ?_
                rotate_left
                · (intro w hSw; (try dsimp only at hSw); go_simp)
                  try (with_reducible rfl)
                rotate_left
                try simp (maxSteps := 4000000) only [Act.put, List.setIfInBounds_toArray, List.set_cons_zero, List.set_cons_succ, List.getElem_toArray, List.getElem_cons_zero, List.getElem_cons_succ]
                refine wpAnyH_take (i := 6) (v := ?_) rfl (by kernel_rfl) (by kernel_rfl) (by kernel_rfl) (fun _ _ _ h => h) (Or.inl ⟨by kernel_rfl, ?_⟩) (by assumption) ?_
                rotate_left
                · (intro w hSw; (try dsimp only at hSw); go_simp)
                  try (with_reducible rfl)
                rotate_left
                try simp (maxSteps := 4000000) only [Act.put, List.setIfInBounds_toArray, List.set_cons_zero, List.set_cons_succ, List.getElem_toArray, List.getElem_cons_zero, List.getElem_cons_succ]
                refine wpAnyH_take (i := 7) (v := ?_) rfl (by kernel_rfl) (by kernel_rfl) (by kernel_rfl) (fun _ _ _ h => h) (Or.inl ⟨by kernel_rfl, ?_⟩) (by assumption) ?_
                rotate_left
                · (intro w hSw; (try dsimp only at hSw); go_simp)
                  try (with_reducible rfl)
                rotate_left
                try simp (maxSteps := 4000000) only [Act.put, List.setIfInBounds_toArray, List.set_cons_zero, List.set_cons_succ, List.getElem_toArray, List.getElem_cons_zero, List.getElem_cons_succ]
                refine wpAnyH_take (i := 8) (v := ?_) rfl (by kernel_rfl) (by kernel_rfl) (by kernel_rfl) (fun _ _ _ h => h) (Or.inl ⟨by kernel_rfl, ?_⟩) (by assumption) ?_
                rotate_left
                · (intro w hSw; (try dsimp only at hSw); go_simp)
                  try (with_reducible rfl)
                rotate_left
                try simp (maxSteps := 4000000) only [Act.put, List.setIfInBounds_toArray, List.set_cons_zero, List.set_cons_succ, List.getElem_toArray, List.getElem_cons_zero, List.getElem_cons_succ]
                refine wpAnyH_take (i := 9) (v := ?_) rfl (by kernel_rfl) (by kernel_rfl) (by kernel_rfl) (fun _ _ _ h => h) (Or.inl ⟨by kernel_rfl, ?_⟩) (by assumption) ?_
                rotate_left
                · (intro w hSw; (try dsimp only at hSw); go_simp)
                  try (with_reducible rfl)
                rotate_left
                try simp (maxSteps := 4000000) only [Act.put, List.setIfInBounds_toArray, List.set_cons_zero, List.set_cons_succ, List.getElem_toArray, List.getElem_cons_zero, List.getElem_cons_succ]
                refine wpAnyH_take (i := 10) (v := ?_) rfl (by kernel_rfl) (by kernel_rfl) (by kernel_rfl) (fun _ _ _ h => h) (Or.inl ⟨by kernel_rfl, ?_⟩) (by assumption) ?_
                rotate_left
                · (intro w hSw; (try dsimp only at hSw); go_simp)
                  try (with_reducible rfl)
                rotate_left
                try simp (maxSteps := 4000000) only [Act.put, List.setIfInBounds_toArray, List.set_cons_zero, List.set_cons_succ, List.getElem_toArray, List.getElem_cons_zero, List.getElem_cons_succ]
                refine wpAnyH_take (i := 11) (v := ?_) rfl (by kernel_rfl) (by kernel_rfl) (by kernel_rfl) (fun _ _ _ h => h) (Or.inl ⟨by kernel_rfl, ?_⟩) (by assumption) ?_
                rotate_left
                · (intro w hSw; (try dsimp only at hSw); go_simp)
                  try (with_reducible rfl)
                rotate_left
                try simp (maxSteps := 4000000) only [Act.put, List.setIfInBounds_toArray, List.set_cons_zero, List.set_cons_succ, List.getElem_toArray, List.getElem_cons_zero, List.getElem_cons_succ]
                refine wpAnyH_take (i := 12) (v := ?_) rfl (by kernel_rfl) (by kernel_rfl) (by kernel_rfl) (fun _ _ _ h => h) (Or.inl ⟨by kernel_rfl, ?_⟩) (by assumption) ?_
                rotate_left
                · (intro w hSw; (try dsimp only at hSw); go_simp)
                  try (with_reducible rfl)
                rotate_left
                try simp (maxSteps := 4000000) only [Act.put, List.setIfInBounds_toArray, List.set_cons_zero, List.set_cons_succ, List.getElem_toArray, List.getElem_cons_zero, List.getElem_cons_succ]
                refine wpAnyH_take (i := 13) (v := ?_) rfl (by kernel_rfl) (by kernel_rfl) (by kernel_rfl) (fun _ _ _ h => h) (Or.inl ⟨by kernel_rfl, ?_⟩) (by assumption) ?_
                rotate_left
                · (intro w hSw; (try dsimp only at hSw); go_simp)
                  try (with_reducible rfl)
                rotate_left
                try simp (maxSteps := 4000000) only [Act.put, List.setIfInBounds_toArray, List.set_cons_zero, List.set_cons_succ, List.getElem_toArray, List.getElem_cons_zero, List.getElem_cons_succ]
                refine wpAnyH_take (i := 14) (v := ?_) rfl (by kernel_rfl) (by kernel_rfl) (by kernel_rfl) (fun _ _ _ h => h) (Or.inl ⟨by kernel_rfl, ?_⟩) (by assumption) ?_
                rotate_left
                · (intro w hSw; (try dsimp only at hSw); go_simp)
                  try (with_reducible rfl)
                rotate_left
                try simp (maxSteps := 4000000) only [Act.put, List.setIfInBounds_toArray, List.set_cons_zero, List.set_cons_succ, List.getElem_toArray, List.getElem_cons_zero, List.getElem_cons_succ]
                refine wpAnyH_done (by kernel_rfl) ?_ _
                go_wp2_with fail
                go_meet
                exact ⟨by first | (rw [← hCE.out]; done) | (rw [← hCE.out]; simp), Lib.hid (Below.refl _ _).drew⟩
              · have hCe : false = F := by have := HFF.out; unfold fndB at this; rw [List.getElem?_eq_none (by have := HN.out; omega)] at this; exact this
                have hd : decide ((k : Int) < (n : Int)) = false := by simp; omega
                have hd2 : decide (k < n) = false := by simp; omega
                have hCE := Lib.hid hCe
                have hknI : ¬ (k : Int) < (n : Int) := by omega
                clear hCe
                refine wp_region_held_drew (S := fun w' => w'.cell? ⟨z, 0, none⟩ = some (.int .i64 ya) ∧ w'.cell? ⟨z, 0, none⟩ = some (.int .i64 ya)) (by kernel_rfl) ?_ (fun hHeld => ?_)
                · exact ⟨z0, z0⟩
                refine wpAnyH_take (i := 0) (v := ?_) rfl (by kernel_rfl) (by kernel_rfl) (by kernel_rfl) (fun _ _ _ h => h) (Or.inl ⟨by kernel_rfl, ?_⟩) (by assumption) ?_
                rotate_left
                · (intro w hSw; (try dsimp only at hSw); go_simp)
                  try (with_reducible rfl)
                rotate_left
                try simp (maxSteps := 4000000) only [Act.put, List.setIfInBounds_toArray, List.set_cons_zero, List.set_cons_succ, List.getElem_toArray, List.getElem_cons_zero, List.getElem_cons_succ]
                refine wpAnyH_take (i := 1) (v := ?_) rfl (by kernel_rfl) (by kernel_rfl) (by kernel_rfl) (fun _ _ _ h => h) (Or.inl ⟨by kernel_rfl, ?_⟩) (by assumption) ?_
                rotate_left
                · (intro w hSw; (try dsimp only at hSw); go_simp)
                  try (with_reducible rfl)
                rotate_left
                try simp (maxSteps := 4000000) only [Act.put, List.setIfInBounds_toArray, List.set_cons_zero, List.set_cons_succ, List.getElem_toArray, List.getElem_cons_zero, List.getElem_cons_succ]
                refine wpAnyH_take (i := 2) (v := ?_) rfl (by kernel_rfl) (by kernel_rfl) (by kernel_rfl) (fun _ _ _ h => h) (Or.inl ⟨by kernel_rfl, ?_⟩) (by assumption) ?_
                rotate_left
                · (intro w hSw; (try dsimp only at hSw); go_simp)
                  try (with_reducible rfl)
                rotate_left
                try simp (maxSteps := 4000000) only [Act.put, List.setIfInBounds_toArray, List.set_cons_zero, List.set_cons_succ, List.getElem_toArray, List.getElem_cons_zero, List.getElem_cons_succ]
                refine wpAnyH_take (i := 3) (v := ?_) rfl (by kernel_rfl) (by kernel_rfl) (by kernel_rfl) (fun _ _ _ h => h) (Or.inl ⟨by kernel_rfl, ?_⟩) (by assumption) ?_
                rotate_left
                · (intro w hSw; (try dsimp only at hSw); go_simp)
                  try (with_reducible rfl)
                rotate_left
                try simp (maxSteps := 4000000) only [Act.put, List.setIfInBounds_toArray, List.set_cons_zero, List.set_cons_succ, List.getElem_toArray, List.getElem_cons_zero, List.getElem_cons_succ]
                refine wpAnyH_take (i := 4) (v := ?_) rfl (by kernel_rfl) (by kernel_rfl) (by kernel_rfl) (fun _ _ _ h => h) (Or.inl ⟨by kernel_rfl, ?_⟩) (by assumption) ?_
                rotate_left
                · (intro w hSw; (try dsimp only at hSw); go_simp)
                  try (with_reducible rfl)
                rotate_left
                try simp (maxSteps := 4000000) only [Act.put, List.setIfInBounds_toArray, List.set_cons_zero, List.set_cons_succ, List.getElem_toArray, List.getElem_cons_zero, List.getElem_cons_succ]
                refine wpAnyH_take (i := 5) (v := undef) rfl (by kernel_rfl) (by kernel_rfl) (by kernel_rfl) (fun _ _ _ h => h) (Or.inr ⟨by kernel_rfl, rfl⟩) (by assumption) ?_
                try simp (maxSteps := 4000000) only [Act.put, List.setIfInBounds_toArray, List.set_cons_zero, List.set_cons_succ, List.getElem_toArray, List.getElem_cons_zero, List.getElem_cons_succ]
                refine wpAnyH_take (i := 6) (v := undef) rfl (by kernel_rfl) (by kernel_rfl) (by kernel_rfl) (fun _ _ _ h => h) (Or.inr ⟨by kernel_rfl, rfl⟩) (by assumption) ?_
                try simp (maxSteps := 4000000) only [Act.put, List.setIfInBounds_toArray, List.set_cons_zero, List.set_cons_succ, List.getElem_toArray, List.getElem_cons_zero, List.getElem_cons_succ]
                refine wpAnyH_take (i := 7) (v := undef) rfl (by kernel_rfl) (by kernel_rfl) (by kernel_rfl) (fun _ _ _ h => h) (Or.inr ⟨by kernel_rfl, rfl⟩) (by assumption) ?_
                try simp (maxSteps := 4000000) only [Act.put, List.setIfInBounds_toArray, List.set_cons_zero, List.set_cons_succ, List.getElem_toArray, List.getElem_cons_zero, List.getElem_cons_succ]
                refine wpAnyH_take (i := 8) (v := undef) rfl (by kernel_rfl) (by kernel_rfl) (by kernel_rfl) (fun _ _ _ h => h) (Or.inr ⟨by kernel_rfl, rfl⟩) (by assumption) ?_
                try simp (maxSteps := 4000000) only [Act.put, List.setIfInBounds_toArray, List.set_cons_zero, List.set_cons_succ, List.getElem_toArray, List.getElem_cons_zero, List.getElem_cons_succ]
                refine wpAnyH_take (i := 9) (v := undef) rfl (by kernel_rfl) (by kernel_rfl) (by kernel_rfl) (fun _ _ _ h => h) (Or.inr ⟨by kernel_rfl, rfl⟩) (by assumption) ?_
                try simp (maxSteps := 4000000) only [Act.put, List.setIfInBounds_toArray, List.set_cons_zero, List.set_cons_succ, List.getElem_toArray, List.getElem_cons_zero, List.getElem_cons_succ]
                refine wpAnyH_take (i := 10) (v := undef) rfl (by kernel_rfl) (by kernel_rfl) (by kernel_rfl) (fun _ _ _ h => h) (Or.inr ⟨by kernel_rfl, rfl⟩) (by assumption) ?_
                try simp (maxSteps := 4000000) only [Act.put, List.setIfInBounds_toArray, List.set_cons_zero, List.set_cons_succ, List.getElem_toArray, List.getElem_cons_zero, List.getElem_cons_succ]
                refine wpAnyH_take (i := 11) (v := undef) rfl (by kernel_rfl) (by kernel_rfl) (by kernel_rfl) (fun _ _ _ h => h) (Or.inr ⟨by kernel_rfl, rfl⟩) (by assumption) ?_
                try simp (maxSteps := 4000000) only [Act.put, List.setIfInBounds_toArray, List.set_cons_zero, List.set_cons_succ, List.getElem_toArray, List.getElem_cons_zero, List.getElem_cons_succ]
                refine wpAnyH_take (i := 12) (v := undef) rfl (by kernel_rfl) (by kernel_rfl) (by kernel_rfl) (fun _ _ _ h => h) (Or.inr ⟨by kernel_rfl, rfl⟩) (by assumption) ?_
                try simp (maxSteps := 4000000) only [Act.put, List.setIfInBounds_toArray, List.set_cons_zero, List.set_cons_succ, List.getElem_toArray, List.getElem_cons_zero, List.getElem_cons_succ]
                refine wpAnyH_take (i := 13) (v := ?_) rfl (by kernel_rfl) (by kernel_rfl) (by kernel_rfl) (fun _ _ _ h => h) (Or.inl ⟨by kernel_rfl, ?_⟩) (by assumption) ?_
                rotate_left
                · (intro w hSw; (try dsimp only at hSw); go_simp)
                  try (with_reducible rfl)
                rotate_left
                try simp (maxSteps := 4000000) only [Act.put, List.setIfInBounds_toArray, List.set_cons_zero, List.set_cons_succ, List.getElem_toArray, List.getElem_cons_zero, List.getElem_cons_succ]
                refine wpAnyH_take (i := 14) (v := ?_) rfl (by kernel_rfl) (by kernel_rfl) (by kernel_rfl) (fun _ _ _ h => h) (Or.inl ⟨by kernel_rfl, ?_⟩) (by assumption) ?_
                rotate_left
                · (intro w hSw; (try dsimp only at hSw); go_simp)
                  try (with_reducible rfl)
                rotate_left
                try simp (maxSteps := 4000000) only [Act.put, List.setIfInBounds_toArray, List.set_cons_zero, List.set_cons_succ, List.getElem_toArray, List.getElem_cons_zero, List.getElem_cons_succ]
                refine wpAnyH_done (by kernel_rfl) ?_ _
                go_wp2_with fail
                go_meet
                exact ⟨by rw [← hCE.out], Lib.hid (Below.refl _ _).drew⟩
            case rest =>
            obtain ⟨rfl, HWn⟩ := hcut
            rename World => wn
            have HPn := Lib.hid (HPm.out.below HWn.out)
            have HZn := Lib.hid (HZm.out.below HWn.out)
            clear HWn HPm HZm
            obtain ⟨⟨c0, -, -, -, -⟩, -⟩ := (HC0.out wn HPn.out.wb).1
            have hab := (HC0.out wn HPn.out.wb).2
            have fw := and3 q.w
            obtain ⟨ww, hww, hw1, hw2⟩ : ∃ ww : Int, q.w % 4 = ww ∧ 0 ≤ ww ∧ ww ≤ 3 := ⟨_, rfl, by omega, by omega⟩
            rw [hww] at fw
            obtain ⟨hzl, z0, z1, z2, z3, -⟩ := HZn.out
            clear hww
            by_cases hw : ww = 2
            · subst hw
              cases F with
              | true =>
                as_aux_lemma =>
                obtain ⟨y0, hy0⟩ : ∃ y0, ms[k]? = some y0 := by
                  have h := HFF.out
                  unfold fndB at h
                  cases hms : ms[k]? with
                  | none => rw [hms] at h; cases h
                  | some p => exact ⟨p, rfl⟩
                go_wp2_with fail
                with_reducible refine Calls.mono (ldrop_yes g b _ ms HPn.out.lg (by have := HN.out; omega) ya k HLB.out HFF.out y0 hy0) ?_
                rintro e w2 ⟨rfl, hl, hf, hbw⟩
                have hkn : k < n := by have := (List.getElem?_eq_some_iff.1 hy0).1; have := HN.out; omega
                have hknI : (k : Int) < (n : Int) := by omega
                have HEND := Lib.hid (fun w' bm2 v' => HPn.out.era (w' := w') (bm2 := bm2) (v' := v') HN.out hkn hl hf hbw)
                obtain ⟨-, -, ⟨d1, d2, d3, d4, d5, d6⟩, -, -, h6, -⟩ := HPn.out
                have hp5 : V4 bm w2 (.slice (some ⟨bm, off, none⟩) n c) ms := HPn.out.2.1.keep hf.1 (fun _ => hf.2.1 bm d3 d2 (Ne.symm d1))
                have HP5 := Lib.hid hp5
                have HFL : Hid ((ms.flatMap enc4).length = n * 4) := Lib.hid HPn.out.rows.1
                have HW2 : Hid (Below W.heap.size W w2) := Lib.hid (h6.trans (hf.2.2 _ d4 d5 h6.size))
                have hbm2 : bm < w2.heap.size := Nat.lt_of_lt_of_le d3 hf.1
                have HY0 := Lib.hid hy0
                clear hl hf hbw d1 d2 d3 d4 d5 d6 h6 hp5 hy0
                clear HPn HZn hzl z0 z1 z2 z3
                go_upto_region 12 with (fail)
                obtain ⟨x, hx⟩ : ∃ x, w2.heap.size = x := ⟨_, rfl⟩
                obtain ⟨w3, hw3⟩ : ∃ w3, w2.alloc (.cells #[.int .i64 y0.at_, .int .i64 y0.first, .int .i64 y0.pages, .int .i64 y0.room] 50) = w3 := ⟨_, rfl⟩
                have HB3 : Hid (Below w2.heap.size w2 w3) := Lib.hid (by rw [← hw3]; exact alc0 _ _)
                have HX : Hid (L4 x w3 y0.at_ y0.first y0.pages y0.room) := Lib.hid (by rw [← hw3, ← hx]; exact L4.new _ _ _ _ _ _)
                rw [hw3, hx]
                clear hw3 hx
                have hv3 := HP5.out.below HB3.out
                rcases v4_open hv3 with ⟨e9, _⟩ | ⟨off', c'', e6, -, -, -, hcell⟩
                · simp at e9
                injection e6 with e6 e7 e8
                injection e6 with e6
                injection e6 with _ e6
                subst e6
                clear e7 e8
                obtain ⟨m0, m1, m2, m3⟩ := hcell k y0 HY0.out
                obtain ⟨hxl, x0, x1, x2, x3, -⟩ := HX.out
                refine wp_region_held_drew (S := fun w' => (w'.cell? ⟨x, 0, none⟩ = some (.int .i64 y0.at_) ∧ w'.cell? ⟨x, 1, none⟩ = some (.int .i64 y0.first) ∧ w'.cell? ⟨x, 2, none⟩ = some (.int .i64 y0.pages) ∧ w'.cell? ⟨x, 3, none⟩ = some (.int .i64 y0.room)) ∧ (w'.cell? ⟨bm, off + k * 4, none⟩ = some (.int .i64 y0.at_) ∧ w'.cell? ⟨bm, off + k * 4 + 1, none⟩ = some (.int .i64 y0.first) ∧ w'.cell? ⟨bm, off + k * 4 + 2, none⟩ = some (.int .i64 y0.pages) ∧ w'.cell? ⟨bm, off + k * 4 + 3, none⟩ = some (.int .i64 y0.room))) (by kernel_rfl) ?_ (fun hHeld => ?_)
                · exact ⟨⟨x0, x1, x2, x3⟩, m0, m1, m2, m3⟩
                clear x0 x1 x2 x3 m0 m1 m2 m3 hcell hv3 HX hxl
                refine wpAnyH_take (i := 0) (v := ?_) rfl (by kernel_rfl) (by kernel_rfl) (by kernel_rfl) (fun _ _ _ h => h) (Or.inl ⟨by kernel_rfl, ?_⟩) (by assumption) ?_
                rotate_left
                · (intro w hSw; (try dsimp only at hSw); go_simp)
                  try (with_reducible rfl)
                rotate_left
                try simp (maxSteps := 4000000) only [Act.put, List.setIfInBounds_toArray, List.set_cons_zero, List.set_cons_succ, List.getElem_toArray, List.getElem_cons_zero, List.getElem_cons_succ]
                refine wpAnyH_take (i := 1) (v := ?_) rfl (by kernel_rfl) (by kernel_rfl) (by kernel_rfl) (fun _ _ _ h => h) (Or.inl ⟨by kernel_rfl, ?_⟩) (by assumption) ?_
                rotate_left
                · (intro w hSw; (try dsimp only at hSw); go_simp)
                  try (with_reducible rfl)
                rotate_left
                try simp (maxSteps := 4000000) only [Act.put, List.setIfInBounds_toArray, List.set_cons_zero, List.set_cons_succ, List.getElem_toArray, List.getElem_cons_zero, List.getElem_cons_succ]
                refine wpAnyH_take (i := 2) (v := ?_) rfl (by kernel_rfl) (by kernel_rfl) (by kernel_rfl) (fun _ _ _ h => h) (Or.inl ⟨by kernel_rfl, ?_⟩) (by assumption) ?_
                rotate_left
                · (intro w hSw; (try dsimp only at hSw); go_simp)
                  try (with_reducible rfl)
                rotate_left
                try simp (maxSteps := 4000000) only [Act.put, List.setIfInBounds_toArray, List.set_cons_zero, List.set_cons_succ, List.getElem_toArray, List.getElem_cons_zero, List.getElem_cons_succ]
                refine wpAnyH_take (i := 3) (v := ?_) rfl (by kernel_rfl) (by kernel_rfl) (by kernel_rfl) (fun _ _ _ h => h) (Or.inl ⟨by kernel_rfl, ?_⟩) (by assumption) ?_
                rotate_left
                · (intro w hSw; (try dsimp only at hSw); go_simp)
                  try (with_reducible rfl)
                rotate_left
                try simp (maxSteps := 4000000) only [Act.put, List.setIfInBounds_toArray, List.set_cons_zero, List.set_cons_succ, List.getElem_toArray, List.getElem_cons_zero, List.getElem_cons_succ]
                refine wpAnyH_take (i := 4) (v := ?_) rfl (by kernel_rfl) (by kernel_rfl) (by kernel_rfl) (fun _ _ _ h => h) (Or.inl ⟨by kernel_rfl, ?_⟩) (by assumption) ?_
                rotate_left
                · (intro w hSw; (try dsimp only at hSw); go_simp)
                  try (with_reducible rfl)
                rotate_left
                try simp (maxSteps := 4000000) only [Act.put, List.setIfInBounds_toArray, List.set_cons_zero, List.set_cons_succ, List.getElem_toArray, List.getElem_cons_zero, List.getElem_cons_succ]
                refine wpAnyH_take (i := 5) (v := ?_) rfl (by kernel_rfl) (by kernel_rfl) (by kernel_rfl) (fun _ _ _ h => h) (Or.inl ⟨by kernel_rfl, ?_⟩) (by assumption) ?_
                rotate_left
                · (intro w hSw; (try dsimp only at hSw); go_simp)
                  try (with_reducible rfl)
                rotate_left
                try simp (maxSteps := 4000000) only [Act.put, List.setIfInBounds_toArray, List.set_cons_zero, List.set_cons_succ, List.getElem_toArray, List.getElem_cons_zero, List.getElem_cons_succ]
                refine wpAnyH_take (i := 6) (v := ?_) rfl (by kernel_rfl) (by kernel_rfl) (by kernel_rfl) (fun _ _ _ h => h) (Or.inl ⟨by kernel_rfl, ?_⟩) (by assumption) ?_
                rotate_left
                · (intro w hSw; (try dsimp only at hSw); go_simp)
                  try (with_reducible rfl)
                rotate_left
                try simp (maxSteps := 4000000) only [Act.put, List.setIfInBounds_toArray, List.set_cons_zero, List.set_cons_succ, List.getElem_toArray, List.getElem_cons_zero, List.getElem_cons_succ]
                refine wpAnyH_take (i := 7) (v := ?_) rfl (by kernel_rfl) (by kernel_rfl) (by kernel_rfl) (fun _ _ _ h => h) (Or.inl ⟨by kernel_rfl, ?_⟩) (by assumption) ?_
                rotate_left
                · (intro w hSw; (try dsimp only at hSw); go_simp)
                  try (with_reducible rfl)
                rotate_left
                try simp (maxSteps := 4000000) only [Act.put, List.setIfInBounds_toArray, List.set_cons_zero, List.set_cons_succ, List.getElem_toArray, List.getElem_cons_zero, List.getElem_cons_succ]
                refine wpAnyH_take (i := 8) (v := ?_) rfl (by kernel_rfl) (by kernel_rfl) (by kernel_rfl) (fun _ _ _ h => h) (Or.inl ⟨by kernel_rfl, ?_⟩) (by assumption) ?_
                rotate_left
                · (intro w hSw; (try dsimp only at hSw); go_simp)
                  try (with_reducible rfl)
                rotate_left
                try simp (maxSteps := 4000000) only [Act.put, List.setIfInBounds_toArray, List.set_cons_zero, List.set_cons_succ, List.getElem_toArray, List.getElem_cons_zero, List.getElem_cons_succ]
                refine wpAnyH_take (i := 9) (v := ?_) rfl (by kernel_rfl) (by kernel_rfl) (by kernel_rfl) (fun _ _ _ h => h) (Or.inl ⟨by kernel_rfl, ?_⟩) (by assumption) ?_
                rotate_left
                · (intro w hSw; (try dsimp only at hSw); go_simp)
                  try (with_reducible rfl)
                rotate_left
                try simp (maxSteps := 4000000) only [Act.put, List.setIfInBounds_toArray, List.set_cons_zero, List.set_cons_succ, List.getElem_toArray, List.getElem_cons_zero, List.getElem_cons_succ]
                refine wpAnyH_take (i := 10) (v := ?_) rfl (by kernel_rfl) (by kernel_rfl) (by kernel_rfl) (fun _ _ _ h => h) (Or.inl ⟨by kernel_rfl, ?_⟩) (by assumption) ?_
                rotate_left
                · (intro w hSw; (try dsimp only at hSw); go_simp)
                  try (with_reducible rfl)
                rotate_left
                try simp (maxSteps := 4000000) only [Act.put, List.setIfInBounds_toArray, List.set_cons_zero, List.set_cons_succ, List.getElem_toArray, List.getElem_cons_zero, List.getElem_cons_succ]
                refine wpAnyH_take (i := 11) (v := ?_) rfl (by kernel_rfl) (by kernel_rfl) (by kernel_rfl) (fun _ _ _ h => h) (Or.inl ⟨by kernel_rfl, ?_⟩) (by assumption) ?_
                rotate_left
                · (intro w hSw; (try dsimp only at hSw); go_simp)
                  try (with_reducible rfl)
                rotate_left
                try simp (maxSteps := 4000000) only [Act.put, List.setIfInBounds_toArray, List.set_cons_zero, List.set_cons_succ, List.getElem_toArray, List.getElem_cons_zero, List.getElem_cons_succ]
                refine wpAnyH_take (i := 12) (v := ?_) rfl (by kernel_rfl) (by kernel_rfl) (by kernel_rfl) (fun _ _ _ h => h) (Or.inl ⟨by kernel_rfl, ?_⟩) (by assumption) ?_
                rotate_left
                · (intro w hSw; (try dsimp only at hSw); go_simp)
                  try (with_reducible rfl)
                rotate_left
                try simp (maxSteps := 4000000) only [Act.put, List.setIfInBounds_toArray, List.set_cons_zero, List.set_cons_succ, List.getElem_toArray, List.getElem_cons_zero, List.getElem_cons_succ]
                refine wpAnyH_take (i := 13) (v := ?_) rfl (by kernel_rfl) (by kernel_rfl) (by kernel_rfl) (fun _ _ _ h => h) (Or.inl ⟨by kernel_rfl, ?_⟩) (by assumption) ?_
                rotate_left
                · (intro w hSw; (try dsimp only at hSw); go_simp)
                  try (with_reducible rfl)
                rotate_left
                try simp (maxSteps := 4000000) only [Act.put, List.setIfInBounds_toArray, List.set_cons_zero, List.set_cons_succ, List.getElem_toArray, List.getElem_cons_zero, List.getElem_cons_succ]
                refine wpAnyH_take (i := 14) (v := ?_) rfl (by kernel_rfl) (by kernel_rfl) (by kernel_rfl) (fun _ _ _ h => h) (Or.inl ⟨by kernel_rfl, ?_⟩) (by assumption) ?_
                rotate_left
                · (intro w hSw; (try dsimp only at hSw); go_simp)
                  try (with_reducible rfl)
                rotate_left
                try simp (maxSteps := 4000000) only [Act.put, List.setIfInBounds_toArray, List.set_cons_zero, List.set_cons_succ, List.getElem_toArray, List.getElem_cons_zero, List.getElem_cons_succ]
                refine wpAnyH_take (i := 15) (v := ?_) rfl (by kernel_rfl) (by kernel_rfl) (by kernel_rfl) (fun _ _ _ h => h) (Or.inl ⟨by kernel_rfl, ?_⟩) (by assumption) ?_
                rotate_left
                · (intro w hSw; (try dsimp only at hSw); go_simp)
                  try (with_reducible rfl)
                rotate_left
                try simp (maxSteps := 4000000) only [Act.put, List.setIfInBounds_toArray, List.set_cons_zero, List.set_cons_succ, List.getElem_toArray, List.getElem_cons_zero, List.getElem_cons_succ]
                refine wpAnyH_take (i := 16) (v := ?_) rfl (by kernel_rfl) (by kernel_rfl) (by kernel_rfl) (fun _ _ _ h => h) (Or.inl ⟨by kernel_rfl, ?_⟩) (by assumption) ?_
                rotate_left
                · (intro w hSw; (try dsimp only at hSw); go_simp)
                  try (with_reducible rfl)
                rotate_left
                try simp (maxSteps := 4000000) only [Act.put, List.setIfInBounds_toArray, List.set_cons_zero, List.set_cons_succ, List.getElem_toArray, List.getElem_cons_zero, List.getElem_cons_succ]
                refine wpAnyH_take (i := 17) (v := ?_) rfl (by kernel_rfl) (by kernel_rfl) (by kernel_rfl) (fun _ _ _ h => h) (Or.inl ⟨by kernel_rfl, ?_⟩) (by assumption) ?_
                rotate_left
                · (intro w hSw; (try dsimp only at hSw); go_simp)
                  try (with_reducible rfl)
                rotate_left
                try simp (maxSteps := 4000000) only [Act.put, List.setIfInBounds_toArray, List.set_cons_zero, List.set_cons_succ, List.getElem_toArray, List.getElem_cons_zero, List.getElem_cons_succ]
                refine wpAnyH_take (i := 18) (v := undef) rfl (by kernel_rfl) (by kernel_rfl) (by kernel_rfl) (fun _ _ _ h => h) (Or.inr ⟨by kernel_rfl, rfl⟩) (by assumption) ?_
                try simp (maxSteps := 4000000) only [Act.put, List.setIfInBounds_toArray, List.set_cons_zero, List.set_cons_succ, List.getElem_toArray, List.getElem_cons_zero, List.getElem_cons_succ]
                refine wpAnyH_take (i := 19) (v := undef) rfl (by kernel_rfl) (by kernel_rfl) (by kernel_rfl) (fun _ _ _ h => h) (Or.inr ⟨by kernel_rfl, rfl⟩) (by assumption) ?_
                try simp (maxSteps := 4000000) only [Act.put, List.setIfInBounds_toArray, List.set_cons_zero, List.set_cons_succ, List.getElem_toArray, List.getElem_cons_zero, List.getElem_cons_succ]
                refine wpAnyH_take (i := 20) (v := undef) rfl (by kernel_rfl) (by kernel_rfl) (by kernel_rfl) (fun _ _ _ h => h) (Or.inr ⟨by kernel_rfl, rfl⟩) (by assumption) ?_
                try simp (maxSteps := 4000000) only [Act.put, List.setIfInBounds_toArray, List.set_cons_zero, List.set_cons_succ, List.getElem_toArray, List.getElem_cons_zero, List.getElem_cons_succ]
                refine wpAnyH_take (i := 21) (v := ?_) rfl (by kernel_rfl) (by kernel_rfl) (by kernel_rfl) (fun _ _ _ h => h) (Or.inl ⟨by kernel_rfl, ?_⟩) (by assumption) ?_
                rotate_left
                · (intro w hSw; (try dsimp only at hSw); go_simp)
                  try (with_reducible rfl)
                rotate_left
                try simp (maxSteps := 4000000) only [Act.put, List.setIfInBounds_toArray, List.set_cons_zero, List.set_cons_succ, List.getElem_toArray, List.getElem_cons_zero, List.getElem_cons_succ]
                refine wpAnyH_take (i := 22) (v := ?_) rfl (by kernel_rfl) (by kernel_rfl) (by kernel_rfl) (fun _ _ _ h => h) (Or.inl ⟨by kernel_rfl, ?_⟩) (by assumption) ?_
                rotate_left
                · (intro w hSw; (try dsimp only at hSw); go_simp)
                  try (with_reducible rfl)
                rotate_left
                try simp (maxSteps := 4000000) only [Act.put, List.setIfInBounds_toArray, List.set_cons_zero, List.set_cons_succ, List.getElem_toArray, List.getElem_cons_zero, List.getElem_cons_succ]
                refine wpAnyH_done (by kernel_rfl) ?_ _
                have HP6 := Lib.hid (HP5.out.below (thn HB3.out (Below.refl _ w3).drew))
                have HBD : Hid (Below w2.heap.size w2 w3.drew) := Lib.hid (thn HB3.out (Below.refl _ w3).drew)
                have hbm3 : bm < w3.drew.heap.size := Nat.lt_of_lt_of_le hbm2 HBD.out.size
                obtain ⟨w4, hw4⟩ : ∃ w, w3.drew = w := ⟨_, rfl⟩
                rw [hw4] at HP6 HBD hbm3
                rw [hw4]
                clear hw4 HP5 HB3
                obtain ⟨N, hNe⟩ : ∃ N, w4.heap.size = N := ⟨_, rfl⟩
                have HNE := Lib.hid hNe
                have HM : Hid (∀ w, Below N w4 w → ∀ j u, (ms.flatMap enc4)[j]? = some u → w.cell? ⟨bm, off + j, none⟩ = some u) := Lib.hid (fun w hw j u hu => (cellsV4 (HP6.out.below (by rw [hNe]; exact hw))).2.2.2.2.2.1 j u hu)
                have hk2 : k ≤ c := by omega
                have hkn9 : k ≤ n := hk
                obtain ⟨j, hj⟩ : ∃ j, k + 1 = j := ⟨_, rfl⟩
                have hjn : j ≤ n := by omega
                have hjc : j ≤ c := by omega
                have hjI2 : (k : Int) + 1 = (j : Int) := by omega
                have hjI : IntKind.i64.wrap ((k : Int) + 1) = (j : Int) := by rw [IntKind.wrap_i64]; omega
                obtain ⟨A9, hA9, hA9c⟩ := dropA bm off c j n (ms.flatMap enc4) HFL.out hnc hjn w4 (fun j u hu => (cellsV4 HP6.out).2.2.2.2.2.1 j u hu)
                have HA9 : Hid (∀ w, Below N w4 w → ∀ t u, ((ms.flatMap enc4).drop (j * 4))[t]? = some u → w.cell? (A9.add t) = some u) := Lib.hid (fun w hw t u hu => hA9c w (hw.block bm (by rw [← hNe]; exact hbm3)) t u hu)
                clear hNe hA9c
                clear HN
                go_upto_region 15 with (fail)
                have HZ3 : Hid (∀ w, Below N w4 w → Hid (Below N w4 w) ∧ Hid (Below N w4 w)) := Lib.hid (fun w hw => ⟨Lib.hid hw, Lib.hid hw⟩)
                have HB0 : Hid (Below N w4 w4.drew) := Lib.hid (by rw [← HNE.out]; exact (Below.refl _ _).drew)
                refine wp_region_held_drew (S := fun w' => Hid (Below N w4 w') ∧ Hid (Below N w4 w')) (by kernel_rfl) ?_ (fun hHeld => ?_)
                · exact HZ3.out _ HB0.out
                refine wpAnyH_take (i := 6) (v := .int .i64 (k : Int)) rfl (by kernel_rfl) (by kernel_rfl) (by kernel_rfl) (fun _ _ _ h => h) (Or.inl ⟨by kernel_rfl, ?_⟩) (by assumption) ?_
                · (intro w hSw; (try dsimp only at hSw); go_simp)
                try simp (maxSteps := 4000000) only [Act.put, List.setIfInBounds_toArray, List.set_cons_zero, List.set_cons_succ, List.getElem_toArray, List.getElem_cons_zero, List.getElem_cons_succ]
                refine wpAnyH_take (i := 7) (v := .int .i64 (j : Int)) rfl (by kernel_rfl) (by kernel_rfl) (by kernel_rfl) (fun _ _ _ h => h) (Or.inl ⟨by kernel_rfl, ?_⟩) (by assumption) ?_
                · (intro w hSw; (try dsimp only at hSw); go_simp)
                  all_goals (rw [IntKind.wrap_i64]; omega)
                try simp (maxSteps := 4000000) only [Act.put, List.setIfInBounds_toArray, List.set_cons_zero, List.set_cons_succ, List.getElem_toArray, List.getElem_cons_zero, List.getElem_cons_succ]
                refine wpAnyH_take (i := 1) (v := ?_) rfl (by kernel_rfl) (by kernel_rfl) (by kernel_rfl) (fun _ _ _ h => h) (Or.inl ⟨by kernel_rfl, ?_⟩) (by assumption) ?_
                rotate_left
                · (intro w hSw; (try dsimp only at hSw); go_simp)
                  try (with_reducible rfl)
                rotate_left
                try simp (maxSteps := 4000000) only [Act.put, List.setIfInBounds_toArray, List.set_cons_zero, List.set_cons_succ, List.getElem_toArray, List.getElem_cons_zero, List.getElem_cons_succ]
                refine wpAnyH_take (i := 2) (v := ?_) rfl (by kernel_rfl) (by kernel_rfl) (by kernel_rfl) (fun _ _ _ h => h) (Or.inl ⟨by kernel_rfl, ?_⟩) (by assumption) ?_
                rotate_left
                · (intro w hSw; (try dsimp only at hSw); go_simp)
                  try (with_reducible rfl)
                rotate_left
                try simp (maxSteps := 4000000) only [Act.put, List.setIfInBounds_toArray, List.set_cons_zero, List.set_cons_succ, List.getElem_toArray, List.getElem_cons_zero, List.getElem_cons_succ]
                refine wpAnyH_take (i := 3) (v := ?_) rfl (by kernel_rfl) (by kernel_rfl) (by kernel_rfl) (fun _ _ _ h => h) (Or.inl ⟨by kernel_rfl, ?_⟩) (by assumption) ?_
                rotate_left
                · (intro w hSw; (try dsimp only at hSw); go_simp)
                  try (with_reducible rfl)
                rotate_left
                try simp (maxSteps := 4000000) only [Act.put, List.setIfInBounds_toArray, List.set_cons_zero, List.set_cons_succ, List.getElem_toArray, List.getElem_cons_zero, List.getElem_cons_succ]
                refine wpAnyH_take (i := 5) (v := ?_) rfl (by kernel_rfl) (by kernel_rfl) (by kernel_rfl) (fun _ _ _ h => h) (Or.inl ⟨by kernel_rfl, ?_⟩) (by assumption) ?_
                rotate_left
                · (intro w hSw; (try dsimp only at hSw); go_simp)
                  try (with_reducible rfl)
                rotate_left
                try simp (maxSteps := 4000000) only [Act.put, List.setIfInBounds_toArray, List.set_cons_zero, List.set_cons_succ, List.getElem_toArray, List.getElem_cons_zero, List.getElem_cons_succ]
                refine wpAnyH_take (i := 8) (v := ?_) rfl (by kernel_rfl) (by kernel_rfl) (by kernel_rfl) (fun _ _ _ h => h) (Or.inl ⟨by kernel_rfl, ?_⟩) (by assumption) ?_
                rotate_left
                · (intro w hSw; (try dsimp only at hSw); go_simp)
                  try (with_reducible rfl)
                rotate_left
                try simp (maxSteps := 4000000) only [Act.put, List.setIfInBounds_toArray, List.set_cons_zero, List.set_cons_succ, List.getElem_toArray, List.getElem_cons_zero, List.getElem_cons_succ]
                refine wpAnyH_ready (rs := [0]) (by kernel_rfl) (by simp) ?_
                refine AllReadyH.cons rfl (fun K2 hK2 => ?_) AllReadyH.nil
                go_simp
                have HB1 : Hid (Below N w4 (w4.alloc (.cells #[] 50)).drew) := Lib.hid (by rw [← HNE.out]; exact (alc0 _ _).drew)
                obtain ⟨c0, hc0⟩ : ∃ p, w4.heap.size = p := ⟨_, rfl⟩
                have hc0N : N ≤ c0 := by have := HNE.out; omega
                have HV0 : Hid (VZ 4 c0 (w4.alloc (.cells #[] 50)).drew (.slice (some ⟨c0, 0, none⟩) 0 0) 0 []) := Lib.hid (by rw [← hc0]; exact vz_made0 w4 _)
                obtain ⟨x1, hx1⟩ : ∃ x, (w4.alloc (.cells #[] 50)).drew = x := ⟨_, rfl⟩
                try rw [hx1] at HB1 HV0
                rw [hx1]
                try rw [hc0]
                clear hx1 hc0
                refine hK2.out _ _ (HZ3.out _ HB1.out) (fun hHeld2 => ?_)
                clear hK2 K2 hHeld
                have hHeld := hHeld2
                clear hHeld2
                try simp (maxSteps := 4000000) only [Act.put, List.setIfInBounds_toArray, List.set_cons_zero, List.set_cons_succ, List.getElem_toArray, List.getElem_cons_zero, List.getElem_cons_succ]
                refine wpAnyH_ready (rs := [4]) (by kernel_rfl) (by simp) ?_
                refine AllReadyH.cons rfl (fun K2 hK2 => ?_) AllReadyH.nil
                refine step_app_vz tyLarge rfl (.tmp 135) (.tmp 138) rfl c0 (.slice (some ⟨c0, 0, none⟩) 0 0) 0 [] (by simp [Act.eval, Act.put]) HV0.out ⟨bm, off, none⟩ k c ((ms.flatMap enc4).take (k * 4)) (by simp [Act.eval, Act.put]) (take_len HFL.out hkn9) (fun j u hu => by rw [addp]; exact HM.out _ HB1.out j u (take_get hu)) (fun u hu => enc4_one ms u (List.mem_of_mem_take hu)) (by omega) ?_
                rintro v1 x2 hp hnn1
                simp only [Nat.zero_add, List.nil_append] at hp
                obtain ⟨c1, hB9, hc1N, hV9, hS9, hO9⟩ := vp_next2 HNE.out HB1.out hc0N hp
                have HB2 := Lib.hid hB9
                have HV1 := Lib.hid hV9
                clear hp hB9 hV9 hS9 hO9
                refine hK2.out _ _ (HZ3.out _ HB2.out) (fun hHeld2 => ?_)
                clear hK2 K2 hHeld
                have hHeld := hHeld2
                clear hHeld2
                try simp (maxSteps := 4000000) only [Act.put, List.setIfInBounds_toArray, List.set_cons_zero, List.set_cons_succ, List.getElem_toArray, List.getElem_cons_zero, List.getElem_cons_succ]
                refine wpAnyH_ready (rs := [9]) (by kernel_rfl) (by simp) ?_
                refine AllReadyH.cons rfl (fun K2 hK2 => ?_) AllReadyH.nil
                refine step_app_vz tyLarge rfl (.tmp 139) (.tmp 143) rfl c1 v1 k ((ms.flatMap enc4).take (k * 4)) (by simp [Act.eval, Act.put]) HV1.out A9 (n - j) (c - j) ((ms.flatMap enc4).drop (j * 4)) (by simp [Act.eval, Act.put, hA9]) (drop_len HFL.out hjn) (fun j u hu => (HA9.out _ HB2.out) j u hu) (fun u hu => enc4_one ms u (List.mem_of_mem_drop hu)) (by omega) ?_
                rintro v3 x3 hp hnn3
                obtain ⟨c3, hB9, hc3N, hV9, hS9, hO9⟩ := vp_next2 HNE.out HB2.out hc1N hp
                have HB3 := Lib.hid hB9
                have HV3 := Lib.hid hV9
                clear hp hB9 hV9 hS9 hO9
                refine hK2.out _ _ (HZ3.out _ HB3.out) (fun hHeld2 => ?_)
                clear hK2 K2 hHeld
                have hHeld := hHeld2
                clear hHeld2
                try simp (maxSteps := 4000000) only [Act.put, List.setIfInBounds_toArray, List.set_cons_zero, List.set_cons_succ, List.getElem_toArray, List.getElem_cons_zero, List.getElem_cons_succ]
                refine wpAnyH_take (i := 10) (v := ?_) rfl (by kernel_rfl) (by kernel_rfl) (by kernel_rfl) (fun _ _ _ h => h) (Or.inl ⟨by kernel_rfl, ?_⟩) (by assumption) ?_
                rotate_left
                · (intro w hSw; (try dsimp only at hSw); go_simp)
                  try (with_reducible rfl)
                rotate_left
                try simp (maxSteps := 4000000) only [Act.put, List.setIfInBounds_toArray, List.set_cons_zero, List.set_cons_succ, List.getElem_toArray, List.getElem_cons_zero, List.getElem_cons_succ]
                refine wpAnyH_done (by kernel_rfl) ?_ _
                have hnv : v3 ≠ .slice none 0 0 := fun h => by
                  have h2 := hnn1 (hnn3 h)
                  simp at h2
                subst hj
                obtain ⟨hlen, hfin⟩ := HEND.out x3 c3 v3 (HBD.out.trans (HB3.out.mono (by rw [← HNE.out]; exact HBD.out.size))) (Nat.le_trans HBD.out.size (by rw [HNE.out]; exact hc3N)) HV3.out hnv
                have HFN := Lib.hid hfin
                clear hfin hnv
                go_wp2_with fail
                go_roundw
                case rel => exact ⟨i + 1, by omega, by omega, by go_num, ms.eraseIdx k, b, c3, Lib.hid (by have := HML.out; omega), HFN⟩
                case measure => simp [intOf] <;> omega
              | false =>
                as_aux_lemma =>
                go_wp2_with fail
                with_reducible refine Calls.mono (ldrop_no g b _ ms HPn.out.lg (by have := HN.out; omega) ya k HLB.out HFF.out) ?_
                rintro e w2 ⟨rfl, hb⟩
                have HP3 := Lib.hid (HPn.out.below hb)
                clear hb
                go_upto_region 12 with (fail)
                obtain ⟨x, hx⟩ : ∃ x, w2.heap.size = x := ⟨_, rfl⟩
                obtain ⟨w3, hw3⟩ : ∃ w3, w2.alloc (.cells #[.int .i64 0, .int .i64 0, .int .i64 0, .int .i64 0] 50) = w3 := ⟨_, rfl⟩
                have HP4 : Hid (LS W g b bm w3 (.slice (some ⟨bm, off, none⟩) n c) ms) := Lib.hid (by rw [← hw3]; exact HP3.out.below (alc0 _ _))
                have HX : Hid (L4 x w3 0 0 0 0) := Lib.hid (by rw [← hw3, ← hx]; exact L4.new _ 0 0 0 0 _)
                rw [hw3, hx]
                clear hw3 hx HP3
                obtain ⟨hxl, x0, x1, x2, x3, -⟩ := HX.out
                refine wp_region_held_drew (S := fun w' => w'.cell? ⟨x, 0, none⟩ = some (.int .i64 0) ∧ w'.cell? ⟨x, 1, none⟩ = some (.int .i64 0) ∧ w'.cell? ⟨x, 2, none⟩ = some (.int .i64 0) ∧ w'.cell? ⟨x, 3, none⟩ = some (.int .i64 0)) (by kernel_rfl) ?_ (fun hHeld => ?_)
                · exact ⟨x0, x1, x2, x3⟩
                clear x0 x1 x2 x3
                refine wpAnyH_take (i := 0) (v := ?_) rfl (by kernel_rfl) (by kernel_rfl) (by kernel_rfl) (fun _ _ _ h => h) (Or.inl ⟨by kernel_rfl, ?_⟩) (by assumption) ?_
                rotate_left
                · (intro w hSw; (try dsimp only at hSw); go_simp)
                  try (with_reducible rfl)
                rotate_left
                try simp (maxSteps := 4000000) only [Act.put, List.setIfInBounds_toArray, List.set_cons_zero, List.set_cons_succ, List.getElem_toArray, List.getElem_cons_zero, List.getElem_cons_succ]
                refine wpAnyH_take (i := 1) (v := ?_) rfl (by kernel_rfl) (by kernel_rfl) (by kernel_rfl) (fun _ _ _ h => h) (Or.inl ⟨by kernel_rfl, ?_⟩) (by assumption) ?_
                rotate_left
                · (intro w hSw; (try dsimp only at hSw); go_simp)
                  try (with_reducible rfl)
                rotate_left
                try simp (maxSteps := 4000000) only [Act.put, List.setIfInBounds_toArray, List.set_cons_zero, List.set_cons_succ, List.getElem_toArray, List.getElem_cons_zero, List.getElem_cons_succ]
                refine wpAnyH_take (i := 2) (v := ?_) rfl (by kernel_rfl) (by kernel_rfl) (by kernel_rfl) (fun _ _ _ h => h) (Or.inl ⟨by kernel_rfl, ?_⟩) (by assumption) ?_
                rotate_left
                · (intro w hSw; (try dsimp only at hSw); go_simp)
                  try (with_reducible rfl)
                rotate_left
                try simp (maxSteps := 4000000) only [Act.put, List.setIfInBounds_toArray, List.set_cons_zero, List.set_cons_succ, List.getElem_toArray, List.getElem_cons_zero, List.getElem_cons_succ]
                refine wpAnyH_take (i := 3) (v := ?_) rfl (by kernel_rfl) (by kernel_rfl) (by kernel_rfl) (fun _ _ _ h => h) (Or.inl ⟨by kernel_rfl, ?_⟩) (by assumption) ?_
                rotate_left
                · (intro w hSw; (try dsimp only at hSw); go_simp)
                  try (with_reducible rfl)
                rotate_left
                try simp (maxSteps := 4000000) only [Act.put, List.setIfInBounds_toArray, List.set_cons_zero, List.set_cons_succ, List.getElem_toArray, List.getElem_cons_zero, List.getElem_cons_succ]
                refine wpAnyH_take (i := 4) (v := ?_) rfl (by kernel_rfl) (by kernel_rfl) (by kernel_rfl) (fun _ _ _ h => h) (Or.inl ⟨by kernel_rfl, ?_⟩) (by assumption) ?_
                rotate_left
                · (intro w hSw; (try dsimp only at hSw); go_simp)
                  try (with_reducible rfl)
                rotate_left
                try simp (maxSteps := 4000000) only [Act.put, List.setIfInBounds_toArray, List.set_cons_zero, List.set_cons_succ, List.getElem_toArray, List.getElem_cons_zero, List.getElem_cons_succ]
                refine wpAnyH_take (i := 5) (v := ?_) rfl (by kernel_rfl) (by kernel_rfl) (by kernel_rfl) (fun _ _ _ h => h) (Or.inl ⟨by kernel_rfl, ?_⟩) (by assumption) ?_
                rotate_left
                · (intro w hSw; (try dsimp only at hSw); go_simp)
                  try (with_reducible rfl)
                rotate_left
                try simp (maxSteps := 4000000) only [Act.put, List.setIfInBounds_toArray, List.set_cons_zero, List.set_cons_succ, List.getElem_toArray, List.getElem_cons_zero, List.getElem_cons_succ]
                refine wpAnyH_take (i := 6) (v := undef) rfl (by kernel_rfl) (by kernel_rfl) (by kernel_rfl) (fun _ _ _ h => h) (Or.inr ⟨by kernel_rfl, rfl⟩) (by assumption) ?_
                try simp (maxSteps := 4000000) only [Act.put, List.setIfInBounds_toArray, List.set_cons_zero, List.set_cons_succ, List.getElem_toArray, List.getElem_cons_zero, List.getElem_cons_succ]
                refine wpAnyH_take (i := 7) (v := undef) rfl (by kernel_rfl) (by kernel_rfl) (by kernel_rfl) (fun _ _ _ h => h) (Or.inr ⟨by kernel_rfl, rfl⟩) (by assumption) ?_
                try simp (maxSteps := 4000000) only [Act.put, List.setIfInBounds_toArray, List.set_cons_zero, List.set_cons_succ, List.getElem_toArray, List.getElem_cons_zero, List.getElem_cons_succ]
                refine wpAnyH_take (i := 8) (v := undef) rfl (by kernel_rfl) (by kernel_rfl) (by kernel_rfl) (fun _ _ _ h => h) (Or.inr ⟨by kernel_rfl, rfl⟩) (by assumption) ?_
                try simp (maxSteps := 4000000) only [Act.put, List.setIfInBounds_toArray, List.set_cons_zero, List.set_cons_succ, List.getElem_toArray, List.getElem_cons_zero, List.getElem_cons_succ]
                refine wpAnyH_take (i := 9) (v := undef) rfl (by kernel_rfl) (by kernel_rfl) (by kernel_rfl) (fun _ _ _ h => h) (Or.inr ⟨by kernel_rfl, rfl⟩) (by assumption) ?_
                try simp (maxSteps := 4000000) only [Act.put, List.setIfInBounds_toArray, List.set_cons_zero, List.set_cons_succ, List.getElem_toArray, List.getElem_cons_zero, List.getElem_cons_succ]
                refine wpAnyH_take (i := 10) (v := undef) rfl (by kernel_rfl) (by kernel_rfl) (by kernel_rfl) (fun _ _ _ h => h) (Or.inr ⟨by kernel_rfl, rfl⟩) (by assumption) ?_
                try simp (maxSteps := 4000000) only [Act.put, List.setIfInBounds_toArray, List.set_cons_zero, List.set_cons_succ, List.getElem_toArray, List.getElem_cons_zero, List.getElem_cons_succ]
                refine wpAnyH_take (i := 11) (v := undef) rfl (by kernel_rfl) (by kernel_rfl) (by kernel_rfl) (fun _ _ _ h => h) (Or.inr ⟨by kernel_rfl, rfl⟩) (by assumption) ?_
                try simp (maxSteps := 4000000) only [Act.put, List.setIfInBounds_toArray, List.set_cons_zero, List.set_cons_succ, List.getElem_toArray, List.getElem_cons_zero, List.getElem_cons_succ]
                refine wpAnyH_take (i := 12) (v := ?_) rfl (by kernel_rfl) (by kernel_rfl) (by kernel_rfl) (fun _ _ _ h => h) (Or.inl ⟨by kernel_rfl, ?_⟩) (by assumption) ?_
                rotate_left
                · (intro w hSw; (try dsimp only at hSw); go_simp)
                  try (with_reducible rfl)
                rotate_left
                try simp (maxSteps := 4000000) only [Act.put, List.setIfInBounds_toArray, List.set_cons_zero, List.set_cons_succ, List.getElem_toArray, List.getElem_cons_zero, List.getElem_cons_succ]
                refine wpAnyH_take (i := 13) (v := ?_) rfl (by kernel_rfl) (by kernel_rfl) (by kernel_rfl) (fun _ _ _ h => h) (Or.inl ⟨by kernel_rfl, ?_⟩) (by assumption) ?_
                rotate_left
                · (intro w hSw; (try dsimp only at hSw); go_simp)
                  try (with_reducible rfl)
                rotate_left
                try simp (maxSteps := 4000000) only [Act.put, List.setIfInBounds_toArray, List.set_cons_zero, List.set_cons_succ, List.getElem_toArray, List.getElem_cons_zero, List.getElem_cons_succ]
                refine wpAnyH_take (i := 14) (v := ?_) rfl (by kernel_rfl) (by kernel_rfl) (by kernel_rfl) (fun _ _ _ h => h) (Or.inl ⟨by kernel_rfl, ?_⟩) (by assumption) ?_
                rotate_left
                · (intro w hSw; (try dsimp only at hSw); go_simp)
                  try (with_reducible rfl)
                rotate_left
                try simp (maxSteps := 4000000) only [Act.put, List.setIfInBounds_toArray, List.set_cons_zero, List.set_cons_succ, List.getElem_toArray, List.getElem_cons_zero, List.getElem_cons_succ]
                refine wpAnyH_take (i := 15) (v := ?_) rfl (by kernel_rfl) (by kernel_rfl) (by kernel_rfl) (fun _ _ _ h => h) (Or.inl ⟨by kernel_rfl, ?_⟩) (by assumption) ?_
                rotate_left
                · (intro w hSw; (try dsimp only at hSw); go_simp)
                  try (with_reducible rfl)
                rotate_left
                try simp (maxSteps := 4000000) only [Act.put, List.setIfInBounds_toArray, List.set_cons_zero, List.set_cons_succ, List.getElem_toArray, List.getElem_cons_zero, List.getElem_cons_succ]
                refine wpAnyH_take (i := 16) (v := ?_) rfl (by kernel_rfl) (by kernel_rfl) (by kernel_rfl) (fun _ _ _ h => h) (Or.inl ⟨by kernel_rfl, ?_⟩) (by assumption) ?_
                rotate_left
                · (intro w hSw; (try dsimp only at hSw); go_simp)
                  try (with_reducible rfl)
                rotate_left
                try simp (maxSteps := 4000000) only [Act.put, List.setIfInBounds_toArray, List.set_cons_zero, List.set_cons_succ, List.getElem_toArray, List.getElem_cons_zero, List.getElem_cons_succ]
                refine wpAnyH_take (i := 17) (v := ?_) rfl (by kernel_rfl) (by kernel_rfl) (by kernel_rfl) (fun _ _ _ h => h) (Or.inl ⟨by kernel_rfl, ?_⟩) (by assumption) ?_
                rotate_left
                · (intro w hSw; (try dsimp only at hSw); go_simp)
                  try (with_reducible rfl)
                rotate_left
                try simp (maxSteps := 4000000) only [Act.put, List.setIfInBounds_toArray, List.set_cons_zero, List.set_cons_succ, List.getElem_toArray, List.getElem_cons_zero, List.getElem_cons_succ]
                refine wpAnyH_take (i := 18) (v := ?_) rfl (by kernel_rfl) (by kernel_rfl) (by kernel_rfl) (fun _ _ _ h => h) (Or.inl ⟨by kernel_rfl, ?_⟩) (by assumption) ?_
                rotate_left
                · (intro w hSw; (try dsimp only at hSw); go_simp)
                  try (with_reducible rfl)
                rotate_left
                try simp (maxSteps := 4000000) only [Act.put, List.setIfInBounds_toArray, List.set_cons_zero, List.set_cons_succ, List.getElem_toArray, List.getElem_cons_zero, List.getElem_cons_succ]
                refine wpAnyH_take (i := 19) (v := ?_) rfl (by kernel_rfl) (by kernel_rfl) (by kernel_rfl) (fun _ _ _ h => h) (Or.inl ⟨by kernel_rfl, ?_⟩) (by assumption) ?_
                rotate_left
                · (intro w hSw; (try dsimp only at hSw); go_simp)
                  try (with_reducible rfl)
                rotate_left
                try simp (maxSteps := 4000000) only [Act.put, List.setIfInBounds_toArray, List.set_cons_zero, List.set_cons_succ, List.getElem_toArray, List.getElem_cons_zero, List.getElem_cons_succ]
                refine wpAnyH_take (i := 20) (v := ?_) rfl (by kernel_rfl) (by kernel_rfl) (by kernel_rfl) (fun _ _ _ h => h) (Or.inl ⟨by kernel_rfl, ?_⟩) (by assumption) ?_
                rotate_left
                · (intro w hSw; (try dsimp only at hSw); go_simp)
                  try (with_reducible rfl)
                rotate_left
                try simp (maxSteps := 4000000) only [Act.put, List.setIfInBounds_toArray, List.set_cons_zero, List.set_cons_succ, List.getElem_toArray, List.getElem_cons_zero, List.getElem_cons_succ]
                refine wpAnyH_take (i := 21) (v := ?_) rfl (by kernel_rfl) (by kernel_rfl) (by kernel_rfl) (fun _ _ _ h => h) (Or.inl ⟨by kernel_rfl, ?_⟩) (by assumption) ?_
                rotate_left
                · (intro w hSw; (try dsimp only at hSw); go_simp)
                  try (with_reducible rfl)
                rotate_left
                try simp (maxSteps := 4000000) only [Act.put, List.setIfInBounds_toArray, List.set_cons_zero, List.set_cons_succ, List.getElem_toArray, List.getElem_cons_zero, List.getElem_cons_succ]
                refine wpAnyH_take (i := 22) (v := ?_) rfl (by kernel_rfl) (by kernel_rfl) (by kernel_rfl) (fun _ _ _ h => h) (Or.inl ⟨by kernel_rfl, ?_⟩) (by assumption) ?_
                rotate_left
                · (intro w hSw; (try dsimp only at hSw); go_simp)
                  try (with_reducible rfl)
                rotate_left
                try simp (maxSteps := 4000000) only [Act.put, List.setIfInBounds_toArray, List.set_cons_zero, List.set_cons_succ, List.getElem_toArray, List.getElem_cons_zero, List.getElem_cons_succ]
                refine wpAnyH_done (by kernel_rfl) ?_ _
                have HP5 := Lib.hid HP4.out.drew
                go_wp2_with fail
                go_roundw
                case rel => exact ⟨i + 1, by omega, by omega, by go_num, ms, b, bm, Lib.hid (by have := HN.out; have := HML.out; omega), HP5⟩
                case measure => simp [intOf] <;> omega
            · have hwb : (ww == 2) = false := by simpa using hw
              cases F with
              | true =>
                go_wp2_with fail
                with_reducible refine Calls.mono (lput_dup g b _ ms ⟨ya, q.f, pg, q.r⟩ HPn.out.lg (by have := HN.out; omega) k HLB.out HFF.out) ?_
                rintro e w2 ⟨rfl, hb⟩
                have HP3 := Lib.hid (HPn.out.below hb)
                clear hb
                go_wp2_with fail
                go_roundw
                case rel => exact ⟨i + 1, by omega, by omega, by go_num, ms, b, bm, Lib.hid (by have := HN.out; have := HML.out; omega), HP3⟩
                case measure => simp [intOf] <;> omega
              | false =>
                as_aux_lemma =>
                go_wp2_with fail
                with_reducible refine Calls.mono (lput_new g b _ ms ⟨ya, q.f, pg, q.r⟩ HPn.out.lg (by have := HN.out; omega) k HLB.out HFF.out) ?_
                rintro e w2 ⟨rfl, b2, b', hl, hf, hb2, hb'⟩
                have hne : insL ms k ⟨ya, q.f, pg, q.r⟩ ≠ [] := by unfold insL; simp
                obtain ⟨p1, p2, p3, p4, p5, p6, p7⟩ := HPn.out.put hl hne hf hb2 hb'
                have HEND := Lib.hid (fun w' bm2 v' => HPn.out.ins (w' := w') (bm2 := bm2) (v' := v') HN.out HLB.out HFF.out hl hf hb2 hb' ⟨hpg1, hpg2, HYA.out⟩)
                have HWn : Hid (Below W.heap.size W w2) := Lib.hid p1
                have HZ2 : Hid (L4 z w2 ya q.f pg q.r) := Lib.hid (HZn.out.keep hf.1 (p7 z HZn.out.1 (Ne.symm hgz) hbz))
                have HFL : Hid ((ms.flatMap enc4).length = n * 4) := Lib.hid HPn.out.rows.1
                have hp5 : V4 bm w2 (.slice (some ⟨bm, off, none⟩) n c) ms := p5
                obtain ⟨N, hNe⟩ : ∃ N, w2.heap.size = N := ⟨_, rfl⟩
                have HNE := Lib.hid hNe
                have HM : Hid (∀ w, Below N w2 w → ∀ j u, (ms.flatMap enc4)[j]? = some u → w.cell? ⟨bm, off + j, none⟩ = some u) := Lib.hid (fun w hw j u hu => (cellsV4 (hp5.below (by rw [hNe]; exact hw))).2.2.2.2.2.1 j u hu)
                have hk2 : k ≤ c := by omega
                have hkn9 : k ≤ n := hk
                obtain ⟨A9, hA9, hA9c⟩ := dropA bm off c k n (ms.flatMap enc4) HFL.out hnc hkn9 w2 (fun j u hu => (cellsV4 p5).2.2.2.2.2.1 j u hu)
                have HA9 : Hid (∀ w, Below N w2 w → ∀ j u, ((ms.flatMap enc4).drop (k * 4))[j]? = some u → w.cell? (A9.add j) = some u) := Lib.hid (fun w hw j u hu => hA9c w (hw.block bm (by rw [← hNe]; exact p6)) j u hu)
                clear hNe hzl z0 z1 z2 z3 hzy hbz hl hf hb2 hb' p1 p2 p3 p4 p5 p6 p7 hp5 hA9c hne
                clear HPn HZn HN
                go_upto_region 20 with (fail)
                have HZ3 : Hid (∀ w, Below N w2 w → (w.cell? ⟨z, 0, none⟩ = some (.int .i64 ya) ∧ w.cell? ⟨z, 1, none⟩ = some (.int .i64 q.f) ∧ w.cell? ⟨z, 2, none⟩ = some (.int .i64 pg) ∧ w.cell? ⟨z, 3, none⟩ = some (.int .i64 q.r)) ∧ Hid (Below N w2 w)) := Lib.hid (fun w hw => by
                  have hw2 : Below w2.heap.size w2 w := by rw [HNE.out]; exact hw
                  obtain ⟨_, a0, a1, a2, a3, _⟩ := HZ2.out.below hw2
                  exact ⟨⟨a0, a1, a2, a3⟩, Lib.hid hw⟩)
                have HB0 : Hid (Below N w2 w2.drew) := Lib.hid (by rw [← HNE.out]; exact (Below.refl _ _).drew)
                refine wp_region_held_drew (S := fun w' => (w'.cell? ⟨z, 0, none⟩ = some (.int .i64 ya) ∧ w'.cell? ⟨z, 1, none⟩ = some (.int .i64 q.f) ∧ w'.cell? ⟨z, 2, none⟩ = some (.int .i64 pg) ∧ w'.cell? ⟨z, 3, none⟩ = some (.int .i64 q.r)) ∧ Hid (Below N w2 w')) (by kernel_rfl) ?_ (fun hHeld => ?_)
                · exact HZ3.out _ HB0.out
                refine wpAnyH_take (i := 1) (v := ?_) rfl (by kernel_rfl) (by kernel_rfl) (by kernel_rfl) (fun _ _ _ h => h) (Or.inl ⟨by kernel_rfl, ?_⟩) (by assumption) ?_
                rotate_left
                · (intro w hSw; (try dsimp only at hSw); go_simp)
                  try (with_reducible rfl)
                rotate_left
                try simp (maxSteps := 4000000) only [Act.put, List.setIfInBounds_toArray, List.set_cons_zero, List.set_cons_succ, List.getElem_toArray, List.getElem_cons_zero, List.getElem_cons_succ]
                refine wpAnyH_take (i := 2) (v := ?_) rfl (by kernel_rfl) (by kernel_rfl) (by kernel_rfl) (fun _ _ _ h => h) (Or.inl ⟨by kernel_rfl, ?_⟩) (by assumption) ?_
                rotate_left
                · (intro w hSw; (try dsimp only at hSw); go_simp)
                  try (with_reducible rfl)
                rotate_left
                try simp (maxSteps := 4000000) only [Act.put, List.setIfInBounds_toArray, List.set_cons_zero, List.set_cons_succ, List.getElem_toArray, List.getElem_cons_zero, List.getElem_cons_succ]
                refine wpAnyH_take (i := 3) (v := ?_) rfl (by kernel_rfl) (by kernel_rfl) (by kernel_rfl) (fun _ _ _ h => h) (Or.inl ⟨by kernel_rfl, ?_⟩) (by assumption) ?_
                rotate_left
                · (intro w hSw; (try dsimp only at hSw); go_simp)
                  try (with_reducible rfl)
                rotate_left
                try simp (maxSteps := 4000000) only [Act.put, List.setIfInBounds_toArray, List.set_cons_zero, List.set_cons_succ, List.getElem_toArray, List.getElem_cons_zero, List.getElem_cons_succ]
                refine wpAnyH_take (i := 5) (v := ?_) rfl (by kernel_rfl) (by kernel_rfl) (by kernel_rfl) (fun _ _ _ h => h) (Or.inl ⟨by kernel_rfl, ?_⟩) (by assumption) ?_
                rotate_left
                · (intro w hSw; (try dsimp only at hSw); go_simp)
                  try (with_reducible rfl)
                rotate_left
                try simp (maxSteps := 4000000) only [Act.put, List.setIfInBounds_toArray, List.set_cons_zero, List.set_cons_succ, List.getElem_toArray, List.getElem_cons_zero, List.getElem_cons_succ]
                refine wpAnyH_take (i := 8) (v := ?_) rfl (by kernel_rfl) (by kernel_rfl) (by kernel_rfl) (fun _ _ _ h => h) (Or.inl ⟨by kernel_rfl, ?_⟩) (by assumption) ?_
                rotate_left
                · (intro w hSw; (try dsimp only at hSw); go_simp)
                  try (with_reducible rfl)
                rotate_left
                try simp (maxSteps := 4000000) only [Act.put, List.setIfInBounds_toArray, List.set_cons_zero, List.set_cons_succ, List.getElem_toArray, List.getElem_cons_zero, List.getElem_cons_succ]
                refine wpAnyH_take (i := 9) (v := ?_) rfl (by kernel_rfl) (by kernel_rfl) (by kernel_rfl) (fun _ _ _ h => h) (Or.inl ⟨by kernel_rfl, ?_⟩) (by assumption) ?_
                rotate_left
                · (intro w hSw; (try dsimp only at hSw); go_simp)
                  try (with_reducible rfl)
                rotate_left
                try simp (maxSteps := 4000000) only [Act.put, List.setIfInBounds_toArray, List.set_cons_zero, List.set_cons_succ, List.getElem_toArray, List.getElem_cons_zero, List.getElem_cons_succ]
                refine wpAnyH_take (i := 10) (v := ?_) rfl (by kernel_rfl) (by kernel_rfl) (by kernel_rfl) (fun _ _ _ h => h) (Or.inl ⟨by kernel_rfl, ?_⟩) (by assumption) ?_
                rotate_left
                · (intro w hSw; (try dsimp only at hSw); go_simp)
                  try (with_reducible rfl)
                rotate_left
                try simp (maxSteps := 4000000) only [Act.put, List.setIfInBounds_toArray, List.set_cons_zero, List.set_cons_succ, List.getElem_toArray, List.getElem_cons_zero, List.getElem_cons_succ]
                refine wpAnyH_ready (rs := [0, 6]) (by kernel_rfl) (by simp) ?_
                refine AllReadyH.cons rfl (fun K2 hK2 => ?_) (AllReadyH.cons rfl (fun K2 hK2 => ?_) AllReadyH.nil)
                all_goals go_simp
                · have HB1 : Hid (Below N w2 (w2.alloc (.cells #[] 50)).drew) := Lib.hid (by rw [← HNE.out]; exact (alc0 _ _).drew)
                  obtain ⟨c0, hc0⟩ : ∃ p, w2.heap.size = p := ⟨_, rfl⟩
                  have hc0N : N ≤ c0 := by have := HNE.out; omega
                  have HV0 : Hid (VZ 4 c0 (w2.alloc (.cells #[] 50)).drew (.slice (some ⟨c0, 0, none⟩) 0 0) 0 []) := Lib.hid (by rw [← hc0]; exact vz_made0 w2 _)
                  obtain ⟨x1, hx1⟩ : ∃ x, (w2.alloc (.cells #[] 50)).drew = x := ⟨_, rfl⟩
                  try rw [hx1] at HB1 HV0
                  rw [hx1]
                  try rw [hc0]
                  clear hx1 hc0
                  refine hK2.out _ _ (HZ3.out _ HB1.out) (fun hHeld2 => ?_)
                  clear hK2 K2 hHeld
                  have hHeld := hHeld2
                  clear hHeld2
                  try simp (maxSteps := 4000000) only [Act.put, List.setIfInBounds_toArray, List.set_cons_zero, List.set_cons_succ]
                  refine wpAnyH_ready (rs := [4, 6]) (by kernel_rfl) (by simp) ?_
                  refine AllReadyH.cons rfl (fun K2 hK2 => ?_) (AllReadyH.cons rfl (fun K2 hK2 => ?_) AllReadyH.nil)
                  · refine step_app_vz tyLarge rfl (.tmp 163) (.tmp 166) rfl c0 (.slice (some ⟨c0, 0, none⟩) 0 0) 0 [] (by simp [Act.eval, Act.put]) HV0.out ⟨bm, off, none⟩ k c ((ms.flatMap enc4).take (k * 4)) (by simp [Act.eval, Act.put]) (take_len HFL.out hkn9) (fun j u hu => by rw [addp]; exact HM.out _ HB1.out j u (take_get hu)) (fun u hu => enc4_one ms u (List.mem_of_mem_take hu)) (by omega) ?_
                    rintro v1 x2 hp hnn1
                    simp only [Nat.zero_add, List.nil_append] at hp
                    obtain ⟨c1, hB9, hc1N, hV9, hS9, hO9⟩ := vp_next2 HNE.out HB1.out hc0N hp
                    have HB2 := Lib.hid hB9
                    have HV1 := Lib.hid hV9
                    clear hp hB9 hV9 hS9 hO9
                    refine hK2.out _ _ (HZ3.out _ HB2.out) (fun hHeld2 => ?_)
                    clear hK2 K2 hHeld
                    have hHeld := hHeld2
                    clear hHeld2
                    try simp (maxSteps := 4000000) only [Act.put, List.setIfInBounds_toArray, List.set_cons_zero, List.set_cons_succ]
                    refine wpAnyH_ready (rs := [6]) (by kernel_rfl) (by simp) ?_
                    refine AllReadyH.cons rfl (fun K2 hK2 => ?_) AllReadyH.nil
                    go_simp
                    have HB3 : Hid (Below N w2 (x2.alloc (.cells #[.int .i64 ya, .int .i64 q.f, .int .i64 pg, .int .i64 q.r] 50))) := Lib.hid (alcN HNE.out HB2.out _)
                    obtain ⟨y1, hy1⟩ : ∃ p, x2.heap.size = p := ⟨_, rfl⟩
                    have hy1N : N ≤ y1 := by have := HB2.out.size; have := HNE.out; omega
                    have HY1 : Hid (YR y1 (x2.alloc (.cells #[.int .i64 ya, .int .i64 q.f, .int .i64 pg, .int .i64 q.r] 50)) ⟨ya, q.f, pg, q.r⟩) := Lib.hid (by rw [← hy1]; exact YR.new x2 _ _ _ _ _)
                    have HV1n := Lib.hid (HV1.out.below (alc0 x2 (.cells #[.int .i64 ya, .int .i64 q.f, .int .i64 pg, .int .i64 q.r] 50)))
                    clear HV1
                    have HV1 := HV1n
                    clear HV1n
                    obtain ⟨x3, hx3⟩ : ∃ x, (x2.alloc (.cells #[.int .i64 ya, .int .i64 q.f, .int .i64 pg, .int .i64 q.r] 50)) = x := ⟨_, rfl⟩
                    try rw [hx3] at HB3 HY1 HV1
                    rw [hx3]
                    try rw [hy1]
                    clear hx3 hy1
                    refine hK2.out _ _ (HZ3.out _ HB3.out) (fun hHeld2 => ?_)
                    clear hK2 K2 hHeld
                    have hHeld := hHeld2
                    clear hHeld2
                    try simp (maxSteps := 4000000) only [Act.put, List.setIfInBounds_toArray, List.set_cons_zero, List.set_cons_succ]
                    refine wpAnyH_ready (rs := [7]) (by kernel_rfl) (by simp) ?_
                    refine AllReadyH.cons rfl (fun K2 hK2 => ?_) AllReadyH.nil
                    refine step_app_vz tyLarge rfl (.tmp 167) (.tmp 169) rfl c1 v1 k ((ms.flatMap enc4).take (k * 4)) (by simp [Act.eval, Act.put]) HV1.out ⟨y1, 0, none⟩ 1 1 (enc4 ⟨ya, q.f, pg, q.r⟩) (by simp [Act.eval, Act.put]) (enc4_len1 _) HY1.out.2 (enc4_one1 _) (by omega) ?_
                    rintro v2 x4 hp hnn2
                    obtain ⟨c2, hB9, hc2N, hV9, hS9, hO9⟩ := vp_next2 HNE.out HB3.out hc1N hp
                    have HB4 := Lib.hid hB9
                    have HV2 := Lib.hid hV9
                    clear hp hB9 hV9 hS9 hO9
                    refine hK2.out _ _ (HZ3.out _ HB4.out) (fun hHeld2 => ?_)
                    clear hK2 K2 hHeld
                    have hHeld := hHeld2
                    clear hHeld2
                    try simp (maxSteps := 4000000) only [Act.put, List.setIfInBounds_toArray, List.set_cons_zero, List.set_cons_succ]
                    refine wpAnyH_ready (rs := [11]) (by kernel_rfl) (by simp) ?_
                    refine AllReadyH.cons rfl (fun K2 hK2 => ?_) AllReadyH.nil
                    refine step_app_vz tyLarge rfl (.tmp 170) (.tmp 173) rfl c2 v2 (k + 1) ((ms.flatMap enc4).take (k * 4) ++ enc4 ⟨ya, q.f, pg, q.r⟩) (by simp [Act.eval, Act.put]) HV2.out A9 (n - k) (c - k) ((ms.flatMap enc4).drop (k * 4)) (by simp [Act.eval, Act.put, hA9]) (drop_len HFL.out hkn9) (fun j u hu => (HA9.out _ HB4.out) j u hu) (fun u hu => enc4_one ms u (List.mem_of_mem_drop hu)) (by omega) ?_
                    rintro v3 x5 hp hnn3
                    obtain ⟨c3, hB9, hc3N, hV9, hS9, hO9⟩ := vp_next2 HNE.out HB4.out hc2N hp
                    have HB5 := Lib.hid hB9
                    have HV3 := Lib.hid hV9
                    clear hp hB9 hV9 hS9 hO9
                    refine hK2.out _ _ (HZ3.out _ HB5.out) (fun hHeld2 => ?_)
                    clear hK2 K2 hHeld
                    have hHeld := hHeld2
                    clear hHeld2
                    try simp (maxSteps := 4000000) only [Act.put, List.setIfInBounds_toArray, List.set_cons_zero, List.set_cons_succ]
                    refine wpAnyH_take (i := 12) (v := ?_) rfl (by kernel_rfl) (by kernel_rfl) (by kernel_rfl) (fun _ _ _ h => h) (Or.inl ⟨by kernel_rfl, ?_⟩) (by assumption) ?_
                    rotate_left
                    · (intro w hSw; (try dsimp only at hSw); go_simp)
                      try (with_reducible rfl)
                    rotate_left
                    try simp (maxSteps := 4000000) only [Act.put, List.setIfInBounds_toArray, List.set_cons_zero, List.set_cons_succ, List.getElem_toArray, List.getElem_cons_zero, List.getElem_cons_succ]
                    refine wpAnyH_done (by kernel_rfl) ?_ _
                    have hnv : v3 ≠ .slice none 0 0 := fun h => by
                      have h2 := hnn1 (hnn2 (hnn3 h))
                      simp at h2
                    obtain ⟨hlen, hfin⟩ := HEND.out x5 c3 v3 (by rw [HNE.out]; exact HB5.out) (by rw [HNE.out]; exact hc3N) HV3.out hnv
                    have HFN := Lib.hid hfin
                    clear hfin hnv
                    go_wp2_with fail
                    go_roundw
                    case rel => exact ⟨i + 1, by omega, by omega, by go_num, insL ms k ⟨ya, q.f, pg, q.r⟩, b', c3, Lib.hid (by have := HML.out; omega), HFN⟩
                    case measure => simp [intOf] <;> omega
                  · go_simp
                    have HB2 : Hid (Below N w2 (x1.alloc (.cells #[.int .i64 ya, .int .i64 q.f, .int .i64 pg, .int .i64 q.r] 50))) := Lib.hid (alcN HNE.out HB1.out _)
                    obtain ⟨y1, hy1⟩ : ∃ p, x1.heap.size = p := ⟨_, rfl⟩
                    have hy1N : N ≤ y1 := by have := HB1.out.size; have := HNE.out; omega
                    have HY1 : Hid (YR y1 (x1.alloc (.cells #[.int .i64 ya, .int .i64 q.f, .int .i64 pg, .int .i64 q.r] 50)) ⟨ya, q.f, pg, q.r⟩) := Lib.hid (by rw [← hy1]; exact YR.new x1 _ _ _ _ _)
                    have hycd : y1 ≠ c0 := by have := lt_of_v4 (ms := []) HV0.out (by simp); omega
                    have HV0n := Lib.hid (HV0.out.below (alc0 x1 (.cells #[.int .i64 ya, .int .i64 q.f, .int .i64 pg, .int .i64 q.r] 50)))
                    clear HV0
                    have HV0 := HV0n
                    clear HV0n
                    obtain ⟨x2, hx2⟩ : ∃ x, (x1.alloc (.cells #[.int .i64 ya, .int .i64 q.f, .int .i64 pg, .int .i64 q.r] 50)) = x := ⟨_, rfl⟩
                    try rw [hx2] at HB2 HY1 HV0
                    rw [hx2]
                    try rw [hy1]
                    clear hx2 hy1
                    refine hK2.out _ _ (HZ3.out _ HB2.out) (fun hHeld2 => ?_)
                    clear hK2 K2 hHeld
                    have hHeld := hHeld2
                    clear hHeld2
                    try simp (maxSteps := 4000000) only [Act.put, List.setIfInBounds_toArray, List.set_cons_zero, List.set_cons_succ]
                    refine wpAnyH_ready (rs := [4]) (by kernel_rfl) (by simp) ?_
                    refine AllReadyH.cons rfl (fun K2 hK2 => ?_) AllReadyH.nil
                    refine step_app_vz tyLarge rfl (.tmp 163) (.tmp 166) rfl c0 (.slice (some ⟨c0, 0, none⟩) 0 0) 0 [] (by simp [Act.eval, Act.put]) HV0.out ⟨bm, off, none⟩ k c ((ms.flatMap enc4).take (k * 4)) (by simp [Act.eval, Act.put]) (take_len HFL.out hkn9) (fun j u hu => by rw [addp]; exact HM.out _ HB2.out j u (take_get hu)) (fun u hu => enc4_one ms u (List.mem_of_mem_take hu)) (by omega) ?_
                    rintro v1 x3 hp hnn1
                    simp only [Nat.zero_add, List.nil_append] at hp
                    obtain ⟨c1, hB9, hc1N, hV9, hS9, hO9⟩ := vp_next2 HNE.out HB2.out hc0N hp
                    have HB3 := Lib.hid hB9
                    have HV1 := Lib.hid hV9
                    have HY1n := Lib.hid (HY1.out.keep hS9 (hO9 _ HY1.out.1 hycd))
                    clear HY1
                    have HY1 := HY1n
                    clear HY1n
                    clear hp hB9 hV9 hS9 hO9
                    refine hK2.out _ _ (HZ3.out _ HB3.out) (fun hHeld2 => ?_)
                    clear hK2 K2 hHeld
                    have hHeld := hHeld2
                    clear hHeld2
                    try simp (maxSteps := 4000000) only [Act.put, List.setIfInBounds_toArray, List.set_cons_zero, List.set_cons_succ]
                    refine wpAnyH_ready (rs := [7]) (by kernel_rfl) (by simp) ?_
                    refine AllReadyH.cons rfl (fun K2 hK2 => ?_) AllReadyH.nil
                    refine step_app_vz tyLarge rfl (.tmp 167) (.tmp 169) rfl c1 v1 k ((ms.flatMap enc4).take (k * 4)) (by simp [Act.eval, Act.put]) HV1.out ⟨y1, 0, none⟩ 1 1 (enc4 ⟨ya, q.f, pg, q.r⟩) (by simp [Act.eval, Act.put]) (enc4_len1 _) HY1.out.2 (enc4_one1 _) (by omega) ?_
                    rintro v2 x4 hp hnn2
                    obtain ⟨c2, hB9, hc2N, hV9, hS9, hO9⟩ := vp_next2 HNE.out HB3.out hc1N hp
                    have HB4 := Lib.hid hB9
                    have HV2 := Lib.hid hV9
                    clear hp hB9 hV9 hS9 hO9
                    refine hK2.out _ _ (HZ3.out _ HB4.out) (fun hHeld2 => ?_)
                    clear hK2 K2 hHeld
                    have hHeld := hHeld2
                    clear hHeld2
                    try simp (maxSteps := 4000000) only [Act.put, List.setIfInBounds_toArray, List.set_cons_zero, List.set_cons_succ]
                    refine wpAnyH_ready (rs := [11]) (by kernel_rfl) (by simp) ?_
                    refine AllReadyH.cons rfl (fun K2 hK2 => ?_) AllReadyH.nil
                    refine step_app_vz tyLarge rfl (.tmp 170) (.tmp 173) rfl c2 v2 (k + 1) ((ms.flatMap enc4).take (k * 4) ++ enc4 ⟨ya, q.f, pg, q.r⟩) (by simp [Act.eval, Act.put]) HV2.out A9 (n - k) (c - k) ((ms.flatMap enc4).drop (k * 4)) (by simp [Act.eval, Act.put, hA9]) (drop_len HFL.out hkn9) (fun j u hu => (HA9.out _ HB4.out) j u hu) (fun u hu => enc4_one ms u (List.mem_of_mem_drop hu)) (by omega) ?_
                    rintro v3 x5 hp hnn3
                    obtain ⟨c3, hB9, hc3N, hV9, hS9, hO9⟩ := vp_next2 HNE.out HB4.out hc2N hp
                    have HB5 := Lib.hid hB9
                    have HV3 := Lib.hid hV9
                    clear hp hB9 hV9 hS9 hO9
                    refine hK2.out _ _ (HZ3.out _ HB5.out) (fun hHeld2 => ?_)
                    clear hK2 K2 hHeld
                    have hHeld := hHeld2
                    clear hHeld2
                    try simp (maxSteps := 4000000) only [Act.put, List.setIfInBounds_toArray, List.set_cons_zero, List.set_cons_succ]
                    refine wpAnyH_take (i := 12) (v := ?_) rfl (by kernel_rfl) (by kernel_rfl) (by kernel_rfl) (fun _ _ _ h => h) (Or.inl ⟨by kernel_rfl, ?_⟩) (by assumption) ?_
                    rotate_left
                    · (intro w hSw; (try dsimp only at hSw); go_simp)
                      try (with_reducible rfl)
                    rotate_left
                    try simp (maxSteps := 4000000) only [Act.put, List.setIfInBounds_toArray, List.set_cons_zero, List.set_cons_succ, List.getElem_toArray, List.getElem_cons_zero, List.getElem_cons_succ]
                    refine wpAnyH_done (by kernel_rfl) ?_ _
                    have hnv : v3 ≠ .slice none 0 0 := fun h => by
                      have h2 := hnn1 (hnn2 (hnn3 h))
                      simp at h2
                    obtain ⟨hlen, hfin⟩ := HEND.out x5 c3 v3 (by rw [HNE.out]; exact HB5.out) (by rw [HNE.out]; exact hc3N) HV3.out hnv
                    have HFN := Lib.hid hfin
                    clear hfin hnv
                    go_wp2_with fail
                    go_roundw
                    case rel => exact ⟨i + 1, by omega, by omega, by go_num, insL ms k ⟨ya, q.f, pg, q.r⟩, b', c3, Lib.hid (by have := HML.out; omega), HFN⟩
                    case measure => simp [intOf] <;> omega
                · have HB1 : Hid (Below N w2 (w2.alloc (.cells #[.int .i64 ya, .int .i64 q.f, .int .i64 pg, .int .i64 q.r] 50)).drew) := Lib.hid (by rw [← HNE.out]; exact (alc0 _ _).drew)
                  obtain ⟨y1, hy1⟩ : ∃ p, w2.heap.size = p := ⟨_, rfl⟩
                  have hy1N : N ≤ y1 := by have := HNE.out; omega
                  have HY1 : Hid (YR y1 (w2.alloc (.cells #[.int .i64 ya, .int .i64 q.f, .int .i64 pg, .int .i64 q.r] 50)).drew ⟨ya, q.f, pg, q.r⟩) := Lib.hid (by rw [← hy1]; exact YR.new0 w2 _ _ _ _ _)
                  obtain ⟨x1, hx1⟩ : ∃ x, (w2.alloc (.cells #[.int .i64 ya, .int .i64 q.f, .int .i64 pg, .int .i64 q.r] 50)).drew = x := ⟨_, rfl⟩
                  try rw [hx1] at HB1 HY1
                  rw [hx1]
                  try rw [hy1]
                  clear hx1 hy1
                  refine hK2.out _ _ (HZ3.out _ HB1.out) (fun hHeld2 => ?_)
                  clear hK2 K2 hHeld
                  have hHeld := hHeld2
                  clear hHeld2
                  try simp (maxSteps := 4000000) only [Act.put, List.setIfInBounds_toArray, List.set_cons_zero, List.set_cons_succ]
                  refine wpAnyH_ready (rs := [0]) (by kernel_rfl) (by simp) ?_
                  refine AllReadyH.cons rfl (fun K2 hK2 => ?_) AllReadyH.nil
                  go_simp
                  have HB2 : Hid (Below N w2 (x1.alloc (.cells #[] 50))) := Lib.hid (alcN HNE.out HB1.out _)
                  obtain ⟨c0, hc0⟩ : ∃ p, x1.heap.size = p := ⟨_, rfl⟩
                  have hc0N : N ≤ c0 := by have := HB1.out.size; have := HNE.out; omega
                  have HV0 : Hid (VZ 4 c0 (x1.alloc (.cells #[] 50)) (.slice (some ⟨c0, 0, none⟩) 0 0) 0 []) := Lib.hid (by rw [← hc0]; exact vz_made 4 x1 _)
                  have hycd : y1 ≠ c0 := by have := HY1.out.1; omega
                  have HY1n := Lib.hid (HY1.out.below (alc0 x1 (.cells #[] 50)))
                  clear HY1
                  have HY1 := HY1n
                  clear HY1n
                  obtain ⟨x2, hx2⟩ : ∃ x, (x1.alloc (.cells #[] 50)) = x := ⟨_, rfl⟩
                  try rw [hx2] at HB2 HV0 HY1
                  rw [hx2]
                  try rw [hc0]
                  clear hx2 hc0
                  refine hK2.out _ _ (HZ3.out _ HB2.out) (fun hHeld2 => ?_)
                  clear hK2 K2 hHeld
                  have hHeld := hHeld2
                  clear hHeld2
                  try simp (maxSteps := 4000000) only [Act.put, List.setIfInBounds_toArray, List.set_cons_zero, List.set_cons_succ]
                  refine wpAnyH_ready (rs := [4]) (by kernel_rfl) (by simp) ?_
                  refine AllReadyH.cons rfl (fun K2 hK2 => ?_) AllReadyH.nil
                  refine step_app_vz tyLarge rfl (.tmp 163) (.tmp 166) rfl c0 (.slice (some ⟨c0, 0, none⟩) 0 0) 0 [] (by simp [Act.eval, Act.put]) HV0.out ⟨bm, off, none⟩ k c ((ms.flatMap enc4).take (k * 4)) (by simp [Act.eval, Act.put]) (take_len HFL.out hkn9) (fun j u hu => by rw [addp]; exact HM.out _ HB2.out j u (take_get hu)) (fun u hu => enc4_one ms u (List.mem_of_mem_take hu)) (by omega) ?_
                  rintro v1 x3 hp hnn1
                  simp only [Nat.zero_add, List.nil_append] at hp
                  obtain ⟨c1, hB9, hc1N, hV9, hS9, hO9⟩ := vp_next2 HNE.out HB2.out hc0N hp
                  have HB3 := Lib.hid hB9
                  have HV1 := Lib.hid hV9
                  have HY1n := Lib.hid (HY1.out.keep hS9 (hO9 _ HY1.out.1 hycd))
                  clear HY1
                  have HY1 := HY1n
                  clear HY1n
                  clear hp hB9 hV9 hS9 hO9
                  refine hK2.out _ _ (HZ3.out _ HB3.out) (fun hHeld2 => ?_)
                  clear hK2 K2 hHeld
                  have hHeld := hHeld2
                  clear hHeld2
                  try simp (maxSteps := 4000000) only [Act.put, List.setIfInBounds_toArray, List.set_cons_zero, List.set_cons_succ]
                  refine wpAnyH_ready (rs := [7]) (by kernel_rfl) (by simp) ?_
                  refine AllReadyH.cons rfl (fun K2 hK2 => ?_) AllReadyH.nil
                  refine step_app_vz tyLarge rfl (.tmp 167) (.tmp 169) rfl c1 v1 k ((ms.flatMap enc4).take (k * 4)) (by simp [Act.eval, Act.put]) HV1.out ⟨y1, 0, none⟩ 1 1 (enc4 ⟨ya, q.f, pg, q.r⟩) (by simp [Act.eval, Act.put]) (enc4_len1 _) HY1.out.2 (enc4_one1 _) (by omega) ?_
                  rintro v2 x4 hp hnn2
                  obtain ⟨c2, hB9, hc2N, hV9, hS9, hO9⟩ := vp_next2 HNE.out HB3.out hc1N hp
                  have HB4 := Lib.hid hB9
                  have HV2 := Lib.hid hV9
                  clear hp hB9 hV9 hS9 hO9
                  refine hK2.out _ _ (HZ3.out _ HB4.out) (fun hHeld2 => ?_)
                  clear hK2 K2 hHeld
                  have hHeld := hHeld2
                  clear hHeld2
                  try simp (maxSteps := 4000000) only [Act.put, List.setIfInBounds_toArray, List.set_cons_zero, List.set_cons_succ]
                  refine wpAnyH_ready (rs := [11]) (by kernel_rfl) (by simp) ?_
                  refine AllReadyH.cons rfl (fun K2 hK2 => ?_) AllReadyH.nil
                  refine step_app_vz tyLarge rfl (.tmp 170) (.tmp 173) rfl c2 v2 (k + 1) ((ms.flatMap enc4).take (k * 4) ++ enc4 ⟨ya, q.f, pg, q.r⟩) (by simp [Act.eval, Act.put]) HV2.out A9 (n - k) (c - k) ((ms.flatMap enc4).drop (k * 4)) (by simp [Act.eval, Act.put, hA9]) (drop_len HFL.out hkn9) (fun j u hu => (HA9.out _ HB4.out) j u hu) (fun u hu => enc4_one ms u (List.mem_of_mem_drop hu)) (by omega) ?_
                  rintro v3 x5 hp hnn3
                  obtain ⟨c3, hB9, hc3N, hV9, hS9, hO9⟩ := vp_next2 HNE.out HB4.out hc2N hp
                  have HB5 := Lib.hid hB9
                  have HV3 := Lib.hid hV9
                  clear hp hB9 hV9 hS9 hO9
                  refine hK2.out _ _ (HZ3.out _ HB5.out) (fun hHeld2 => ?_)
                  clear hK2 K2 hHeld
                  have hHeld := hHeld2
                  clear hHeld2
                  try simp (maxSteps := 4000000) only [Act.put, List.setIfInBounds_toArray, List.set_cons_zero, List.set_cons_succ]
                  refine wpAnyH_take (i := 12) (v := ?_) rfl (by kernel_rfl) (by kernel_rfl) (by kernel_rfl) (fun _ _ _ h => h) (Or.inl ⟨by kernel_rfl, ?_⟩) (by assumption) ?_
                  rotate_left
                  · (intro w hSw; (try dsimp only at hSw); go_simp)
                    try (with_reducible rfl)
                  rotate_left
                  try simp (maxSteps := 4000000) only [Act.put, List.setIfInBounds_toArray, List.set_cons_zero, List.set_cons_succ, List.getElem_toArray, List.getElem_cons_zero, List.getElem_cons_succ]
                  refine wpAnyH_done (by kernel_rfl) ?_ _
                  have hnv : v3 ≠ .slice none 0 0 := fun h => by
                    have h2 := hnn1 (hnn2 (hnn3 h))
                    simp at h2
                  obtain ⟨hlen, hfin⟩ := HEND.out x5 c3 v3 (by rw [HNE.out]; exact HB5.out) (by rw [HNE.out]; exact hc3N) HV3.out hnv
                  have HFN := Lib.hid hfin
                  clear hfin hnv
                  go_wp2_with fail
                  go_roundw
                  case rel => exact ⟨i + 1, by omega, by omega, by go_num, insL ms k ⟨ya, q.f, pg, q.r⟩, b', c3, Lib.hid (by have := HML.out; omega), HFN⟩
                  case measure => simp [intOf] <;> omega
    ·
      as_aux_lemma =>
      clear HA HL
      have hstop : ¬ ((i : Int) < (L : Int)) ∨ ((i : Int) < (L : Int) ∧ ¬ ((i : Int) < 40)) := by omega
      clear hgo
      go_upto_region 3 with (fail)
      go_cut [36] (fun v36 wx => v36 = .bool false ∧ wr = wx)
      case first =>
        rcases hstop with h | ⟨h, h'⟩
        all_goals
          go_wp2_with fail
          go_meet
          exact ⟨rfl, rfl⟩
      case rest =>
      obtain ⟨rfl, rfl⟩ := hcut
      clear hstop
      go_wp2_with fail
      with_reducible refine Calls.mono (lall g b _ ms HP.out.lg (by have := HN.out; omega)) ?_
      rintro e w1 hcl
      obtain ⟨ba, va, rfl, hba, hva, hb1⟩ := hcl
      have hsh := hva
      obtain ⟨A8, c8, rfl, _⟩ := hsh
      rw [HN.out] at hva ⊢
      have HVA := Lib.hid hva
      have HP1 := Lib.hid (HP.out.below hb1)
      clear hva hba hb1 HP
      go_wp2_with fail
      with_reducible refine Calls.mono (llen g b _ ms HP1.out.lg) ?_
      rintro e w2 ⟨rfl, rfl⟩
      rw [HN.out]
      go_wp2_with fail
      have hnI : ((n : Int) != (n : Int)) = false := by simp
      go_loopw [15, 16, 17, 18] (fun v15 v16 v17 v18 wl => ∃ h : Nat, h ≤ n ∧ v16 = .int .i64 h ∧ v15 = .int .i64 (sumG (ms.take h)) ∧ Hid (Below w1.heap.size w1 wl)) (fun _ v16 _ _ _ => n - (intOf v16).toNat)
      case atStart => exact ⟨0, by omega, rfl, rfl, Lib.hid (Below.refl _ _)⟩
      case round =>
        rename World => wl
        obtain ⟨h, hh, rfl, rfl, HW⟩ := hrel
        have HPL := Lib.hid (HP1.out.below HW.out)
        have HVL := Lib.hid (HVA.out.below HW.out)
        by_cases hhn : h < n
        · have hhI : (h : Int) < (n : Int) := by omega
          obtain ⟨p, hp⟩ : ∃ p, ms[h]? = some p := ⟨ms[h]'(by have := HN.out; omega), List.getElem?_eq_getElem _⟩
          have HPP := Lib.hid hp
          have hpb := HPL.out.bds p (List.mem_of_getElem? hp)
          have hsm := sumG_take ms h p hp
          have hsb := sumG_bd (ms.take h) (fun p hp => ⟨(HPL.out.bds p (List.mem_of_mem_take hp)).1, by have := (HPL.out.bds p (List.mem_of_mem_take hp)).2.1; omega⟩)
          have hsl : (ms.take h).length ≤ 40 := by rw [List.length_take]; omega
          obtain ⟨s, hs⟩ : ∃ s, sumG (ms.take h) = s := ⟨_, rfl⟩
          rw [hs] at hsm hsb ⊢
          have hs1 : 0 ≤ s ∧ s ≤ 1002 * 40 := by omega
          have HSM := Lib.hid hsm
          clear hsm hsb hsl hs
          obtain ⟨pp, hpp⟩ : ∃ pp, p.pages = pp := ⟨_, rfl⟩
          have hpp1 : 0 ≤ pp ∧ pp ≤ 7 := by omega
          have HPPG := Lib.hid hpp
          obtain ⟨off', c'', e6, -, -, -, hcell⟩ := HPL.out.open_
          injection e6 with e6 e7 e8
          injection e6 with e6
          injection e6 with _ e6
          subst e6
          clear e7 e8
          obtain ⟨m0, m1, m2, m3⟩ := hcell h p hp
          clear hcell
          rw [hpp] at m2
          clear hpb hpp
          go_wp2_with fail
          with_reducible refine Calls.mono (lget_yes g b _ ms HPL.out.lg (by have := HN.out; omega) p.at_ h (lb_self HPL.out.rise HPP.out) (fnd_self HPP.out) p HPP.out) ?_
          rintro e w5 ⟨rfl, hb⟩
          have HP5 := Lib.hid (HPL.out.below hb)
          have HV5 := Lib.hid (HVL.out.below hb)
          have HW5 := Lib.hid (thn HW.out hb)
          clear hb HPL HVL HW m0 m1 m2 m3
          go_upto_region 28 with (fail)
          obtain ⟨x, hx⟩ : ∃ x, w5.heap.size = x := ⟨_, rfl⟩
          obtain ⟨w6, hw6⟩ : ∃ w6, w5.alloc (.cells #[.int .i64 p.at_, .int .i64 p.first, .int .i64 p.pages, .int .i64 p.room] 50) = w6 := ⟨_, rfl⟩
          have HP6 : Hid (LS W g b bm w6 (.slice (some ⟨bm, off, none⟩) n c) ms) := Lib.hid (by rw [← hw6]; exact HP5.out.below (alc0 _ _))
          have HV6 : Hid (V4 ba w6 (.slice A8 n c8) ms) := Lib.hid (by rw [← hw6]; exact HV5.out.below (alc0 _ _))
          have HW6 : Hid (Below w1.heap.size w1 w6) := Lib.hid (by rw [← hw6]; exact alc HW5.out _)
          have HX : Hid (L4 x w6 p.at_ p.first p.pages p.room) := Lib.hid (by rw [← hw6, ← hx]; exact L4.new _ _ _ _ _ _)
          rw [hw6, hx]
          clear hw6 hx HP5 HV5 HW5
          rcases v4_open HV6.out with ⟨_, e9⟩ | ⟨offa, ca, ea, -, -, -, hca⟩
          · have := HPP.out
            rw [e9] at this
            simp at this
          obtain ⟨rfl, ea3⟩ : A8 = some ⟨ba, offa, none⟩ ∧ c8 = ca := by
            injection ea with q1 q2 q3
            exact ⟨q1, q3⟩
          clear ea ea3
          obtain ⟨a0, a1, a2, a3⟩ := hca h p HPP.out
          obtain ⟨off', c'', e6, -, -, -, hcell⟩ := HP6.out.open_
          injection e6 with e6 e7 e8
          injection e6 with e6
          injection e6 with _ e6
          subst e6
          clear e7 e8
          obtain ⟨m0, m1, m2, m3⟩ := hcell h p HPP.out
          obtain ⟨hxl, x0, x1, x2, x3, -⟩ := HX.out
          refine wp_region_held_drew (S := fun w' => (w'.cell? ⟨x, 0, none⟩ = some (.int .i64 p.at_) ∧ w'.cell? ⟨x, 1, none⟩ = some (.int .i64 p.first) ∧ w'.cell? ⟨x, 2, none⟩ = some (.int .i64 p.pages) ∧ w'.cell? ⟨x, 3, none⟩ = some (.int .i64 p.room)) ∧ (w'.cell? ⟨bm, off + h * 4, none⟩ = some (.int .i64 p.at_) ∧ w'.cell? ⟨bm, off + h * 4 + 1, none⟩ = some (.int .i64 p.first) ∧ w'.cell? ⟨bm, off + h * 4 + 2, none⟩ = some (.int .i64 p.pages) ∧ w'.cell? ⟨bm, off + h * 4 + 3, none⟩ = some (.int .i64 p.room)) ∧ (w'.cell? ⟨ba, offa + h * 4, none⟩ = some (.int .i64 p.at_) ∧ w'.cell? ⟨ba, offa + h * 4 + 1, none⟩ = some (.int .i64 p.first) ∧ w'.cell? ⟨ba, offa + h * 4 + 2, none⟩ = some (.int .i64 p.pages) ∧ w'.cell? ⟨ba, offa + h * 4 + 3, none⟩ = some (.int .i64 p.room))) (by kernel_rfl) ?_ (fun hHeld => ?_)
          · exact ⟨⟨x0, x1, x2, x3⟩, ⟨m0, m1, m2, m3⟩, a0, a1, a2, a3⟩
          clear x0 x1 x2 x3 m0 m1 m3 a0 a1 a2 a3 hcell hca
          refine wpAnyH_take (i := 0) (v := ?_) rfl (by kernel_rfl) (by kernel_rfl) (by kernel_rfl) (fun _ _ _ h => h) (Or.inl ⟨by kernel_rfl, ?_⟩) (by assumption) ?_
          rotate_left
          · (intro w hSw; (try dsimp only at hSw); go_simp)
            try (with_reducible rfl)
          rotate_left
          try simp (maxSteps := 4000000) only [Act.put, List.setIfInBounds_toArray, List.set_cons_zero, List.set_cons_succ, List.getElem_toArray, List.getElem_cons_zero, List.getElem_cons_succ]
          refine wpAnyH_take (i := 1) (v := ?_) rfl (by kernel_rfl) (by kernel_rfl) (by kernel_rfl) (fun _ _ _ h => h) (Or.inl ⟨by kernel_rfl, ?_⟩) (by assumption) ?_
          rotate_left
          · (intro w hSw; (try dsimp only at hSw); go_simp)
            try (with_reducible rfl)
          rotate_left
          try simp (maxSteps := 4000000) only [Act.put, List.setIfInBounds_toArray, List.set_cons_zero, List.set_cons_succ, List.getElem_toArray, List.getElem_cons_zero, List.getElem_cons_succ]
          refine wpAnyH_take (i := 2) (v := ?_) rfl (by kernel_rfl) (by kernel_rfl) (by kernel_rfl) (fun _ _ _ h => h) (Or.inl ⟨by kernel_rfl, ?_⟩) (by assumption) ?_
          rotate_left
          · (intro w hSw; (try dsimp only at hSw); go_simp)
            try (with_reducible rfl)
          rotate_left
          try simp (maxSteps := 4000000) only [Act.put, List.setIfInBounds_toArray, List.set_cons_zero, List.set_cons_succ, List.getElem_toArray, List.getElem_cons_zero, List.getElem_cons_succ]
          refine wpAnyH_take (i := 3) (v := ?_) rfl (by kernel_rfl) (by kernel_rfl) (by kernel_rfl) (fun _ _ _ h => h) (Or.inl ⟨by kernel_rfl, ?_⟩) (by assumption) ?_
          rotate_left
          · (intro w hSw; (try dsimp only at hSw); go_simp)
            try (with_reducible rfl)
          rotate_left
          try simp (maxSteps := 4000000) only [Act.put, List.setIfInBounds_toArray, List.set_cons_zero, List.set_cons_succ, List.getElem_toArray, List.getElem_cons_zero, List.getElem_cons_succ]
          refine wpAnyH_take (i := 4) (v := ?_) rfl (by kernel_rfl) (by kernel_rfl) (by kernel_rfl) (fun _ _ _ h => h) (Or.inl ⟨by kernel_rfl, ?_⟩) (by assumption) ?_
          rotate_left
          · (intro w hSw; (try dsimp only at hSw); go_simp)
            try (with_reducible rfl)
          rotate_left
          try simp (maxSteps := 4000000) only [Act.put, List.setIfInBounds_toArray, List.set_cons_zero, List.set_cons_succ, List.getElem_toArray, List.getElem_cons_zero, List.getElem_cons_succ]
          refine wpAnyH_take (i := 5) (v := ?_) rfl (by kernel_rfl) (by kernel_rfl) (by kernel_rfl) (fun _ _ _ h => h) (Or.inl ⟨by kernel_rfl, ?_⟩) (by assumption) ?_
          rotate_left
          · (intro w hSw; (try dsimp only at hSw); go_simp)
            try (with_reducible rfl)
          rotate_left
          try simp (maxSteps := 4000000) only [Act.put, List.setIfInBounds_toArray, List.set_cons_zero, List.set_cons_succ, List.getElem_toArray, List.getElem_cons_zero, List.getElem_cons_succ]
          refine wpAnyH_take (i := 6) (v := ?_) rfl (by kernel_rfl) (by kernel_rfl) (by kernel_rfl) (fun _ _ _ h => h) (Or.inl ⟨by kernel_rfl, ?_⟩) (by assumption) ?_
          rotate_left
          · (intro w hSw; (try dsimp only at hSw); go_simp)
            try (with_reducible rfl)
          rotate_left
          try simp (maxSteps := 4000000) only [Act.put, List.setIfInBounds_toArray, List.set_cons_zero, List.set_cons_succ, List.getElem_toArray, List.getElem_cons_zero, List.getElem_cons_succ]
          refine wpAnyH_take (i := 7) (v := ?_) rfl (by kernel_rfl) (by kernel_rfl) (by kernel_rfl) (fun _ _ _ h => h) (Or.inl ⟨by kernel_rfl, ?_⟩) (by assumption) ?_
          rotate_left
          · (intro w hSw; (try dsimp only at hSw); go_simp)
            try (with_reducible rfl)
          rotate_left
          try simp (maxSteps := 4000000) only [Act.put, List.setIfInBounds_toArray, List.set_cons_zero, List.set_cons_succ, List.getElem_toArray, List.getElem_cons_zero, List.getElem_cons_succ]
          refine wpAnyH_take (i := 8) (v := ?_) rfl (by kernel_rfl) (by kernel_rfl) (by kernel_rfl) (fun _ _ _ h => h) (Or.inl ⟨by kernel_rfl, ?_⟩) (by assumption) ?_
          rotate_left
          · (intro w hSw; (try dsimp only at hSw); go_simp)
            try (with_reducible rfl)
          rotate_left
          try simp (maxSteps := 4000000) only [Act.put, List.setIfInBounds_toArray, List.set_cons_zero, List.set_cons_succ, List.getElem_toArray, List.getElem_cons_zero, List.getElem_cons_succ]
          refine wpAnyH_take (i := 9) (v := ?_) rfl (by kernel_rfl) (by kernel_rfl) (by kernel_rfl) (fun _ _ _ h => h) (Or.inl ⟨by kernel_rfl, ?_⟩) (by assumption) ?_
          rotate_left
          · (intro w hSw; (try dsimp only at hSw); go_simp)
            try (with_reducible rfl)
          rotate_left
          try simp (maxSteps := 4000000) only [Act.put, List.setIfInBounds_toArray, List.set_cons_zero, List.set_cons_succ, List.getElem_toArray, List.getElem_cons_zero, List.getElem_cons_succ]
          refine wpAnyH_take (i := 10) (v := ?_) rfl (by kernel_rfl) (by kernel_rfl) (by kernel_rfl) (fun _ _ _ h => h) (Or.inl ⟨by kernel_rfl, ?_⟩) (by assumption) ?_
          rotate_left
          · (intro w hSw; (try dsimp only at hSw); go_simp)
            try (with_reducible rfl)
          rotate_left
          try simp (maxSteps := 4000000) only [Act.put, List.setIfInBounds_toArray, List.set_cons_zero, List.set_cons_succ, List.getElem_toArray, List.getElem_cons_zero, List.getElem_cons_succ]
          refine wpAnyH_take (i := 11) (v := ?_) rfl (by kernel_rfl) (by kernel_rfl) (by kernel_rfl) (fun _ _ _ h => h) (Or.inl ⟨by kernel_rfl, ?_⟩) (by assumption) ?_
          rotate_left
          · (intro w hSw; (try dsimp only at hSw); go_simp)
            try (with_reducible rfl)
          rotate_left
          try simp (maxSteps := 4000000) only [Act.put, List.setIfInBounds_toArray, List.set_cons_zero, List.set_cons_succ, List.getElem_toArray, List.getElem_cons_zero, List.getElem_cons_succ]
          refine wpAnyH_take (i := 12) (v := ?_) rfl (by kernel_rfl) (by kernel_rfl) (by kernel_rfl) (fun _ _ _ h => h) (Or.inl ⟨by kernel_rfl, ?_⟩) (by assumption) ?_
          rotate_left
          · (intro w hSw; (try dsimp only at hSw); go_simp)
            try (with_reducible rfl)
          rotate_left
          try simp (maxSteps := 4000000) only [Act.put, List.setIfInBounds_toArray, List.set_cons_zero, List.set_cons_succ, List.getElem_toArray, List.getElem_cons_zero, List.getElem_cons_succ]
          refine wpAnyH_take (i := 13) (v := ?_) rfl (by kernel_rfl) (by kernel_rfl) (by kernel_rfl) (fun _ _ _ h => h) (Or.inl ⟨by kernel_rfl, ?_⟩) (by assumption) ?_
          rotate_left
          · (intro w hSw; (try dsimp only at hSw); go_simp)
            try (with_reducible rfl)
          rotate_left
          try simp (maxSteps := 4000000) only [Act.put, List.setIfInBounds_toArray, List.set_cons_zero, List.set_cons_succ, List.getElem_toArray, List.getElem_cons_zero, List.getElem_cons_succ]
          refine wpAnyH_take (i := 14) (v := ?_) rfl (by kernel_rfl) (by kernel_rfl) (by kernel_rfl) (fun _ _ _ h => h) (Or.inl ⟨by kernel_rfl, ?_⟩) (by assumption) ?_
          rotate_left
          · (intro w hSw; (try dsimp only at hSw); go_simp)
            try (with_reducible rfl)
          rotate_left
          try simp (maxSteps := 4000000) only [Act.put, List.setIfInBounds_toArray, List.set_cons_zero, List.set_cons_succ, List.getElem_toArray, List.getElem_cons_zero, List.getElem_cons_succ]
          refine wpAnyH_take (i := 15) (v := ?_) rfl (by kernel_rfl) (by kernel_rfl) (by kernel_rfl) (fun _ _ _ h => h) (Or.inl ⟨by kernel_rfl, ?_⟩) (by assumption) ?_
          rotate_left
          · (intro w hSw; (try dsimp only at hSw); go_simp)
            try (with_reducible rfl)
          rotate_left
          try simp (maxSteps := 4000000) only [Act.put, List.setIfInBounds_toArray, List.set_cons_zero, List.set_cons_succ, List.getElem_toArray, List.getElem_cons_zero, List.getElem_cons_succ]
          refine wpAnyH_take (i := 16) (v := ?_) rfl (by kernel_rfl) (by kernel_rfl) (by kernel_rfl) (fun _ _ _ h => h) (Or.inl ⟨by kernel_rfl, ?_⟩) (by assumption) ?_
          rotate_left
          · (intro w hSw; (try dsimp only at hSw); go_simp)
            try (with_reducible rfl)
          rotate_left
          try simp (maxSteps := 4000000) only [Act.put, List.setIfInBounds_toArray, List.set_cons_zero, List.set_cons_succ, List.getElem_toArray, List.getElem_cons_zero, List.getElem_cons_succ]
          refine wpAnyH_take (i := 17) (v := ?_) rfl (by kernel_rfl) (by kernel_rfl) (by kernel_rfl) (fun _ _ _ h => h) (Or.inl ⟨by kernel_rfl, ?_⟩) (by assumption) ?_
          rotate_left
          · (intro w hSw; (try dsimp only at hSw); go_simp)
            try (with_reducible rfl)
          rotate_left
          try simp (maxSteps := 4000000) only [Act.put, List.setIfInBounds_toArray, List.set_cons_zero, List.set_cons_succ, List.getElem_toArray, List.getElem_cons_zero, List.getElem_cons_succ]
          refine wpAnyH_take (i := 18) (v := ?_) rfl (by kernel_rfl) (by kernel_rfl) (by kernel_rfl) (fun _ _ _ h => h) (Or.inl ⟨by kernel_rfl, ?_⟩) (by assumption) ?_
          rotate_left
          · (intro w hSw; (try dsimp only at hSw); go_simp)
            try (with_reducible rfl)
          rotate_left
          try simp (maxSteps := 4000000) only [Act.put, List.setIfInBounds_toArray, List.set_cons_zero, List.set_cons_succ, List.getElem_toArray, List.getElem_cons_zero, List.getElem_cons_succ]
          refine wpAnyH_take (i := 19) (v := ?_) rfl (by kernel_rfl) (by kernel_rfl) (by kernel_rfl) (fun _ _ _ h => h) (Or.inl ⟨by kernel_rfl, ?_⟩) (by assumption) ?_
          rotate_left
          · (intro w hSw; (try dsimp only at hSw); go_simp)
            try (with_reducible rfl)
          rotate_left
          try simp (maxSteps := 4000000) only [Act.put, List.setIfInBounds_toArray, List.set_cons_zero, List.set_cons_succ, List.getElem_toArray, List.getElem_cons_zero, List.getElem_cons_succ]
          refine wpAnyH_take (i := 20) (v := ?_) rfl (by kernel_rfl) (by kernel_rfl) (by kernel_rfl) (fun _ _ _ h => h) (Or.inl ⟨by kernel_rfl, ?_⟩) (by assumption) ?_
          rotate_left
          · (intro w hSw; (try dsimp only at hSw); go_simp)
            try (with_reducible rfl)
          rotate_left
          try simp (maxSteps := 4000000) only [Act.put, List.setIfInBounds_toArray, List.set_cons_zero, List.set_cons_succ, List.getElem_toArray, List.getElem_cons_zero, List.getElem_cons_succ]
          refine wpAnyH_done (by kernel_rfl) ?_ _
          have m2d : w6.drew.cell? ⟨bm, off + h * 4 + 2, none⟩ = some (.int .i64 pp) := by rw [← HPPG.out]; exact m2
          clear m2
          have HW7 : Hid (Below w1.heap.size w1 w6.drew) := Lib.hid (thn HW6.out (Below.refl _ w6).drew)
          go_wp2_with fail
          go_roundw
          case rel => exact ⟨h + 1, by omega, by go_num, (by rw [HSM.out, HPPG.out]; have q1 : wrap64 (pp + 2) = pp + 2 := (by unfold wrap64; omega); rw [q1]; have q2 : wrap64 (s + (pp + 2)) = s + (pp + 2) := (by unfold wrap64; omega); rw [q2]), HW7⟩
          case measure => simp [intOf] <;> omega
        · obtain rfl : h = n := by omega
          have hhI : ¬ (h : Int) < (h : Int) := by omega
          clear hhn
          have hst : sumG (ms.take h) = sumG ms := by rw [List.take_of_length_le (by have := HN.out; omega)]
          rw [hst]
          clear hst HVL HVA HP1 HW
          obtain ⟨T, hT⟩ : ∃ T, sumG ms = T := ⟨_, rfl⟩
          have HT := Lib.hid hT
          rw [hT]
          clear hT
          have hnp : ∀ W, Calls Try.prog 18 #[.pointer none, .agg #[.int .i64 0, .int .i64 0, .int .i64 0, .int .i64 0]] W fun e w' => e = .returned (.int .i64 1) ∧ Below W.heap.size W w' := fun W => nlput ⟨0, 0, 0, 0⟩ W
          have HNPUT := Lib.hid hnp
          clear hnp
          obtain ⟨at1, hat1⟩ : ∃ at1, bits .or .i64 at0 1 = at1 := ⟨_, rfl⟩
          have hodd : at1 % 2 = 1 := by rw [← hat1]; exact odd_or at0
          obtain ⟨k, hk⟩ := lb_ex at1 ms HPL.out.rise
          have HKK := Lib.hid hk
          have HODD : Hid (fndB ms at1 k = false) := Lib.hid (fnd_odd HPL.out.bds hodd)
          clear hk hodd
          go_upto_region 31 with (fail)
          go_wp2_with fail
          try rw [hat1]
          clear hat1
          with_reducible refine Calls.mono (lget_no g b _ ms HPL.out.lg (by have := HN.out; omega) at1 k HKK.out HODD.out) ?_
          rintro e w5 ⟨rfl, hb⟩
          have HP5 := Lib.hid (HPL.out.below hb)
          clear hb HPL
          go_wp2_with fail
          with_reducible refine Calls.mono (nlget 0 _) ?_
          rintro e w6 ⟨rfl, hb⟩
          have HP6 := Lib.hid ((HP5.out.below (alc0 _ _)).below hb)
          clear hb HP5
          go_wp2_with fail
          with_reducible refine Calls.mono (nldrop 0 _) ?_
          rintro e w7 ⟨rfl, hb⟩
          have HP7 := Lib.hid ((HP6.out.below (alc0 _ _)).below hb)
          clear hb HP6
          go_wp2_with fail
          with_reducible refine Calls.mono (w30awake _) ?_
          rintro e w8 ⟨rfl, hb⟩
          have HP8 := Lib.hid ((HP7.out.below (alc0 _ _)).below hb)
          clear hb HP7
          go_wp2_with fail
          have hpg : Calls Try.prog 23 #[.pointer (some ⟨g, 0, none⟩)] w8 fun e w' => e = .returned (.int .i64 T) ∧ Below w8.heap.size w8 w' := by
            rw [← HT.out]
            exact lpages g b w8 ms HP8.out.lg (by have := HN.out; omega) (fun p hp => ⟨(HP8.out.bds p hp).1, by have := (HP8.out.bds p hp).2.1; omega⟩)
          with_reducible refine Calls.mono hpg ?_
          rintro e w9 ⟨rfl, hb⟩
          have HP9 := Lib.hid (HP8.out.below hb)
          clear hb HP8 hpg
          go_wp2_with fail
          with_reducible refine Calls.mono (HNPUT.out _) ?_
          rintro e w10 ⟨rfl, hb⟩
          have HP10 := Lib.hid (HP9.out.below hb)
          clear hb HP9
          go_wp2_with fail
          with_reducible refine Calls.mono (nllen _) ?_
          rintro e w11 ⟨rfl, rfl⟩
          go_wp2_with fail
          with_reducible refine Calls.mono (nlpages _) ?_
          rintro e w12 ⟨rfl, rfl⟩
          go_wp2_with fail
          with_reducible refine Calls.mono (nlall _) ?_
          rintro e w13 ⟨rfl, rfl⟩
          go_wp2_with fail
          go_ret
          exact ⟨rfl, HP10.out.wb⟩
end Go.Proofs.Ytohamecjiidjdaa
