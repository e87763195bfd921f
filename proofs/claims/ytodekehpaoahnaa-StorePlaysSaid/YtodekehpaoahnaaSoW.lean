import Derived.Test.YtodekehpaoahnaaSoV
import Derived.Deep.RegionHeld3
namespace Go.Proofs.Ytodekehpaoahnaa
open Go.RowKit Go.ChangeShapes Go.WideShapes Go.Deep
set_option linter.unusedSimpArgs false
set_option linter.unusedVariables false
set_option maxRecDepth 100000 in
set_option maxHeartbeats 8000000 in
theorem splays_t (A : Option Addr) (l : List AV) (cp : Nat) (W : World) (hl : l.length ≤ 9223372036854775807) (hA : ACTS W A l) : Calls Try.prog 3 #[.slice A l.length cp] W fun e w' => e = .returned (.bool true) ∧ Below W.heap.size W w' := by
  have HA := Lib.hid hA
  obtain ⟨L, hL⟩ : ∃ L, l.length = L := ⟨_, rfl⟩
  rw [hL] at hl ⊢
  have HL := Lib.hid hL
  clear hA hL
  go_enter Try.func3, Try.ntmps3
  go_wp2_with fail
  with_reducible refine Calls.mono (snew W) ?_
  rintro e w1 ⟨g, b, rfl, hs, hb⟩
  have HS := Lib.hid hs
  have HB := Lib.hid hb
  clear hs hb
  go_wp2_with fail
  simp only [zeroA, Result.andThen_ok]
  rw [Oper.upon_value]
  go_wp2_with fail
  simp only [zeroA, Result.andThen]
  rw [Oper.upon_value]
  go_wp2_with fail
  simp only [storeA, Value.cells, Result.andThen, ↓reduceIte]
  rw [Oper.upon_skip]
  obtain ⟨wa, hwa⟩ : ∃ wa, w1.alloc (.cells Z9 25) = wa := ⟨_, rfl⟩
  obtain ⟨M, hM⟩ : ∃ M, w1.heap.size = M := ⟨_, rfl⟩
  have HPA : Hid (PA W g M wa (fun _ => 0) (fun _ => 0)) := Lib.hid (by
    have h := HS.out
    have hz : ∀ i, W.heap.size ≤ i → i < w1.heap.size → M ≠ i := fun i _ hi => by omega
    have hWM : W.heap.size ≤ M := by rw [← hM]; exact HB.out.size
    rw [← hwa]
    exact ⟨hWM, ⟨b, [], h.below (alc0 _ _), ⟨hz g h.2.1.1 h.2.1.2.2.2.1, hz b h.2.1.2.1 h.2.1.2.2.2.2, by simp, by rw [← hM]; simp, fun o => by rw [← hM]; simp⟩, fun _ => Nat.zero_lt_succ 255, fun _ _ => rfl, alc HB.out _⟩, fun j hj => by rw [← hM]; exact Z9_cell w1 _ j hj⟩)
  try rw [hwa]
  rw [hM]
  clear hwa hM HS HB
  go_wp2_with fail
  go_loopw [5, 6, 7, 8, 9, 10, 11, 12, 13, 14] (fun v5 v6 v7 v8 v9 v10 v11 v12 v13 v14 wr => ∃ i : Nat, i ≤ L ∧ i ≤ 40 ∧ v5 = .int .i64 i ∧ ∃ c, Hid (PA W g M wr c c)) (fun v5 _ _ _ _ _ _ _ _ _ _ => L - (intOf v5).toNat)
  case atStart => exact ⟨0, by omega, by omega, rfl, _, HPA⟩
  case round =>
    obtain ⟨i, hi, hi40, rfl, c, HP⟩ := hrel
    clear HPA
    by_cases hgo : i < L ∧ i < 40
    · obtain ⟨g1, g2⟩ := hgo
      have g1I : (i : Int) < (L : Int) := by omega
      have g2I : (i : Int) < 40 := by omega
      obtain ⟨p, hp⟩ : ∃ p, l[i]? = some p := ⟨l[i]'(by have := HL.out; omega), List.getElem?_eq_getElem _⟩
      obtain h0 | ⟨ab, ao, rfl, hab0, hcells⟩ := HA.out
      · have h9 := HL.out
        subst h0
        simp at h9
        omega
      obtain ⟨⟨c0, c1, c2, c3⟩, -, hn⟩ := (hcells i p hp).keep hab0 HP.out.wb
      have hbs := (hcells i p hp).2.1
      have HC0 := Lib.hid hcells
      have hab : ab < wr.heap.size := Nat.lt_of_lt_of_le hab0 HP.out.wb.size
      have f1 : bits .and .i64 p.a 1023 = p.a % 1024 := and1023 p.a
      obtain ⟨a, ha⟩ : ∃ a : Nat, p.a % 1024 = (a : Int) := ⟨(p.a % 1024).toNat, by omega⟩
      have ha9 : a < 1024 := by omega
      rw [ha] at f1
      have HBS := Lib.hid hbs
      clear hcells hbs
      go_upto_region 6 with (fail)
      obtain ⟨n0, hn0, hn3⟩ : ∃ n0 : Nat, min p.ln 300 = n0 ∧ n0 ≤ 300 := ⟨_, rfl, by omega⟩
      have hncp : n0 ≤ p.cp := by have := HBS.out.2.1; omega
      go_cut [7] (fun v7 wx => v7 = .slice p.P n0 p.cp ∧ wr.drew = wx)
      case first =>
        by_cases h3 : 300 < p.ln
        · obtain rfl : 300 = n0 := by omega
          have h3I : (300 : Int) < (p.ln : Int) := by omega
          clear hn0 hn3 hncp
          have hle : 300 ≤ p.cp := by have := HBS.out.2.1; omega
          have hleI : (300 : Int) ≤ (p.cp : Int) := by omega
          refine wp_region_held_drew (S := fun w' => w'.cell? ⟨ab, ao + i * 4 + 2, none⟩ = some (.slice p.P p.ln p.cp)) (by kernel_rfl) ?_ (fun hHeld => ?_)
          · exact c2
          refine wpAnyH_take (i := 0) (v := ?_) rfl (by kernel_rfl) (by kernel_rfl) (by kernel_rfl) (fun _ _ _ h => h) (Or.inl ⟨by kernel_rfl, ?_⟩) (by assumption) ?_
          rotate_left
          · (intro w hSw; (try dsimp only at hSw); go_simp)
            try (with_reducible rfl)
          rotate_left
          try simp (maxSteps := 4000000) only [Act.put, List.setIfInBounds_toArray, List.set_cons_zero, List.set_cons_succ, List.getElem_toArray, List.getElem_cons_zero, List.getElem_cons_succ]
          refine wpAnyH_take (i := 1) (v := ?_) rfl (by kernel_rfl) (by kernel_rfl) (by kernel_rfl) (fun _ _ _ h => h) (Or.inl ⟨by kernel_rfl, ?_⟩) (by assumption) ?_
          rotate_left
          · (intro w hSw; (try dsimp only at hSw); go_simp)
            try (with_reducible rfl)
          rotate_left
          try simp (maxSteps := 4000000) only [Act.put, List.setIfInBounds_toArray, List.set_cons_zero, List.set_cons_succ, List.getElem_toArray, List.getElem_cons_zero, List.getElem_cons_succ]
          refine wpAnyH_take (i := 2) (v := ?_) rfl (by kernel_rfl) (by kernel_rfl) (by kernel_rfl) (fun _ _ _ h => h) (Or.inl ⟨by kernel_rfl, ?_⟩) (by assumption) ?_
          rotate_left
          · (intro w hSw; (try dsimp only at hSw); go_simp)
            try (with_reducible rfl)
          rotate_left
          try simp (maxSteps := 4000000) only [Act.put, List.setIfInBounds_toArray, List.set_cons_zero, List.set_cons_succ, List.getElem_toArray, List.getElem_cons_zero, List.getElem_cons_succ]
          refine wpAnyH_take (i := 3) (v := ?_) rfl (by kernel_rfl) (by kernel_rfl) (by kernel_rfl) (fun _ _ _ h => h) (Or.inl ⟨by kernel_rfl, ?_⟩) (by assumption) ?_
          rotate_left
          · (intro w hSw; (try dsimp only at hSw); go_simp)
            try (with_reducible rfl)
          rotate_left
          try simp (maxSteps := 4000000) only [Act.put, List.setIfInBounds_toArray, List.set_cons_zero, List.set_cons_succ, List.getElem_toArray, List.getElem_cons_zero, List.getElem_cons_succ]
          refine wpAnyH_take (i := 4) (v := ?_) rfl (by kernel_rfl) (by kernel_rfl) (by kernel_rfl) (fun _ _ _ h => h) (Or.inl ⟨by kernel_rfl, ?_⟩) (by assumption) ?_
          rotate_left
          · (intro w hSw; (try dsimp only at hSw); go_simp)
            try (with_reducible rfl)
          rotate_left
          try simp (maxSteps := 4000000) only [Act.put, List.setIfInBounds_toArray, List.set_cons_zero, List.set_cons_succ, List.getElem_toArray, List.getElem_cons_zero, List.getElem_cons_succ]
          refine wpAnyH_take (i := 5) (v := ?_) rfl (by kernel_rfl) (by kernel_rfl) (by kernel_rfl) (fun _ _ _ h => h) (Or.inl ⟨by kernel_rfl, ?_⟩) (by assumption) ?_
          rotate_left
          · (intro w hSw; (try dsimp only at hSw); go_simp)
            try (with_reducible rfl)
          rotate_left
          try simp (maxSteps := 4000000) only [Act.put, List.setIfInBounds_toArray, List.set_cons_zero, List.set_cons_succ, List.getElem_toArray, List.getElem_cons_zero, List.getElem_cons_succ]
          refine wpAnyH_take (i := 6) (v := ?_) rfl (by kernel_rfl) (by kernel_rfl) (by kernel_rfl) (fun _ _ _ h => h) (Or.inl ⟨by kernel_rfl, ?_⟩) (by assumption) ?_
          rotate_left
          · (intro w hSw; (try dsimp only at hSw); go_simp)
            try (with_reducible rfl)
          rotate_left
          try simp (maxSteps := 4000000) only [Act.put, List.setIfInBounds_toArray, List.set_cons_zero, List.set_cons_succ, List.getElem_toArray, List.getElem_cons_zero, List.getElem_cons_succ]
          refine wpAnyH_take (i := 7) (v := ?_) rfl (by kernel_rfl) (by kernel_rfl) (by kernel_rfl) (fun _ _ _ h => h) (Or.inl ⟨by kernel_rfl, ?_⟩) (by assumption) ?_
          rotate_left
          · (intro w hSw; (try dsimp only at hSw); go_simp)
            try (with_reducible rfl)
          rotate_left
          try simp (maxSteps := 4000000) only [Act.put, List.setIfInBounds_toArray, List.set_cons_zero, List.set_cons_succ, List.getElem_toArray, List.getElem_cons_zero, List.getElem_cons_succ]
          refine wpAnyH_take (i := 8) (v := ?_) rfl (by kernel_rfl) (by kernel_rfl) (by kernel_rfl) (fun _ _ _ h => h) (Or.inl ⟨by kernel_rfl, ?_⟩) (by assumption) ?_
          rotate_left
          · (intro w hSw; (try dsimp only at hSw); go_simp)
            try (with_reducible rfl)
          rotate_left
          try simp (maxSteps := 4000000) only [Act.put, List.setIfInBounds_toArray, List.set_cons_zero, List.set_cons_succ, List.getElem_toArray, List.getElem_cons_zero, List.getElem_cons_succ]
          refine wpAnyH_take (i := 9) (v := ?_) rfl (by kernel_rfl) (by kernel_rfl) (by kernel_rfl) (fun _ _ _ h => h) (Or.inl ⟨by kernel_rfl, ?_⟩) (by assumption) ?_
          rotate_left
          · (intro w hSw; (try dsimp only at hSw); go_simp)
            try (with_reducible rfl)
          rotate_left
          try simp (maxSteps := 4000000) only [Act.put, List.setIfInBounds_toArray, List.set_cons_zero, List.set_cons_succ, List.getElem_toArray, List.getElem_cons_zero, List.getElem_cons_succ]
          refine wpAnyH_take (i := 10) (v := ?_) rfl (by kernel_rfl) (by kernel_rfl) (by kernel_rfl) (fun _ _ _ h => h) (Or.inl ⟨by kernel_rfl, ?_⟩) (by assumption) ?_
          rotate_left
          · (intro w hSw; (try dsimp only at hSw); go_simp)
            try (with_reducible rfl)
          rotate_left
          try simp (maxSteps := 4000000) only [Act.put, List.setIfInBounds_toArray, List.set_cons_zero, List.set_cons_succ, List.getElem_toArray, List.getElem_cons_zero, List.getElem_cons_succ]
          refine wpAnyH_take (i := 11) (v := ?_) rfl (by kernel_rfl) (by kernel_rfl) (by kernel_rfl) (fun _ _ _ h => h) (Or.inl ⟨by kernel_rfl, ?_⟩) (by assumption) ?_
          rotate_left
          · (intro w hSw; (try dsimp only at hSw); go_simp)
            try (with_reducible rfl)
          rotate_left
          try simp (maxSteps := 4000000) only [Act.put, List.setIfInBounds_toArray, List.set_cons_zero, List.set_cons_succ, List.getElem_toArray, List.getElem_cons_zero, List.getElem_cons_succ]
          refine wpAnyH_take (i := 12) (v := ?_) rfl (by kernel_rfl) (by kernel_rfl) (by kernel_rfl) (fun _ _ _ h => h) (Or.inl ⟨by kernel_rfl, ?_⟩) (by assumption) ?_
          rotate_left
          · (intro w hSw; (try dsimp only at hSw); go_simp)
            try (with_reducible rfl)
          rotate_left
          try simp (maxSteps := 4000000) only [Act.put, List.setIfInBounds_toArray, List.set_cons_zero, List.set_cons_succ, List.getElem_toArray, List.getElem_cons_zero, List.getElem_cons_succ]
          refine wpAnyH_take (i := 13) (v := ?_) rfl (by kernel_rfl) (by kernel_rfl) (by kernel_rfl) (fun _ _ _ h => h) (Or.inl ⟨by kernel_rfl, ?_⟩) (by assumption) ?_
          rotate_left
          · (intro w hSw; (try dsimp only at hSw); go_simp)
            try (with_reducible rfl)
          rotate_left
          try simp (maxSteps := 4000000) only [Act.put, List.setIfInBounds_toArray, List.set_cons_zero, List.set_cons_succ, List.getElem_toArray, List.getElem_cons_zero, List.getElem_cons_succ]
          refine wpAnyH_done (by kernel_rfl) ?_ _
          go_wp2_with fail
          go_meet
          exact ⟨by first | rfl | simp, rfl⟩
        · obtain rfl : p.ln = n0 := by omega
          have h3I : ¬ (300 : Int) < (p.ln : Int) := by omega
          clear hn0 hn3 hncp
          have hle : p.ln ≤ p.cp := by have := HBS.out.2.1; omega
          have hleI : ((p.ln : Int) : Int) ≤ (p.cp : Int) := by omega
          refine wp_region_held_drew (S := fun w' => w'.cell? ⟨ab, ao + i * 4 + 2, none⟩ = some (.slice p.P p.ln p.cp)) (by kernel_rfl) ?_ (fun hHeld => ?_)
          · exact c2
          refine wpAnyH_take (i := 0) (v := ?_) rfl (by kernel_rfl) (by kernel_rfl) (by kernel_rfl) (fun _ _ _ h => h) (Or.inl ⟨by kernel_rfl, ?_⟩) (by assumption) ?_
          rotate_left
          · (intro w hSw; (try dsimp only at hSw); go_simp)
            try (with_reducible rfl)
          rotate_left
          try simp (maxSteps := 4000000) only [Act.put, List.setIfInBounds_toArray, List.set_cons_zero, List.set_cons_succ, List.getElem_toArray, List.getElem_cons_zero, List.getElem_cons_succ]
          refine wpAnyH_take (i := 1) (v := ?_) rfl (by kernel_rfl) (by kernel_rfl) (by kernel_rfl) (fun _ _ _ h => h) (Or.inl ⟨by kernel_rfl, ?_⟩) (by assumption) ?_
          rotate_left
          · (intro w hSw; (try dsimp only at hSw); go_simp)
            try (with_reducible rfl)
          rotate_left
          try simp (maxSteps := 4000000) only [Act.put, List.setIfInBounds_toArray, List.set_cons_zero, List.set_cons_succ, List.getElem_toArray, List.getElem_cons_zero, List.getElem_cons_succ]
          refine wpAnyH_take (i := 2) (v := ?_) rfl (by kernel_rfl) (by kernel_rfl) (by kernel_rfl) (fun _ _ _ h => h) (Or.inl ⟨by kernel_rfl, ?_⟩) (by assumption) ?_
          rotate_left
          · (intro w hSw; (try dsimp only at hSw); go_simp)
            try (with_reducible rfl)
          rotate_left
          try simp (maxSteps := 4000000) only [Act.put, List.setIfInBounds_toArray, List.set_cons_zero, List.set_cons_succ, List.getElem_toArray, List.getElem_cons_zero, List.getElem_cons_succ]
          refine wpAnyH_take (i := 3) (v := ?_) rfl (by kernel_rfl) (by kernel_rfl) (by kernel_rfl) (fun _ _ _ h => h) (Or.inl ⟨by kernel_rfl, ?_⟩) (by assumption) ?_
          rotate_left
          · (intro w hSw; (try dsimp only at hSw); go_simp)
            try (with_reducible rfl)
          rotate_left
          try simp (maxSteps := 4000000) only [Act.put, List.setIfInBounds_toArray, List.set_cons_zero, List.set_cons_succ, List.getElem_toArray, List.getElem_cons_zero, List.getElem_cons_succ]
          refine wpAnyH_take (i := 4) (v := ?_) rfl (by kernel_rfl) (by kernel_rfl) (by kernel_rfl) (fun _ _ _ h => h) (Or.inl ⟨by kernel_rfl, ?_⟩) (by assumption) ?_
          rotate_left
          · (intro w hSw; (try dsimp only at hSw); go_simp)
            try (with_reducible rfl)
          rotate_left
          try simp (maxSteps := 4000000) only [Act.put, List.setIfInBounds_toArray, List.set_cons_zero, List.set_cons_succ, List.getElem_toArray, List.getElem_cons_zero, List.getElem_cons_succ]
          refine wpAnyH_take (i := 5) (v := ?_) rfl (by kernel_rfl) (by kernel_rfl) (by kernel_rfl) (fun _ _ _ h => h) (Or.inl ⟨by kernel_rfl, ?_⟩) (by assumption) ?_
          rotate_left
          · (intro w hSw; (try dsimp only at hSw); go_simp)
            try (with_reducible rfl)
          rotate_left
          try simp (maxSteps := 4000000) only [Act.put, List.setIfInBounds_toArray, List.set_cons_zero, List.set_cons_succ, List.getElem_toArray, List.getElem_cons_zero, List.getElem_cons_succ]
          refine wpAnyH_take (i := 6) (v := ?_) rfl (by kernel_rfl) (by kernel_rfl) (by kernel_rfl) (fun _ _ _ h => h) (Or.inl ⟨by kernel_rfl, ?_⟩) (by assumption) ?_
          rotate_left
          · (intro w hSw; (try dsimp only at hSw); go_simp)
            try (with_reducible rfl)
          rotate_left
          try simp (maxSteps := 4000000) only [Act.put, List.setIfInBounds_toArray, List.set_cons_zero, List.set_cons_succ, List.getElem_toArray, List.getElem_cons_zero, List.getElem_cons_succ]
          refine wpAnyH_take (i := 7) (v := ?_) rfl (by kernel_rfl) (by kernel_rfl) (by kernel_rfl) (fun _ _ _ h => h) (Or.inl ⟨by kernel_rfl, ?_⟩) (by assumption) ?_
          rotate_left
          · (intro w hSw; (try dsimp only at hSw); go_simp)
            try (with_reducible rfl)
          rotate_left
          try simp (maxSteps := 4000000) only [Act.put, List.setIfInBounds_toArray, List.set_cons_zero, List.set_cons_succ, List.getElem_toArray, List.getElem_cons_zero, List.getElem_cons_succ]
          refine wpAnyH_take (i := 8) (v := ?_) rfl (by kernel_rfl) (by kernel_rfl) (by kernel_rfl) (fun _ _ _ h => h) (Or.inl ⟨by kernel_rfl, ?_⟩) (by assumption) ?_
          rotate_left
          · (intro w hSw; (try dsimp only at hSw); go_simp)
            try (with_reducible rfl)
          rotate_left
          try simp (maxSteps := 4000000) only [Act.put, List.setIfInBounds_toArray, List.set_cons_zero, List.set_cons_succ, List.getElem_toArray, List.getElem_cons_zero, List.getElem_cons_succ]
          refine wpAnyH_take (i := 9) (v := ?_) rfl (by kernel_rfl) (by kernel_rfl) (by kernel_rfl) (fun _ _ _ h => h) (Or.inl ⟨by kernel_rfl, ?_⟩) (by assumption) ?_
          rotate_left
          · (intro w hSw; (try dsimp only at hSw); go_simp)
            try (with_reducible rfl)
          rotate_left
          try simp (maxSteps := 4000000) only [Act.put, List.setIfInBounds_toArray, List.set_cons_zero, List.set_cons_succ, List.getElem_toArray, List.getElem_cons_zero, List.getElem_cons_succ]
          refine wpAnyH_take (i := 10) (v := ?_) rfl (by kernel_rfl) (by kernel_rfl) (by kernel_rfl) (fun _ _ _ h => h) (Or.inl ⟨by kernel_rfl, ?_⟩) (by assumption) ?_
          rotate_left
          · (intro w hSw; (try dsimp only at hSw); go_simp)
            try (with_reducible rfl)
          rotate_left
          try simp (maxSteps := 4000000) only [Act.put, List.setIfInBounds_toArray, List.set_cons_zero, List.set_cons_succ, List.getElem_toArray, List.getElem_cons_zero, List.getElem_cons_succ]
          refine wpAnyH_take (i := 11) (v := ?_) rfl (by kernel_rfl) (by kernel_rfl) (by kernel_rfl) (fun _ _ _ h => h) (Or.inl ⟨by kernel_rfl, ?_⟩) (by assumption) ?_
          rotate_left
          · (intro w hSw; (try dsimp only at hSw); go_simp)
            try (with_reducible rfl)
          rotate_left
          try simp (maxSteps := 4000000) only [Act.put, List.setIfInBounds_toArray, List.set_cons_zero, List.set_cons_succ, List.getElem_toArray, List.getElem_cons_zero, List.getElem_cons_succ]
          refine wpAnyH_take (i := 12) (v := ?_) rfl (by kernel_rfl) (by kernel_rfl) (by kernel_rfl) (fun _ _ _ h => h) (Or.inl ⟨by kernel_rfl, ?_⟩) (by assumption) ?_
          rotate_left
          · (intro w hSw; (try dsimp only at hSw); go_simp)
            try (with_reducible rfl)
          rotate_left
          try simp (maxSteps := 4000000) only [Act.put, List.setIfInBounds_toArray, List.set_cons_zero, List.set_cons_succ, List.getElem_toArray, List.getElem_cons_zero, List.getElem_cons_succ]
          refine wpAnyH_take (i := 13) (v := ?_) rfl (by kernel_rfl) (by kernel_rfl) (by kernel_rfl) (fun _ _ _ h => h) (Or.inl ⟨by kernel_rfl, ?_⟩) (by assumption) ?_
          rotate_left
          · (intro w hSw; (try dsimp only at hSw); go_simp)
            try (with_reducible rfl)
          rotate_left
          try simp (maxSteps := 4000000) only [Act.put, List.setIfInBounds_toArray, List.set_cons_zero, List.set_cons_succ, List.getElem_toArray, List.getElem_cons_zero, List.getElem_cons_succ]
          refine wpAnyH_done (by kernel_rfl) ?_ _
          go_wp2_with fail
          go_meet
          exact ⟨by first | rfl | simp, rfl⟩
      case rest =>
      obtain ⟨rfl, rfl⟩ := hcut
      have HP2 : Hid (PA W g M wr.drew c c) := Lib.hid (HP.out.below (Below.refl _ _).drew)
      clear HP
      have HBS2 : Hid (BS W p.P n0 p.cp p.d) := Lib.hid (HBS.out.less n0 (by omega))
      have hn0cp : n0 ≤ p.cp := HBS2.out.2.1
      have hpN := Lib.hid hn
      clear hn0 HBS
      have f15 := and15 p.w
      obtain ⟨kd, hkd⟩ : ∃ kd : Nat, p.w % 16 = (kd : Int) := ⟨(p.w % 16).toNat, by omega⟩
      rw [hkd] at f15
      obtain ⟨k5, hk5⟩ : ∃ k5 : Nat, kd % 5 = k5 := ⟨_, rfl⟩
      have fr : (kd : Int).tmod 5 = (k5 : Int) := by rw [Int.tmod_eq_emod_of_nonneg (by omega)]; omega
      have hk59 : k5 < 5 := by omega
      go_upto_block 2 with (fail)
      go_cut [6, 7, 8, 9] (fun v6 v7 v8 v9 wx => Hid (MEET W g M c v6 v7 v8 v9 wx))
      case first =>
        have hk5c : k5 = 0 ∨ k5 = 1 ∨ k5 = 2 ∨ k5 = 3 ∨ k5 = 4 := by omega
        clear hk59
        rcases hk5c with rfl | rfl | rfl | rfl | rfl
        ·
          as_aux_lemma =>
          obtain ⟨B, hB⟩ : ∃ B : Nat, p.n % 256 = B := ⟨_, rfl⟩
          have hBI : (p.n : Int) % 256 = (B : Int) := by omega
          have hB9 : B < 256 := by omega
          clear hB
          go_wp2_with fail
          with_reducible refine Calls.mono (pl_put W g M _ c HP2.out.pl a B ha9 hB9) ?_
          rintro e w2 ⟨rfl, hpl, hm⟩
          have HP3 := Lib.hid (HP2.out.next hpl hm)
          have c3b := ((HC0.out i p hp).keep hab0 HP3.out.wb).1.2.2.2
          have hab2 : ab < w2.heap.size := Nat.lt_of_lt_of_le hab0 HP3.out.wb.size
          have hbyte : BB M (w2.alloc (.cells #[.int .u8 (B : Int)] 5)) (some ⟨w2.heap.size, 0, none⟩) 1 (fun _ => B) := .inr ⟨w2.heap.size, 0, rfl, by have := HP3.out.lt; omega, by simp, fun i hi => by
            obtain rfl : i = 0 := by omega
            simp⟩
          have HBY := Lib.hid hbyte
          clear hpl hm c0 c1 c2 c3 HP2 hbyte
          go_wp2_with fail
          go_meet
          exact Lib.hid ⟨a, 1, 1, _, fun _ => B, true, rfl, rfl, rfl, rfl, by omega, by omega, HP3.out.below (alc0 _ _), HBY.out⟩
        ·
          as_aux_lemma =>
          obtain ⟨r, hr⟩ : ∃ r : Nat, 1024 - a = r := ⟨_, rfl⟩
          have hrI : (1024 : Int) - (a : Int) = (r : Int) := by omega
          have hr0 : 0 < r ∧ a + r = 1024 := by omega
          obtain ⟨hr0, hr1⟩ := hr0
          have HR1 := Lib.hid hr1
          clear hr hr1
          by_cases hb1 : r < n0
          · have hb1I : (r : Int) < (n0 : Int) := by omega
            have hrc : (r : Int) ≤ (p.cp : Int) := by omega
            have hX : decide (0 < r) = true := decide_eq_true hr0
            go_wp2_with fail
            with_reducible refine Calls.mono (pl_write W g M _ c p.d HP2.out.pl a r p.P p.cp (by have := HR1.out; omega) ha9 (HBS2.out.less r (by omega))) ?_
            rintro e w2 ⟨he, hpl, hm⟩
            rw [hX] at he
            subst he
            have HP3 := Lib.hid (HP2.out.next hpl hm)
            have hr0I : (0 : Int) < (r : Int) := by omega
            clear hpl hm c0 c1 c2 c3 HP2
            go_wp2_with fail
            go_meet
            exact Lib.hid ⟨a, r, p.cp, p.P, p.d, true, rfl, rfl, rfl, by first | rfl | simp [hr0], by have := HR1.out; omega, by omega, HP3.out, BB.of (HBS2.out.less r (by omega)) HP3.out.hM HP3.out.wb⟩
          · have hb1I : ¬ (r : Int) < (n0 : Int) := by omega
            obtain ⟨X, hX⟩ : ∃ X, decide (0 < n0) = X := ⟨_, rfl⟩
            go_wp2_with fail
            with_reducible refine Calls.mono (pl_write W g M _ c p.d HP2.out.pl a n0 p.P p.cp (by have := HR1.out; omega) ha9 HBS2.out) ?_
            rintro e w2 ⟨rfl, hpl, hm⟩
            have HP3 := Lib.hid (HP2.out.next hpl hm)
            clear hpl hm c0 c1 c2 c3 HP2
            go_wp2_with fail
            go_meet
            exact Lib.hid ⟨a, n0, p.cp, p.P, p.d, X, rfl, rfl, by first | rfl | simp [← hX], by first | rfl | simp [← hX], by have := HR1.out; omega, hn0cp, HP3.out, BB.of HBS2.out HP3.out.hM HP3.out.wb⟩
        ·
          as_aux_lemma =>
          obtain ⟨r, hr⟩ : ∃ r : Nat, 1024 - a = r := ⟨_, rfl⟩
          have hrI : (1024 : Int) - (a : Int) = (r : Int) := by omega
          obtain ⟨m, hm⟩ : ∃ m : Nat, p.n % 256 = m := ⟨_, rfl⟩
          have hmI : bits .and .u64 (p.n : Int) 255 = (m : Int) := by rw [u64_and255 p.n hn, hm]
          have hm9 : m < 256 := by omega
          obtain ⟨n, hn1⟩ : ∃ n : Nat, min m r = n := ⟨_, rfl⟩
          have hn2 : n ≤ 256 ∧ a + n ≤ 1024 := by omega
          have HN2 := Lib.hid hn2
          clear hr hm hn2
          go_upto_region 19 with (fail)
          go_cut [10] (fun v10 wx => v10 = .int .i64 (n : Int) ∧ wr.drew = wx)
          case first =>
            by_cases hb1 : r < m
            · have hb1I : (r : Int) < (m : Int) := by omega
              obtain rfl : r = n := by omega
              clear hn1
              go_wp2_with fail
              go_meet
              exact ⟨rfl, rfl⟩
            · have hb1I : ¬ (r : Int) < (m : Int) := by omega
              obtain rfl : m = n := by omega
              clear hn1
              go_wp2_with fail
              go_meet
              exact ⟨rfl, rfl⟩
          case rest =>
          obtain ⟨rfl, rfl⟩ := hcut
          clear hn1 hmI hrI hm9
          go_wp2_with fail
          with_reducible refine Calls.mono (pl_fill W g M _ c HP2.out.pl a n 7 HN2.out.2 ha9 (by decide)) ?_
          rintro e w2 ⟨rfl, hpl, hm⟩
          have HP3 := Lib.hid (HP2.out.next hpl hm)
          have hmk := mkN n (by have := HN2.out; omega) w2
          have hD0 : M < w2.heap.size := HP3.out.lt
          have HPN := Lib.hid (page_new w2 n 5 (fun _ => 7))
          have HB0 := Lib.hid (alc0 w2 (.cells (madeCells #[.int .u8 0] n) 5))
          clear hpl hm c0 c1 c2 c3 HP2
          go_wp2_with fail
          obtain ⟨D, hD⟩ : ∃ D, w2.heap.size = D := ⟨_, rfl⟩
          obtain ⟨w3, hw3⟩ : ∃ w3, w2.alloc (.cells (madeCells #[.int .u8 0] n) 5) = w3 := ⟨_, rfl⟩
          have HDD := Lib.hid hD
          rw [hw3] at HPN HB0 ⊢
          rw [hD] at HPN hD0 ⊢
          clear hw3 hD hmk
          obtain ⟨X, hX⟩ : ∃ X, decide (0 < n) = X := ⟨_, rfl⟩
          try rw [hX]
          have HXX := Lib.hid hX
          clear hX
          go_loopw [11] (fun v11 wl => ∃ k : Nat, k ≤ n ∧ v11 = .int .i64 k ∧ Hid (PGn D n wl (fun j => if j < k then 7 else 0)) ∧ Hid (Below w2.heap.size w2 wl)) (fun v11 _ => n - (intOf v11).toNat)
          case atStart => exact ⟨0, by omega, rfl, HPN, HB0⟩
          case round =>
            rename World => wl
            clear HPN HB0
            obtain ⟨k, hk, rfl, HPN, HB0⟩ := hrel
            by_cases hkn : k < n
            · have hkI : (k : Int) < (n : Int) := by omega
              have ca := HPN.out.2.1 k hkn
              have cf := HPN.out.2.2 k
              simp only [Nat.lt_irrefl, if_false] at ca
              have HPN2 := Lib.hid (page_step (d := fun _ => 7) HPN.out hkn 7 rfl)
              have HB2 : Hid (Below w2.heap.size w2 (wl.setCell ⟨D, k, none⟩ (.int .u8 ((7 : Nat) : Int)))) := Lib.hid (HB0.out.setCell (by show w2.heap.size ≤ D; rw [HDD.out]; exact Nat.le_refl _) _)
              have hk9 : k ≤ 256 := by have := HN2.out; omega
              clear HPN HB0
              go_wp2_with fail
              go_roundw
              case rel => exact ⟨k + 1, by omega, by go_num, HPN2, HB2⟩
              case measure => simp [intOf] <;> omega
            · obtain rfl : k = n := by omega
              have HPM : Hid (PGn D k wl (fun _ => 7)) := Lib.hid (HPN.out.congr (fun j hj => by rw [if_pos hj]))
              go_wp2_with fail
              go_meet
              exact Lib.hid ⟨a, k, k, _, fun _ => 7, X, rfl, rfl, rfl, rfl, HN2.out.2, Nat.le_refl _, HP3.out.below HB0.out, BB.page HPM.out (by omega) k⟩
        ·
          as_aux_lemma =>
          obtain ⟨a3, ha3, ha33⟩ : ∃ a3 : Nat, min a 1016 = a3 ∧ a3 ≤ 1016 := ⟨_, rfl, by omega⟩
          go_upto_region 27 with (fail)
          go_cut [6] (fun v6 wx => v6 = .int .i64 (a3 : Int) ∧ wr.drew = wx)
          case first =>
            by_cases hb1 : 1016 < a
            · have hb1I : (1016 : Int) < (a : Int) := by omega
              obtain rfl : 1016 = a3 := by omega
              go_wp2_with fail
              go_meet
              exact ⟨rfl, rfl⟩
            · have hb1I : ¬ (1016 : Int) < (a : Int) := by omega
              obtain rfl : a = a3 := by omega
              go_wp2_with fail
              go_meet
              exact ⟨rfl, rfl⟩
          case rest =>
          obtain ⟨rfl, rfl⟩ := hcut
          clear ha3
          go_wp2_with fail
          with_reducible refine Calls.mono (pl_set W g M _ c HP2.out.pl a3 p.n ha33 hn) ?_
          rintro e w2 ⟨rfl, hpl, hm⟩
          have HP3 := Lib.hid (HP2.out.next hpl hm)
          have hmk : (Instr.makeSlice 26 (.int .i64 8) (.int .i64 8)).run Try.prog w2 = .ok (.slice (some ⟨w2.heap.size, 0, none⟩) 8 8) (w2.alloc (.cells (madeCells #[.int .u8 0] 8) 5)) := mkN 8 (by decide) w2
          have hD0 : M < w2.heap.size := HP3.out.lt
          have HPN := Lib.hid (page_new w2 8 5 (wb p.n))
          have HB0 := Lib.hid (alc0 w2 (.cells (madeCells #[.int .u8 0] 8) 5))
          have c3b := (((HC0.out i p hp).keep hab0 HP3.out.wb).1.2.2.2)
          have hab2 : ab < w2.heap.size := Nat.lt_of_lt_of_le hab0 HP3.out.wb.size
          have c3c : (w2.alloc (.cells (madeCells #[.int .u8 0] 8) 5)).cell? ⟨ab, ao + i * 4 + 3, none⟩ = some (.int .u64 (p.n : Int)) := (HB0.out.cell (p := ⟨ab, ao + i * 4 + 3, none⟩) hab2).trans c3b
          clear hpl hm c0 c1 c2 c3 HP2 c3b
          go_wp2_with fail
          obtain ⟨D, hD⟩ : ∃ D, w2.heap.size = D := ⟨_, rfl⟩
          obtain ⟨w3, hw3⟩ : ∃ w3, w2.alloc (.cells (madeCells #[.int .u8 0] 8) 5) = w3 := ⟨_, rfl⟩
          have HDD := Lib.hid hD
          rw [hw3] at HPN HB0 ⊢
          rw [hD] at HPN hD0 hab2 ⊢
          clear hw3 hD hmk c3c
          go_loopw [12, 13] (fun v12 v13 wl => ∃ (k x : Nat), k ≤ 8 ∧ v13 = .int .i64 k ∧ v12 = .int .u64 (x : Int) ∧ Hid (x = p.n / 2 ^ (8 * k)) ∧ Hid (PGn D 8 wl (fun j => if j < k then wb p.n j else 0)) ∧ Hid (Below w2.heap.size w2 wl)) (fun _ v13 _ => 8 - (intOf v13).toNat)
          case atStart => exact ⟨0, p.n, by omega, rfl, rfl, Lib.hid (by simp), HPN, HB0⟩
          case round =>
            rename World => wl
            clear HPN HB0
            obtain ⟨k, x, hk, rfl, rfl, HXQ, HPN, HB0⟩ := hrel
            by_cases hkn : k < 8
            · have hkI : (k : Int) < 8 := by omega
              have ca := HPN.out.2.1 k hkn
              have cf := HPN.out.2.2 k
              simp only [Nat.lt_irrefl, if_false] at ca
              obtain ⟨y, hy⟩ : ∃ y : Nat, x % 256 = y := ⟨_, rfl⟩
              obtain ⟨z, hz⟩ : ∃ z : Nat, x / 256 = z := ⟨_, rfl⟩
              have hy1 : (x : Int) % 256 = (y : Int) := by omega
              have hy2 : (x : Int).tmod 256 = (y : Int) := by rw [Int.tmod_eq_emod_of_nonneg (by omega)]; omega
              have hz1 : (x : Int) / 256 = (z : Int) := by omega
              have hz2 : (x : Int).tdiv 256 = (z : Int) := by rw [Int.tdiv_eq_ediv_of_nonneg (by omega)]; omega
              have hy9 : y < 256 := by omega
              have HPN2 := Lib.hid (page_step (d := wb p.n) HPN.out hkn y (by rw [← hy, HXQ.out, wb]))
              have HB2 : Hid (Below w2.heap.size w2 (wl.setCell ⟨D, k, none⟩ (.int .u8 (y : Int)))) := Lib.hid (HB0.out.setCell (by show w2.heap.size ≤ D; rw [HDD.out]; exact Nat.le_refl _) _)
              have HXQ2 : Hid (z = p.n / 2 ^ (8 * (k + 1))) := Lib.hid (by rw [← hz, HXQ.out, Nat.div_div_eq_div_mul, show 8 * (k + 1) = 8 * k + 8 by omega, Nat.pow_add])
              have hx64 : x < 18446744073709551616 := by rw [HXQ.out]; exact Nat.lt_of_le_of_lt (Nat.div_le_self _ _) hn
              clear HPN HB0 hy hz HXQ
              go_wp2_with fail
              go_roundw
              case rel => exact ⟨k + 1, z, by omega, by go_num, rfl, HXQ2, HPN2, HB2⟩
              case measure => simp [intOf] <;> omega
            · obtain rfl : k = 8 := by omega
              have HPM : Hid (PGn D 8 wl (wb p.n)) := Lib.hid (HPN.out.congr (fun j hj => by rw [if_pos hj]))
              have HP4 := Lib.hid (HP3.out.below HB0.out)
              have c3d : wl.cell? ⟨ab, ao + i * 4 + 3, none⟩ = some (.int .u64 (p.n : Int)) := ((HC0.out i p hp).keep hab0 HP4.out.wb).1.2.2.2
              have hab3 : ab < wl.heap.size := Nat.lt_of_lt_of_le hab0 HP4.out.wb.size
              clear HPN HB0 HP3 HXQ
              go_upto_region 36 with (fail)
              refine wp_region_held_drew (S := fun w' => w'.cell? ⟨ab, ao + i * 4 + 3, none⟩ = some (.int .u64 (p.n : Int)) ∧ Hid (PA W g M w' (over c a3 8 (wb p.n)) c) ∧ Hid (PGn D 8 w' (wb p.n))) (by kernel_rfl) ?_ (fun hHeld => ?_)
              · exact ⟨c3d, Lib.hid HP4.out.drew, Lib.hid HPM.out.drew⟩
              clear c3d HP4 HPM
              refine wpAnyH_take (i := 0) (v := ?_) rfl (by kernel_rfl) (by kernel_rfl) (by kernel_rfl) (fun _ _ _ h => h) (Or.inl ⟨by kernel_rfl, ?_⟩) (by assumption) ?_
              rotate_left
              · (intro w hSw; (try dsimp only at hSw); go_simp)
                try (with_reducible rfl)
              rotate_left
              try simp (maxSteps := 4000000) only [Act.put, List.setIfInBounds_toArray, List.set_cons_zero, List.set_cons_succ, List.getElem_toArray, List.getElem_cons_zero, List.getElem_cons_succ]
              refine wpAnyH_take (i := 1) (v := ?_) rfl (by kernel_rfl) (by kernel_rfl) (by kernel_rfl) (fun _ _ _ h => h) (Or.inl ⟨by kernel_rfl, ?_⟩) (by assumption) ?_
              rotate_left
              · (intro w hSw; (try dsimp only at hSw); go_simp)
                try (with_reducible rfl)
              rotate_left
              try simp (maxSteps := 4000000) only [Act.put, List.setIfInBounds_toArray, List.set_cons_zero, List.set_cons_succ, List.getElem_toArray, List.getElem_cons_zero, List.getElem_cons_succ]
              refine wpAnyH_take (i := 3) (v := ?_) rfl (by kernel_rfl) (by kernel_rfl) (by kernel_rfl) (fun _ _ _ h => h) (Or.inl ⟨by kernel_rfl, ?_⟩) (by assumption) ?_
              rotate_left
              · (intro w hSw; (try dsimp only at hSw); go_simp)
                try (with_reducible rfl)
              rotate_left
              try simp (maxSteps := 4000000) only [Act.put, List.setIfInBounds_toArray, List.set_cons_zero, List.set_cons_succ, List.getElem_toArray, List.getElem_cons_zero, List.getElem_cons_succ]
              refine wpAnyH_take (i := 4) (v := ?_) rfl (by kernel_rfl) (by kernel_rfl) (by kernel_rfl) (fun _ _ _ h => h) (Or.inl ⟨by kernel_rfl, ?_⟩) (by assumption) ?_
              rotate_left
              · (intro w hSw; (try dsimp only at hSw); go_simp)
                try (with_reducible rfl)
              rotate_left
              try simp (maxSteps := 4000000) only [Act.put, List.setIfInBounds_toArray, List.set_cons_zero, List.set_cons_succ, List.getElem_toArray, List.getElem_cons_zero, List.getElem_cons_succ]
              refine wpAnyH_take (i := 5) (v := ?_) rfl (by kernel_rfl) (by kernel_rfl) (by kernel_rfl) (fun _ _ _ h => h) (Or.inl ⟨by kernel_rfl, ?_⟩) (by assumption) ?_
              rotate_left
              · (intro w hSw; (try dsimp only at hSw); go_simp)
                try (with_reducible rfl)
              rotate_left
              try simp (maxSteps := 4000000) only [Act.put, List.setIfInBounds_toArray, List.set_cons_zero, List.set_cons_succ, List.getElem_toArray, List.getElem_cons_zero, List.getElem_cons_succ]
              refine wpAnyH_take (i := 6) (v := ?_) rfl (by kernel_rfl) (by kernel_rfl) (by kernel_rfl) (fun _ _ _ h => h) (Or.inl ⟨by kernel_rfl, ?_⟩) (by assumption) ?_
              rotate_left
              · (intro w hSw; (try dsimp only at hSw); go_simp)
                try (with_reducible rfl)
              rotate_left
              try simp (maxSteps := 4000000) only [Act.put, List.setIfInBounds_toArray, List.set_cons_zero, List.set_cons_succ, List.getElem_toArray, List.getElem_cons_zero, List.getElem_cons_succ]
              refine wpAnyH_take (i := 7) (v := ?_) rfl (by kernel_rfl) (by kernel_rfl) (by kernel_rfl) (fun _ _ _ h => h) (Or.inl ⟨by kernel_rfl, ?_⟩) (by assumption) ?_
              rotate_left
              · (intro w hSw; (try dsimp only at hSw); go_simp)
                try (with_reducible rfl)
              rotate_left
              try simp (maxSteps := 4000000) only [Act.put, List.setIfInBounds_toArray, List.set_cons_zero, List.set_cons_succ, List.getElem_toArray, List.getElem_cons_zero, List.getElem_cons_succ]
              refine wpAnyH_ready (rs := [2]) (by kernel_rfl) (by simp) ?_
              refine AllReadyH.cons rfl (fun K2 hK2 => ?_) AllReadyH.nil
              go_simp
              have hw : Calls Try.prog 10 #[.pointer (some ⟨g, 0, none⟩), .int .i64 (a3 : Int)] wl.drew fun e w' => e = .returned (.int .u64 (p.n : Int)) ∧ Below wl.drew.heap.size wl.drew w' := by
                have h := sword_yes W.heap.size g wl.drew _ hHeld.2.1.out.st hHeld.2.1.out.c256 a3 (by omega)
                rw [wn_over c a3 p.n hn] at h
                exact h
              have HWD := Lib.hid hw
              clear hw
              with_reducible refine Calls.mono HWD.out ?_
              rintro e w5 ⟨rfl, hb⟩
              refine hK2.out _ _ ?_ (fun hHeld2 => ?_)
              · exact ⟨(hb.cell (p := ⟨ab, ao + i * 4 + 3, none⟩) hab3).trans hHeld.1, Lib.hid (hHeld.2.1.out.below hb), Lib.hid (hHeld.2.2.out.keep hb.size (hb.block D hHeld.2.2.out.1))⟩
              clear hb HWD
              clear hK2 K2 hHeld
              have hHeld := hHeld2
              clear hHeld2
              try simp (maxSteps := 4000000) only [Act.put, List.setIfInBounds_toArray, List.set_cons_zero, List.set_cons_succ]
              refine wpAnyH_take (i := 8) (v := ?_) rfl (by kernel_rfl) (by kernel_rfl) (by kernel_rfl) (fun _ _ _ h => h) (Or.inl ⟨by kernel_rfl, ?_⟩) (by assumption) ?_
              rotate_left
              · (intro w hSw; (try dsimp only at hSw); go_simp)
                try (with_reducible rfl)
              rotate_left
              try simp (maxSteps := 4000000) only [Act.put, List.setIfInBounds_toArray, List.set_cons_zero, List.set_cons_succ, List.getElem_toArray, List.getElem_cons_zero, List.getElem_cons_succ]
              refine wpAnyH_done (by kernel_rfl) ?_ _
              go_wp2_with fail
              go_meet
              exact Lib.hid ⟨a3, 8, 8, _, wb p.n, true, rfl, rfl, rfl, rfl, by omega, by omega, hHeld.2.1.out, BB.page hHeld.2.2.out (by omega) 8⟩
        ·
          as_aux_lemma =>
          obtain ⟨P, hP⟩ : ∃ P : Nat, a / 256 = P := ⟨_, rfl⟩
          have hP4 : P < 4 := by omega
          have hPI : (a : Int) / 256 = (P : Int) := by omega
          have hPT : (a : Int).tdiv 256 = (P : Int) := by rw [Int.tdiv_eq_ediv_of_nonneg (by omega)]; omega
          obtain ⟨Q, hQ⟩ : ∃ Q : Nat, P * 256 = Q := ⟨_, rfl⟩
          have hQI : (P : Int) * 256 = (Q : Int) := by omega
          have HQ := Lib.hid hQ
          clear hP hQ
          go_wp2_with fail
          with_reducible refine Calls.mono (pl_drop W g M _ c HP2.out.pl P hP4) ?_
          rintro e w2 ⟨rfl, hpl, hm⟩
          rw [HQ.out] at hpl
          have HP3 := Lib.hid (HP2.out.next hpl hm)
          have hD0 : M < w2.heap.size := HP3.out.lt
          clear hpl hm c0 c1 c2 c3 HP2
          have hPw : IntKind.i64.wrap (P : Int) = (P : Int) := by rw [IntKind.wrap_i64]; omega
          have hQw : IntKind.i64.wrap (Q : Int) = (Q : Int) := by rw [IntKind.wrap_i64]; omega
          go_upto_region 10 with (fail)
          refine wp_region_held_drew (S := fun w' => Hid (PA W g M w' (over c Q 256 (fun _ => 0)) c)) (by kernel_rfl) ?_ (fun hHeld => ?_)
          · exact Lib.hid HP3.out.drew
          have hmk : ∀ w, (Instr.makeSlice 26 (.int .i64 256) (.int .i64 256)).run Try.prog w = .ok (.slice (some ⟨w.heap.size, 0, none⟩) 256 256) (w.alloc (.cells (madeCells #[.int .u8 0] 256) 5)) := fun w => mkN 256 (by decide) w
          refine wpAnyH_take (i := 0) (v := ?_) rfl (by kernel_rfl) (by kernel_rfl) (by kernel_rfl) (fun _ _ _ h => h) (Or.inl ⟨by kernel_rfl, ?_⟩) (by assumption) ?_
          rotate_left
          · (intro w hSw; (try dsimp only at hSw); go_simp)
            try (with_reducible rfl)
          rotate_left
          try simp (maxSteps := 4000000) only [Act.put, List.setIfInBounds_toArray, List.set_cons_zero, List.set_cons_succ, List.getElem_toArray, List.getElem_cons_zero, List.getElem_cons_succ]
          refine wpAnyH_take (i := 1) (v := ?_) rfl (by kernel_rfl) (by kernel_rfl) (by kernel_rfl) (fun _ _ _ h => h) (Or.inl ⟨by kernel_rfl, ?_⟩) (by assumption) ?_
          rotate_left
          · (intro w hSw; (try dsimp only at hSw); go_simp)
            try (with_reducible rfl)
          rotate_left
          try simp (maxSteps := 4000000) only [Act.put, List.setIfInBounds_toArray, List.set_cons_zero, List.set_cons_succ, List.getElem_toArray, List.getElem_cons_zero, List.getElem_cons_succ]
          refine wpAnyH_take (i := 2) (v := ?_) rfl (by kernel_rfl) (by kernel_rfl) (by kernel_rfl) (fun _ _ _ h => h) (Or.inl ⟨by kernel_rfl, ?_⟩) (by assumption) ?_
          rotate_left
          · (intro w hSw; (try dsimp only at hSw); go_simp)
            try (with_reducible rfl)
          rotate_left
          try simp (maxSteps := 4000000) only [Act.put, List.setIfInBounds_toArray, List.set_cons_zero, List.set_cons_succ, List.getElem_toArray, List.getElem_cons_zero, List.getElem_cons_succ]
          refine wpAnyH_take (i := 4) (v := ?_) rfl (by kernel_rfl) (by kernel_rfl) (by kernel_rfl) (fun _ _ _ h => h) (Or.inl ⟨by kernel_rfl, ?_⟩) (by assumption) ?_
          rotate_left
          · (intro w hSw; (try dsimp only at hSw); go_simp)
            try (with_reducible rfl)
          rotate_left
          try simp (maxSteps := 4000000) only [Act.put, List.setIfInBounds_toArray, List.set_cons_zero, List.set_cons_succ, List.getElem_toArray, List.getElem_cons_zero, List.getElem_cons_succ]
          refine wpAnyH_ready (rs := [3]) (by kernel_rfl) (by simp) ?_
          refine AllReadyH.cons rfl (fun K2 hK2 => ?_) AllReadyH.nil
          go_simp
          try rw [Oper.upon_value]
          have HPN := Lib.hid (page_new w2.drew 256 5 (fun _ => 0))
          have HB0 := Lib.hid (alc0 w2.drew (.cells (madeCells #[.int .u8 0] 256) 5))
          clear hmk
          refine hK2.out _ _ ?_ (fun hHeld2 => ?_)
          · exact Lib.hid (hHeld.out.below HB0.out)
          clear hK2 K2 hHeld
          have hHeld := hHeld2
          clear hHeld2
          try simp (maxSteps := 4000000) only [Act.put, List.setIfInBounds_toArray, List.set_cons_zero, List.set_cons_succ]
          refine wpAnyH_take (i := 5) (v := ?_) rfl (by kernel_rfl) (by kernel_rfl) (by kernel_rfl) (fun _ _ _ h => h) (Or.inl ⟨by kernel_rfl, ?_⟩) (by assumption) ?_
          rotate_left
          · (intro w hSw; (try dsimp only at hSw); go_simp)
            try (with_reducible rfl)
          rotate_left
          try simp (maxSteps := 4000000) only [Act.put, List.setIfInBounds_toArray, List.set_cons_zero, List.set_cons_succ, List.getElem_toArray, List.getElem_cons_zero, List.getElem_cons_succ]
          refine wpAnyH_done (by kernel_rfl) ?_ _
          go_wp2_with fail
          go_meet
          exact Lib.hid ⟨Q, 256, 256, _, fun _ => 0, true, rfl, rfl, rfl, rfl, by have := HQ.out; omega, by omega, hHeld.out, BB.page (HPN.out.congr (f' := fun _ => 0) (fun j hj => by simp)) (by show w2.heap.size ≠ M; omega) 256⟩
      case rest =>
        as_aux_lemma =>
        obtain ⟨a2, n2, cp2, A2, d2, X, rfl, rfl, rfl, rfl, han, hnc, hpq, hbb⟩ := hcut.out
        have HP5 := Lib.hid hpq
        have HB5 := Lib.hid hbb
        clear hpq hbb hcut HP2 c0 c1 c2 c3 f1 f15 fr
        go_wp2_with fail
        go_loopw [14] (fun v14 wl => ∃ k : Nat, k ≤ n2 ∧ v14 = .int .i64 k ∧ Hid (PA W g M wl (over c a2 n2 d2) (over c a2 k d2)) ∧ Hid (BB M wl A2 n2 d2)) (fun v14 _ => n2 - (intOf v14).toNat)
        case atStart => exact ⟨0, by omega, rfl, by rw [over_zero]; exact HP5, HB5⟩
        case round =>
          rename World => wl
          clear HP5 HB5
          obtain ⟨k, hk, rfl, HP5, HB5⟩ := hrel
          by_cases hkn : k < n2
          · have hkI : (k : Int) < (n2 : Int) := by omega
            rcases HB5.out with h0 | ⟨sb, so, rfl, h1, h2, h3⟩
            · omega
            have cb := h3 k hkn
            obtain ⟨q, hq⟩ : ∃ q : Nat, a2 + k = q := ⟨_, rfl⟩
            have hqI : (a2 : Int) + (k : Int) = (q : Int) := by omega
            have hq9 : q < 1024 := by omega
            have cm := HP5.out.cell q hq9
            have cf := HP5.out.frozen q
            have hML := HP5.out.lt
            have HP6 : Hid (PA W g M (wl.setCell ⟨M, q, none⟩ (.int .u8 (d2 k : Int))) (over c a2 n2 d2) (over c a2 (k + 1) d2)) := Lib.hid (by
              have h := HP5.out.set q (d2 k) hq9
              rw [← hq, over_step c a2 n2 k d2 hkn, hq] at h
              exact h)
            have HB6 : Hid (BB M (wl.setCell ⟨M, q, none⟩ (.int .u8 (d2 k : Int))) (some ⟨sb, so, none⟩) n2 d2) := Lib.hid (HB5.out.set _ _)
            clear HP5 HB5 h3 hq
            go_wp2_with fail
            go_roundw
            case rel => exact ⟨k + 1, by omega, by go_num, HP6, HB6⟩
            case measure => simp [intOf] <;> omega
          · obtain rfl : k = n2 := by omega
            go_wp2_with fail
            go_roundw
            case rel =>
              exact ⟨i + 1, by omega, by omega, by go_num, _, HP5⟩
            case measure => simp [intOf] <;> omega
    · as_aux_lemma =>
      clear HA
      have hstop : ¬ ((i : Int) < (L : Int)) ∨ ((i : Int) < (L : Int) ∧ ¬ ((i : Int) < 40)) := by omega
      clear hgo
      have hrd : Calls Try.prog 12 #[.pointer (some ⟨g, 0, none⟩), .int .i64 0, .int .i64 1024] wr fun e w' => (∃ D, e = .returned (.slice (some ⟨D, 0, none⟩) 1024 1024) ∧ wr.heap.size ≤ D ∧ PGn D 1024 w' (fun j => c (0 + j))) ∧ Below wr.heap.size wr w' := sread_yes W.heap.size g wr c HP.out.st 0 1024 (by decide) (by decide)
      have HRD := Lib.hid hrd
      clear hrd
      rcases hstop with h | ⟨h, h'⟩
      all_goals
        go_wp2_with fail
        with_reducible refine Calls.mono HRD.out ?_
        rintro e w2 ⟨⟨D, rfl, hD, hp⟩, hb⟩
        have HP2 := Lib.hid (HP.out.below hb)
        have HD := Lib.hid hp
        clear hD hp hb HRD HP
        go_upto_region 45 with (fail)
        refine wp_region_held_drew (S := fun w' => Hid (PA W g M w' c c) ∧ Hid (PGn D 1024 w' (fun j => c (0 + j)))) (by kernel_rfl) ?_ (fun hHeld => ?_)
        · exact ⟨Lib.hid HP2.out.drew, Lib.hid HD.out.drew⟩
        have HTAKE := Lib.hid (fun w' (h : Hid (PA W g M w' c c) ∧ Hid (PGn D 1024 w' (fun j => c (0 + j)))) => (⟨conv_of w' D 0 1024 1024 c (fun j hj => by rw [Nat.zero_add, h.2.out.2.1 j hj]; simp), conv_of w' M 0 1024 1024 c (fun j hj => by rw [Nat.zero_add]; exact h.1.out.cell j hj)⟩ : (convert 26 9 (.slice (some ⟨D, 0, none⟩) 1024 1024)).run Try.prog w' = .ok (.string (sof c 1024)) w' ∧ (convert 26 9 (.slice (some ⟨M, 0, none⟩) 1024 1024)).run Try.prog w' = .ok (.string (sof c 1024)) w'))
        refine wpAnyH_ready (rs := [0]) (by kernel_rfl) (by simp) ?_
        refine AllReadyH.cons rfl (fun K2 hK2 => ?_) AllReadyH.nil
        go_simp
        with_reducible refine Calls.mono (awake_ok _) ?_
        rintro e w3 ⟨rfl, hb⟩
        refine hK2.out _ _ ?_ (fun hHeld2 => ?_)
        · exact ⟨Lib.hid (hHeld.1.out.below hb), Lib.hid (hHeld.2.out.keep hb.size (hb.block D hHeld.2.out.1))⟩
        clear hb
        clear hK2 K2 hHeld
        have hHeld := hHeld2
        clear hHeld2
        try simp (maxSteps := 4000000) only [Act.put, List.setIfInBounds_toArray, List.set_cons_zero, List.set_cons_succ]
        refine wpAnyH_take (i := 1) (v := ?_) rfl (by kernel_rfl) (by kernel_rfl) (by kernel_rfl) (fun _ _ _ h => h) (Or.inl ⟨by kernel_rfl, ?_⟩) (by assumption) ?_
        rotate_left
        · (intro w hSw; (try dsimp only at hSw); (try have hTk := Hid.out HTAKE _ hSw); go_simp)
          try (with_reducible rfl)
        rotate_left
        try simp (maxSteps := 4000000) only [Act.put, List.setIfInBounds_toArray, List.set_cons_zero, List.set_cons_succ, List.getElem_toArray, List.getElem_cons_zero, List.getElem_cons_succ]
        refine wpAnyH_take (i := 2) (v := ?_) rfl (by kernel_rfl) (by kernel_rfl) (by kernel_rfl) (fun _ _ _ h => h) (Or.inl ⟨by kernel_rfl, ?_⟩) (by assumption) ?_
        rotate_left
        · (intro w hSw; (try dsimp only at hSw); (try have hTk := Hid.out HTAKE _ hSw); go_simp)
          try (with_reducible rfl)
        rotate_left
        try simp (maxSteps := 4000000) only [Act.put, List.setIfInBounds_toArray, List.set_cons_zero, List.set_cons_succ, List.getElem_toArray, List.getElem_cons_zero, List.getElem_cons_succ]
        refine wpAnyH_take (i := 3) (v := ?_) rfl (by kernel_rfl) (by kernel_rfl) (by kernel_rfl) (fun _ _ _ h => h) (Or.inl ⟨by kernel_rfl, ?_⟩) (by assumption) ?_
        rotate_left
        · (intro w hSw; (try dsimp only at hSw); (try have hTk := Hid.out HTAKE _ hSw); go_simp)
          try (with_reducible rfl)
        rotate_left
        try simp (maxSteps := 4000000) only [Act.put, List.setIfInBounds_toArray, List.set_cons_zero, List.set_cons_succ, List.getElem_toArray, List.getElem_cons_zero, List.getElem_cons_succ]
        refine wpAnyH_take (i := 4) (v := ?_) rfl (by kernel_rfl) (by kernel_rfl) (by kernel_rfl) (fun _ _ _ h => h) (Or.inl ⟨by kernel_rfl, ?_⟩) (by assumption) ?_
        rotate_left
        · (intro w hSw; (try dsimp only at hSw); (try have hTk := Hid.out HTAKE _ hSw); go_simp)
          try (with_reducible rfl)
        rotate_left
        try simp (maxSteps := 4000000) only [Act.put, List.setIfInBounds_toArray, List.set_cons_zero, List.set_cons_succ, List.getElem_toArray, List.getElem_cons_zero, List.getElem_cons_succ]
        refine wpAnyH_take (i := 5) (v := ?_) rfl (by kernel_rfl) (by kernel_rfl) (by kernel_rfl) (fun _ _ _ h => h) (Or.inl ⟨by kernel_rfl, ?_⟩) (by assumption) ?_
        rotate_left
        · (intro w hSw; (try dsimp only at hSw); (try have hTk := Hid.out HTAKE _ hSw); go_simp)
          try (with_reducible rfl)
        rotate_left
        try simp (maxSteps := 4000000) only [Act.put, List.setIfInBounds_toArray, List.set_cons_zero, List.set_cons_succ, List.getElem_toArray, List.getElem_cons_zero, List.getElem_cons_succ]
        refine wpAnyH_take (i := 6) (v := ?_) rfl (by kernel_rfl) (by kernel_rfl) (by kernel_rfl) (fun _ _ _ h => h) (Or.inl ⟨by kernel_rfl, ?_⟩) (by assumption) ?_
        rotate_left
        · (intro w hSw; (try dsimp only at hSw); (try have hTk := Hid.out HTAKE _ hSw); go_simp)
          try (with_reducible rfl)
        rotate_left
        try simp (maxSteps := 4000000) only [Act.put, List.setIfInBounds_toArray, List.set_cons_zero, List.set_cons_succ, List.getElem_toArray, List.getElem_cons_zero, List.getElem_cons_succ]
        refine wpAnyH_take (i := 7) (v := ?_) rfl (by kernel_rfl) (by kernel_rfl) (by kernel_rfl) (fun _ _ _ h => h) (Or.inl ⟨by kernel_rfl, ?_⟩) (by assumption) ?_
        rotate_left
        · (intro w hSw; (try dsimp only at hSw); (try have hTk := Hid.out HTAKE _ hSw); go_simp)
          try (with_reducible rfl)
        rotate_left
        try simp (maxSteps := 4000000) only [Act.put, List.setIfInBounds_toArray, List.set_cons_zero, List.set_cons_succ, List.getElem_toArray, List.getElem_cons_zero, List.getElem_cons_succ]
        refine wpAnyH_take (i := 8) (v := ?_) rfl (by kernel_rfl) (by kernel_rfl) (by kernel_rfl) (fun _ _ _ h => h) (Or.inl ⟨by kernel_rfl, ?_⟩) (by assumption) ?_
        rotate_left
        · (intro w hSw; (try dsimp only at hSw); (try have hTk := Hid.out HTAKE _ hSw); go_simp)
          try (with_reducible rfl)
        rotate_left
        try simp (maxSteps := 4000000) only [Act.put, List.setIfInBounds_toArray, List.set_cons_zero, List.set_cons_succ, List.getElem_toArray, List.getElem_cons_zero, List.getElem_cons_succ]
        refine wpAnyH_take (i := 9) (v := ?_) rfl (by kernel_rfl) (by kernel_rfl) (by kernel_rfl) (fun _ _ _ h => h) (Or.inl ⟨by kernel_rfl, ?_⟩) (by assumption) ?_
        rotate_left
        · (intro w hSw; (try dsimp only at hSw); (try have hTk := Hid.out HTAKE _ hSw); go_simp)
          try (with_reducible rfl)
        rotate_left
        try simp (maxSteps := 4000000) only [Act.put, List.setIfInBounds_toArray, List.set_cons_zero, List.set_cons_succ, List.getElem_toArray, List.getElem_cons_zero, List.getElem_cons_succ]
        refine wpAnyH_ready (rs := [10]) (by kernel_rfl) (by simp) ?_
        refine AllReadyH.cons rfl (fun K2 hK2 => ?_) AllReadyH.nil
        go_simp
        have hg : Calls Try.prog 14 #[.pointer (some ⟨g, 0, none⟩), .int .i64 1024] w3 fun e w' => e = .returned (.int .u8 0) ∧ Below w3.heap.size w3 w' := by
          have h := sget_yes W.heap.size g w3 c hHeld.1.out.st 1024 (by decide)
          rw [hHeld.1.out.c0 1024 (Nat.le_refl _)] at h
          exact h
        have HG := Lib.hid hg
        clear hg
        with_reducible refine Calls.mono HG.out ?_
        rintro e w4 ⟨rfl, hb⟩
        refine hK2.out _ _ ?_ (fun hHeld2 => ?_)
        · exact ⟨Lib.hid (hHeld.1.out.below hb), Lib.hid (hHeld.2.out.keep hb.size (hb.block D hHeld.2.out.1))⟩
        clear hb HG
        clear hK2 K2 hHeld
        have hHeld := hHeld2
        clear hHeld2
        try simp (maxSteps := 4000000) only [Act.put, List.setIfInBounds_toArray, List.set_cons_zero, List.set_cons_succ]
        refine wpAnyH_take (i := 11) (v := ?_) rfl (by kernel_rfl) (by kernel_rfl) (by kernel_rfl) (fun _ _ _ h => h) (Or.inl ⟨by kernel_rfl, ?_⟩) (by assumption) ?_
        rotate_left
        · (intro w hSw; (try dsimp only at hSw); (try have hTk := Hid.out HTAKE _ hSw); go_simp)
          try (with_reducible rfl)
        rotate_left
        try simp (maxSteps := 4000000) only [Act.put, List.setIfInBounds_toArray, List.set_cons_zero, List.set_cons_succ, List.getElem_toArray, List.getElem_cons_zero, List.getElem_cons_succ]
        refine wpAnyH_take (i := 12) (v := ?_) rfl (by kernel_rfl) (by kernel_rfl) (by kernel_rfl) (fun _ _ _ h => h) (Or.inl ⟨by kernel_rfl, ?_⟩) (by assumption) ?_
        rotate_left
        · (intro w hSw; (try dsimp only at hSw); (try have hTk := Hid.out HTAKE _ hSw); go_simp)
          try (with_reducible rfl)
        rotate_left
        try simp (maxSteps := 4000000) only [Act.put, List.setIfInBounds_toArray, List.set_cons_zero, List.set_cons_succ, List.getElem_toArray, List.getElem_cons_zero, List.getElem_cons_succ]
        refine wpAnyH_take (i := 13) (v := ?_) rfl (by kernel_rfl) (by kernel_rfl) (by kernel_rfl) (fun _ _ _ h => h) (Or.inl ⟨by kernel_rfl, ?_⟩) (by assumption) ?_
        rotate_left
        · (intro w hSw; (try dsimp only at hSw); (try have hTk := Hid.out HTAKE _ hSw); go_simp)
          try (with_reducible rfl)
        rotate_left
        try simp (maxSteps := 4000000) only [Act.put, List.setIfInBounds_toArray, List.set_cons_zero, List.set_cons_succ, List.getElem_toArray, List.getElem_cons_zero, List.getElem_cons_succ]
        refine wpAnyH_done (by kernel_rfl) ?_ _
        go_wp2
        try go_ret
        exact ⟨by first | rfl | simp, hHeld.1.out.wb⟩
end Go.Proofs.Ytodekehpaoahnaa
