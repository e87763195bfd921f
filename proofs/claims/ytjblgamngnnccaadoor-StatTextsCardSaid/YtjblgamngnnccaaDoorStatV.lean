/- StatTexts' walk. -/
import Derived.Test.YtjblgamngnnccaaDoorStatU
import Derived.Test.YtjblgamngnnccaaDoorStatW
import Derived.Deep.RegionHeld3
namespace Go.Proofs.YtjblgamngnnccaaDoor
open Go.RowKit
set_option linter.unusedVariables false
set_option linter.unusedSimpArgs false

theorem mk16 (x : Int) : ∃ X : Int, bits .and .i64 x 65535 = X ∧ 0 ≤ X ∧ X ≤ 65535 := ⟨x % 65536, i64_mask x 16 (by decide), by omega, by omega⟩
theorem mk8 (x : Int) : ∃ X : Int, bits .and .i64 x 255 = X ∧ 0 ≤ X ∧ X ≤ 255 := ⟨x % 256, i64_mask x 8 (by decide), by omega, by omega⟩
theorem num_int (x : Int) (h0 : 0 ≤ x) (h1 : x ≤ 65535) (W : World) : Calls Tryd.prog 15 #[.int .i64 x] W fun e' w' => e' = .returned (.string ⟨(Lib.itoa x).toArray⟩) ∧ Below W.heap.size W w' := by
  obtain ⟨n, rfl⟩ := Int.eq_ofNat_of_zero_le h0
  exact num_is n (by omega) W
theorem powTab_of_laid2 {w : World} (h : laidMetH Tryd.prog Rows.statTextsRow.laid w) : PowTab w := by
  have e : Rows.statTextsRow.laid = Rows.statCountsRow.laid := by kernel_rfl
  rw [e] at h
  exact powTab_of_laid h
set_option maxHeartbeats 40000000 in
theorem walkStatTexts (a0_0 : Int) (a0_1 : Int) (a0_2 : Int) (a0_3 : Int) (a0_4 : Int) (a0_5 : Int) (w : World) (w0_0 : (Lit.int .i64 a0_0).wf = true) (w0_1 : (Lit.int .i64 a0_1).wf = true) (w0_2 : (Lit.int .i64 a0_2).wf = true) (w0_3 : (Lit.int .i64 a0_3).wf = true) (w0_4 : (Lit.int .i64 a0_4).wf = true) (w0_5 : (Lit.int .i64 a0_5).wf = true) (ht : PowTab w) :
    Calls Tryd.prog 4 #[.agg #[.int .i64 a0_0, .int .i64 a0_1, .int .i64 a0_2, .int .i64 a0_3, .int .i64 a0_4, .int .i64 a0_5]] w fun e w' => e = .returned (.bool true) ∧ Below w.heap.size w w' := by
  have T := Lib.hid ht
  clear ht w0_0 w0_1 w0_2 w0_3 w0_4 w0_5
  obtain ⟨x0, e0, b0, c0⟩ := mk16 a0_0
  obtain ⟨x1, e1, b1, c1⟩ := mk16 a0_1
  obtain ⟨x2, e2, b2, c2⟩ := mk16 a0_2
  obtain ⟨x3, e3, b3, c3⟩ := mk16 a0_3
  obtain ⟨x4, e4, b4, c4⟩ := mk16 a0_4
  obtain ⟨x5, e5, b5, c5⟩ := mk16 a0_5
  obtain ⟨x6, e6, b6, c6⟩ := mk8 a0_5
  go_enter Tryd.func4, Tryd.ntmps4
  go_wp2_with fail
  obtain ⟨A, hA⟩ : ∃ A, w.alloc (.cells #[.int .i64 a0_0, .int .i64 a0_1, .int .i64 a0_2, .int .i64 a0_3, .int .i64 a0_4, .int .i64 a0_5] 24) = A := ⟨_, rfl⟩
  obtain ⟨B, hB⟩ : ∃ B, A.alloc (.cells #[.int .i64 x0, .int .i64 x1, .int .i64 x2, .int .i64 x3, .int .i64 x4, .int .i64 x5] 24) = B := ⟨_, rfl⟩
  obtain ⟨C, hC⟩ : ∃ C, B.alloc (.cells #[.int .i64 x0, .int .i64 x1, .int .i64 x2, .int .i64 x3, .int .i64 x4, .int .i64 x5] 3) = C := ⟨_, rfl⟩
  have hsA : A.heap.size = w.heap.size + 1 := by rw [← hA]; simp
  have hsB : B.heap.size = w.heap.size + 1 + 1 := by rw [← hB]; simp [hsA]
  have bA : Below w.heap.size w A := by rw [← hA]; exact alc0 _ _
  have bB : Below A.heap.size A B := by rw [← hB]; exact alc0 _ _
  have bC : Below B.heap.size B C := by rw [← hC]; exact alc0 _ _
  have h1 : StAt w.heap.size A a0_0 a0_1 a0_2 a0_3 a0_4 a0_5 := by rw [← hA]; exact StAt.new w _ _ _ _ _ _ _
  have h2 : StAt A.heap.size B x0 x1 x2 x3 x4 x5 := by rw [← hB]; exact StAt.new A _ _ _ _ _ _ _
  have h3 : StAt B.heap.size C x0 x1 x2 x3 x4 x5 := by rw [← hC]; exact StAt.new B _ _ _ _ _ _ _
  have h1 := (h1.below bB).below bC
  have h2 := h2.below bC
  rw [hsA] at h2
  rw [hsB] at h3
  have HBC : Hid (Below w.heap.size w C) := Lib.hid (thn (thn bA bB) bC)
  have TC : Hid (PowTab C) := Lib.hid (T.out.later HBC.out)
  rw [hA, hB, hC]
  obtain ⟨sb, hsb⟩ : ∃ sb, w.heap.size = sb := ⟨_, rfl⟩
  have HSB := Lib.hid hsb
  rw [hsb] at h1 h2 h3 ⊢
  obtain ⟨xb, hxb⟩ : ∃ xb, sb + 1 = xb := ⟨_, rfl⟩
  rw [hxb] at h2 h3 ⊢
  obtain ⟨lb, hlb⟩ : ∃ lb, xb + 1 = lb := ⟨_, rfl⟩
  rw [hlb] at h3 ⊢
  have H1 := Lib.hid h1
  have H2 := Lib.hid h2
  have H3 := Lib.hid h3
  clear h1 h2 h3 hA hB hC hsA hsB bA bB bC hsb hxb hlb T
  obtain ⟨f, hf⟩ : ∃ f, xsI x0 x1 x2 x3 x4 x5 = f := ⟨_, rfl⟩
  have HFX := Lib.hid hf
  have HF : Hid (∀ i, -9223372036854775808 ≤ f i ∧ f i ≤ 9223372036854775807) := Lib.hid (by
    intro i; rw [← hf]; unfold xsI; split <;> omega)
  clear hf
  go_loopw [5, 6] (fun v5 v6 wr => ∃ i : Nat, i ≤ 6 ∧ v6 = .int .i64 i ∧ v5 = .string (wB f i) ∧ Hid (Below C.heap.size C wr)) (fun _ v6 _ => 6 - (intOf v6).toNat)
  case atStart => exact ⟨0, by omega, rfl, rfl, Lib.hid (Below.refl _ _)⟩
  case round =>
    obtain ⟨i, hi, rfl, rfl, HB⟩ := hrel
    by_cases hlt : i < 6
    · have hk := H3.out.below HB.out
      obtain ⟨hl, k0, k1, k2, k3, k4, k5, _⟩ := hk
      have hi6 : i = 0 ∨ i = 1 ∨ i = 2 ∨ i = 3 ∨ i = 4 ∨ i = 5 := by omega
      rcases hi6 with rfl | rfl | rfl | rfl | rfl | rfl
      · have hx0 : 0 ≤ x0 := b0
        have hx1 : x0 ≤ 65535 := c0
        have k := k0
        clear k0 k1 k2 k3 k4 k5
        have hx : f 0 = x0 := by rw [← HFX.out]; rfl
        obtain ⟨x, hxx⟩ : ∃ x, x0 = x := ⟨_, rfl⟩
        rw [hxx] at hx0 hx1 k hx
        clear hxx
        obtain ⟨D, hD⟩ : ∃ D, (⟨(Lib.itoa x).toArray⟩ : ByteArray) = D := ⟨_, rfl⟩
        obtain ⟨s0, hs0⟩ : ∃ s0, wB f 0 = s0 := ⟨_, rfl⟩
        rw [hs0]
        have HS1 : Hid (wB f 1 = s0 ++ ((⟨#[103, 111, 116, 32]⟩ : ByteArray) ++ D)) := Lib.hid (by rw [← hs0, ← hD, ← hx]; rfl)
        have HN : Hid (∀ w7 : World, Calls Tryd.prog 15 #[.int .i64 x] w7 fun e' w' => e' = .returned (.string D) ∧ Below w7.heap.size w7 w') := Lib.hid (fun w7 => by rw [← hD]; exact num_int x hx0 hx1 w7)
        have zd : D.size ≤ 21 := by rw [← hD]; exact dig_size x (by omega) (by omega)
        have z0 : s0.size ≤ 40 * 0 := by rw [← hs0]; exact w_size f HF.out 0
        have z1 : (⟨#[103, 111, 116, 32]⟩ : ByteArray).size = 4 := rfl
        have q1 : ¬ 9223372036854775807 < (⟨#[103, 111, 116, 32]⟩ : ByteArray).size + D.size := by rw [z1]; omega
        have q2 : ¬ 9223372036854775807 < s0.size + ((⟨#[103, 111, 116, 32]⟩ : ByteArray).size + D.size) := by rw [z1]; omega
        have q3 : ¬ 9223372036854775807 < 4 + D.size := by omega
        have q4 : ¬ 9223372036854775807 < s0.size + (4 + D.size) := by omega
        clear z1 hD hs0 hx
        have i00 : (((0 : Nat)) : Int) = 0 := rfl
        rw [i00]
        clear i00
        go_upto_region 6 with (fail)
        refine wp_region_held_drew (S := (fun w' => w'.cell? ⟨lb, 0, none⟩ = some (.int .i64 x) ∧ Hid (Below C.heap.size C w') ∧ lb < w'.heap.size)) (by kernel_rfl) ?_ (fun hHeld => ?_)
        · exact ⟨k, Lib.hid HB.out.drew, hl⟩
        clear k hl HB
        refine wpAnyH_take (i := 0) (v := ?_) rfl (by kernel_rfl) (by kernel_rfl) (by kernel_rfl) (fun _ _ _ h => h) (Or.inl ⟨by kernel_rfl, ?_⟩) (by assumption) ?_
        rotate_left
        · (intro w hSw; (try dsimp only at hSw); go_simp)
          try (with_reducible rfl)
        rotate_left
        try simp (maxSteps := 4000000) only [Act.put, List.setIfInBounds_toArray, List.set_cons_zero, List.set_cons_succ, List.getElem_toArray, List.getElem_cons_zero, List.getElem_cons_succ]
        refine wpAnyH_take (i := 2) (v := ?_) rfl (by kernel_rfl) (by kernel_rfl) (by kernel_rfl) (fun _ _ _ h => h) (Or.inl ⟨by kernel_rfl, ?_⟩) (by assumption) ?_
        rotate_left
        · (intro w hSw; (try dsimp only at hSw); go_simp)
          try (with_reducible rfl)
        rotate_left
        try simp (maxSteps := 4000000) only [Act.put, List.setIfInBounds_toArray, List.set_cons_zero, List.set_cons_succ, List.getElem_toArray, List.getElem_cons_zero, List.getElem_cons_succ]
        refine wpAnyH_take (i := 5) (v := ?_) rfl (by kernel_rfl) (by kernel_rfl) (by kernel_rfl) (fun _ _ _ h => h) (Or.inl ⟨by kernel_rfl, ?_⟩) (by assumption) ?_
        rotate_left
        · (intro w hSw; (try dsimp only at hSw); go_simp)
          try (with_reducible rfl)
        rotate_left
        try simp (maxSteps := 4000000) only [Act.put, List.setIfInBounds_toArray, List.set_cons_zero, List.set_cons_succ, List.getElem_toArray, List.getElem_cons_zero, List.getElem_cons_succ]
        refine wpAnyH_take (i := 6) (v := ?_) rfl (by kernel_rfl) (by kernel_rfl) (by kernel_rfl) (fun _ _ _ h => h) (Or.inl ⟨by kernel_rfl, ?_⟩) (by assumption) ?_
        rotate_left
        · (intro w hSw; (try dsimp only at hSw); go_simp)
          try (with_reducible rfl)
        rotate_left
        try simp (maxSteps := 4000000) only [Act.put, List.setIfInBounds_toArray, List.set_cons_zero, List.set_cons_succ, List.getElem_toArray, List.getElem_cons_zero, List.getElem_cons_succ]
        refine wpAnyH_take (i := 7) (v := ?_) rfl (by kernel_rfl) (by kernel_rfl) (by kernel_rfl) (fun _ _ _ h => h) (Or.inl ⟨by kernel_rfl, ?_⟩) (by assumption) ?_
        rotate_left
        · (intro w hSw; (try dsimp only at hSw); go_simp)
          try (with_reducible rfl)
        rotate_left
        try simp (maxSteps := 4000000) only [Act.put, List.setIfInBounds_toArray, List.set_cons_zero, List.set_cons_succ, List.getElem_toArray, List.getElem_cons_zero, List.getElem_cons_succ]
        refine wpAnyH_take (i := 8) (v := ?_) rfl (by kernel_rfl) (by kernel_rfl) (by kernel_rfl) (fun _ _ _ h => h) (Or.inl ⟨by kernel_rfl, ?_⟩) (by assumption) ?_
        rotate_left
        · (intro w hSw; (try dsimp only at hSw); go_simp)
          try (with_reducible rfl)
        rotate_left
        try simp (maxSteps := 4000000) only [Act.put, List.setIfInBounds_toArray, List.set_cons_zero, List.set_cons_succ, List.getElem_toArray, List.getElem_cons_zero, List.getElem_cons_succ]
        refine wpAnyH_ready (rs := [1, 9]) (by kernel_rfl) (by simp) ?_
        refine AllReadyH.cons rfl (fun K2 hK2 => ?_) (AllReadyH.cons rfl (fun K2 hK2 => ?_) AllReadyH.nil)
        all_goals go_simp
        · refine hK2.out _ _ ?_ (fun hHeld2 => ?_)
          · exact ⟨(World.cell?_alloc_lt _ _ _ hHeld.2.2).trans hHeld.1, Lib.hid (alc hHeld.2.1.out _), by first | (rw [World.size_alloc]; exact Nat.lt_succ_of_lt hHeld.2.2) | (have h9 := hHeld.2.2; simp at h9 ⊢; omega) | (show lb < (World.alloc wr _).heap.size; rw [World.size_alloc]; exact Nat.lt_succ_of_lt hHeld.2.2)⟩
          clear hK2 K2 hHeld
          have hHeld := hHeld2
          clear hHeld2
          try simp (maxSteps := 4000000) only [Act.put, List.setIfInBounds_toArray, List.set_cons_zero, List.set_cons_succ]
          refine wpAnyH_take (i := 3) (v := ?_) rfl (by kernel_rfl) (by kernel_rfl) (by kernel_rfl) (fun _ _ _ h => h) (Or.inl ⟨by kernel_rfl, ?_⟩) (by assumption) ?_
          rotate_left
          · (intro w hSw; (try dsimp only at hSw); go_simp)
            try (with_reducible rfl)
          rotate_left
          try simp (maxSteps := 4000000) only [Act.put, List.setIfInBounds_toArray, List.set_cons_zero, List.set_cons_succ, List.getElem_toArray, List.getElem_cons_zero, List.getElem_cons_succ]
          refine wpAnyH_ready (rs := [4, 9]) (by kernel_rfl) (by simp) ?_
          refine AllReadyH.cons rfl (fun K2 hK2 => ?_) (AllReadyH.cons rfl (fun K2 hK2 => ?_) AllReadyH.nil)
          all_goals go_simp
          · refine hK2.out _ _ hHeld (fun hHeld2 => ?_)
            clear hK2 K2 hHeld
            have hHeld := hHeld2
            clear hHeld2
            try simp (maxSteps := 4000000) only [Act.put, List.setIfInBounds_toArray, List.set_cons_zero, List.set_cons_succ]
            refine wpAnyH_ready (rs := [9]) (by kernel_rfl) (by simp) ?_
            refine AllReadyH.cons rfl (fun K2 hK2 => ?_) AllReadyH.nil
            go_simp
            with_reducible refine Calls.mono (HN.out _) ?_
            rintro e9 w9 ⟨rfl, hb⟩
            refine hK2.out _ _ ?_ (fun hHeld2 => ?_)
            · exact ⟨(hb.cell (p := ⟨lb, 0, none⟩) hHeld.2.2).trans hHeld.1, Lib.hid (thn hHeld.2.1.out hb), Nat.lt_of_lt_of_le hHeld.2.2 hb.size⟩
            clear hb
            clear hK2 K2 hHeld
            have hHeld := hHeld2
            clear hHeld2
            try simp (maxSteps := 4000000) only [Act.put, List.setIfInBounds_toArray, List.set_cons_zero, List.set_cons_succ]
            refine wpAnyH_take (i := 10) (v := ?_) rfl (by kernel_rfl) (by kernel_rfl) (by kernel_rfl) (fun _ _ _ h => h) (Or.inl ⟨by kernel_rfl, ?_⟩) (by assumption) ?_
            rotate_left
            · (intro w hSw; (try dsimp only at hSw); go_simp)
              try (with_reducible rfl)
            rotate_left
            try simp (maxSteps := 4000000) only [Act.put, List.setIfInBounds_toArray, List.set_cons_zero, List.set_cons_succ, List.getElem_toArray, List.getElem_cons_zero, List.getElem_cons_succ]
            refine wpAnyH_take (i := 11) (v := ?_) rfl (by kernel_rfl) (by kernel_rfl) (by kernel_rfl) (fun _ _ _ h => h) (Or.inl ⟨by kernel_rfl, ?_⟩) (by assumption) ?_
            rotate_left
            · (intro w hSw; (try dsimp only at hSw); go_simp)
              try (with_reducible rfl)
            rotate_left
            try simp (maxSteps := 4000000) only [Act.put, List.setIfInBounds_toArray, List.set_cons_zero, List.set_cons_succ, List.getElem_toArray, List.getElem_cons_zero, List.getElem_cons_succ]
            refine wpAnyH_take (i := 12) (v := ?_) rfl (by kernel_rfl) (by kernel_rfl) (by kernel_rfl) (fun _ _ _ h => h) (Or.inl ⟨by kernel_rfl, ?_⟩) (by assumption) ?_
            rotate_left
            · (intro w hSw; (try dsimp only at hSw); go_simp)
              try (with_reducible rfl)
            rotate_left
            try simp (maxSteps := 4000000) only [Act.put, List.setIfInBounds_toArray, List.set_cons_zero, List.set_cons_succ, List.getElem_toArray, List.getElem_cons_zero, List.getElem_cons_succ]
            refine wpAnyH_done (by kernel_rfl) ?_ _
            go_wp2_with fail
            go_roundw
            case rel => exact ⟨1, by omega, by go_num, by rw [HS1.out], hHeld.2.1⟩
            case measure => simp [intOf]
          · with_reducible refine Calls.mono (HN.out _) ?_
            rintro e9 w9 ⟨rfl, hb⟩
            refine hK2.out _ _ ?_ (fun hHeld2 => ?_)
            · exact ⟨(hb.cell (p := ⟨lb, 0, none⟩) hHeld.2.2).trans hHeld.1, Lib.hid (thn hHeld.2.1.out hb), Nat.lt_of_lt_of_le hHeld.2.2 hb.size⟩
            have hz9 : w9.cell? ⟨wr.heap.size, 0, none⟩ = some (Value.string ⟨#[103, 111, 116, 32]⟩) := (hb.cell (p := ⟨wr.heap.size, 0, none⟩) (by first | (simp; done) | (show wr.heap.size < (World.alloc wr _).heap.size; rw [World.size_alloc]; omega))).trans (by first | (simp; done) | (show (World.alloc wr _).cell? _ = _; simp))
            clear hb
            clear hK2 K2 hHeld
            have hHeld := hHeld2
            clear hHeld2
            try simp (maxSteps := 4000000) only [Act.put, List.setIfInBounds_toArray, List.set_cons_zero, List.set_cons_succ]
            refine wpAnyH_ready (rs := [4]) (by kernel_rfl) (by simp) ?_
            refine AllReadyH.cons rfl (fun K2 hK2 => ?_) AllReadyH.nil
            go_simp
            refine hK2.out _ _ hHeld (fun hHeld2 => ?_)
            clear hK2 K2 hHeld
            have hHeld := hHeld2
            clear hHeld2
            try simp (maxSteps := 4000000) only [Act.put, List.setIfInBounds_toArray, List.set_cons_zero, List.set_cons_succ]
            refine wpAnyH_take (i := 10) (v := ?_) rfl (by kernel_rfl) (by kernel_rfl) (by kernel_rfl) (fun _ _ _ h => h) (Or.inl ⟨by kernel_rfl, ?_⟩) (by assumption) ?_
            rotate_left
            · (intro w hSw; (try dsimp only at hSw); go_simp)
              try (with_reducible rfl)
            rotate_left
            try simp (maxSteps := 4000000) only [Act.put, List.setIfInBounds_toArray, List.set_cons_zero, List.set_cons_succ, List.getElem_toArray, List.getElem_cons_zero, List.getElem_cons_succ]
            refine wpAnyH_take (i := 11) (v := ?_) rfl (by kernel_rfl) (by kernel_rfl) (by kernel_rfl) (fun _ _ _ h => h) (Or.inl ⟨by kernel_rfl, ?_⟩) (by assumption) ?_
            rotate_left
            · (intro w hSw; (try dsimp only at hSw); go_simp)
              try (with_reducible rfl)
            rotate_left
            try simp (maxSteps := 4000000) only [Act.put, List.setIfInBounds_toArray, List.set_cons_zero, List.set_cons_succ, List.getElem_toArray, List.getElem_cons_zero, List.getElem_cons_succ]
            refine wpAnyH_take (i := 12) (v := ?_) rfl (by kernel_rfl) (by kernel_rfl) (by kernel_rfl) (fun _ _ _ h => h) (Or.inl ⟨by kernel_rfl, ?_⟩) (by assumption) ?_
            rotate_left
            · (intro w hSw; (try dsimp only at hSw); go_simp)
              try (with_reducible rfl)
            rotate_left
            try simp (maxSteps := 4000000) only [Act.put, List.setIfInBounds_toArray, List.set_cons_zero, List.set_cons_succ, List.getElem_toArray, List.getElem_cons_zero, List.getElem_cons_succ]
            refine wpAnyH_done (by kernel_rfl) ?_ _
            go_wp2_with fail
            go_roundw
            case rel => exact ⟨1, by omega, by go_num, by rw [HS1.out], hHeld.2.1⟩
            case measure => simp [intOf]
        · with_reducible refine Calls.mono (HN.out _) ?_
          rintro e9 w9 ⟨rfl, hb⟩
          refine hK2.out _ _ ?_ (fun hHeld2 => ?_)
          · exact ⟨(hb.cell (p := ⟨lb, 0, none⟩) hHeld.2.2).trans hHeld.1, Lib.hid (thn hHeld.2.1.out hb), Nat.lt_of_lt_of_le hHeld.2.2 hb.size⟩
          clear hb
          clear hK2 K2 hHeld
          have hHeld := hHeld2
          clear hHeld2
          try simp (maxSteps := 4000000) only [Act.put, List.setIfInBounds_toArray, List.set_cons_zero, List.set_cons_succ]
          refine wpAnyH_ready (rs := [1]) (by kernel_rfl) (by simp) ?_
          refine AllReadyH.cons rfl (fun K2 hK2 => ?_) AllReadyH.nil
          go_simp
          refine hK2.out _ _ ?_ (fun hHeld2 => ?_)
          · exact ⟨(World.cell?_alloc_lt _ _ _ hHeld.2.2).trans hHeld.1, Lib.hid (alc hHeld.2.1.out _), by first | (rw [World.size_alloc]; exact Nat.lt_succ_of_lt hHeld.2.2) | (have h9 := hHeld.2.2; simp at h9 ⊢; omega) | (show lb < (World.alloc wr _).heap.size; rw [World.size_alloc]; exact Nat.lt_succ_of_lt hHeld.2.2)⟩
          clear hK2 K2 hHeld
          have hHeld := hHeld2
          clear hHeld2
          try simp (maxSteps := 4000000) only [Act.put, List.setIfInBounds_toArray, List.set_cons_zero, List.set_cons_succ]
          refine wpAnyH_take (i := 3) (v := ?_) rfl (by kernel_rfl) (by kernel_rfl) (by kernel_rfl) (fun _ _ _ h => h) (Or.inl ⟨by kernel_rfl, ?_⟩) (by assumption) ?_
          rotate_left
          · (intro w hSw; (try dsimp only at hSw); go_simp)
            try (with_reducible rfl)
          rotate_left
          try simp (maxSteps := 4000000) only [Act.put, List.setIfInBounds_toArray, List.set_cons_zero, List.set_cons_succ, List.getElem_toArray, List.getElem_cons_zero, List.getElem_cons_succ]
          refine wpAnyH_ready (rs := [4]) (by kernel_rfl) (by simp) ?_
          refine AllReadyH.cons rfl (fun K2 hK2 => ?_) AllReadyH.nil
          go_simp
          refine hK2.out _ _ hHeld (fun hHeld2 => ?_)
          clear hK2 K2 hHeld
          have hHeld := hHeld2
          clear hHeld2
          try simp (maxSteps := 4000000) only [Act.put, List.setIfInBounds_toArray, List.set_cons_zero, List.set_cons_succ]
          refine wpAnyH_take (i := 10) (v := ?_) rfl (by kernel_rfl) (by kernel_rfl) (by kernel_rfl) (fun _ _ _ h => h) (Or.inl ⟨by kernel_rfl, ?_⟩) (by assumption) ?_
          rotate_left
          · (intro w hSw; (try dsimp only at hSw); go_simp)
            try (with_reducible rfl)
          rotate_left
          try simp (maxSteps := 4000000) only [Act.put, List.setIfInBounds_toArray, List.set_cons_zero, List.set_cons_succ, List.getElem_toArray, List.getElem_cons_zero, List.getElem_cons_succ]
          refine wpAnyH_take (i := 11) (v := ?_) rfl (by kernel_rfl) (by kernel_rfl) (by kernel_rfl) (fun _ _ _ h => h) (Or.inl ⟨by kernel_rfl, ?_⟩) (by assumption) ?_
          rotate_left
          · (intro w hSw; (try dsimp only at hSw); go_simp)
            try (with_reducible rfl)
          rotate_left
          try simp (maxSteps := 4000000) only [Act.put, List.setIfInBounds_toArray, List.set_cons_zero, List.set_cons_succ, List.getElem_toArray, List.getElem_cons_zero, List.getElem_cons_succ]
          refine wpAnyH_take (i := 12) (v := ?_) rfl (by kernel_rfl) (by kernel_rfl) (by kernel_rfl) (fun _ _ _ h => h) (Or.inl ⟨by kernel_rfl, ?_⟩) (by assumption) ?_
          rotate_left
          · (intro w hSw; (try dsimp only at hSw); go_simp)
            try (with_reducible rfl)
          rotate_left
          try simp (maxSteps := 4000000) only [Act.put, List.setIfInBounds_toArray, List.set_cons_zero, List.set_cons_succ, List.getElem_toArray, List.getElem_cons_zero, List.getElem_cons_succ]
          refine wpAnyH_done (by kernel_rfl) ?_ _
          go_wp2_with fail
          go_roundw
          case rel => exact ⟨1, by omega, by go_num, by rw [HS1.out], hHeld.2.1⟩
          case measure => simp [intOf]
      · have hx0 : 0 ≤ x1 := b1
        have hx1 : x1 ≤ 65535 := c1
        have k := k1
        clear k0 k1 k2 k3 k4 k5
        have hx : f 1 = x1 := by rw [← HFX.out]; rfl
        obtain ⟨x, hxx⟩ : ∃ x, x1 = x := ⟨_, rfl⟩
        rw [hxx] at hx0 hx1 k hx
        clear hxx
        obtain ⟨D, hD⟩ : ∃ D, (⟨(Lib.itoa x).toArray⟩ : ByteArray) = D := ⟨_, rfl⟩
        obtain ⟨s0, hs0⟩ : ∃ s0, wB f 1 = s0 := ⟨_, rfl⟩
        rw [hs0]
        have HS1 : Hid (wB f 2 = s0 ++ ((⟨#[32, 103, 105, 118, 101, 110, 32]⟩ : ByteArray) ++ D)) := Lib.hid (by rw [← hs0, ← hD, ← hx]; rfl)
        have HN : Hid (∀ w7 : World, Calls Tryd.prog 15 #[.int .i64 x] w7 fun e' w' => e' = .returned (.string D) ∧ Below w7.heap.size w7 w') := Lib.hid (fun w7 => by rw [← hD]; exact num_int x hx0 hx1 w7)
        have zd : D.size ≤ 21 := by rw [← hD]; exact dig_size x (by omega) (by omega)
        have z0 : s0.size ≤ 40 * 1 := by rw [← hs0]; exact w_size f HF.out 1
        have z1 : (⟨#[32, 103, 105, 118, 101, 110, 32]⟩ : ByteArray).size = 7 := rfl
        have q1 : ¬ 9223372036854775807 < (⟨#[32, 103, 105, 118, 101, 110, 32]⟩ : ByteArray).size + D.size := by rw [z1]; omega
        have q2 : ¬ 9223372036854775807 < s0.size + ((⟨#[32, 103, 105, 118, 101, 110, 32]⟩ : ByteArray).size + D.size) := by rw [z1]; omega
        have q3 : ¬ 9223372036854775807 < 7 + D.size := by omega
        have q4 : ¬ 9223372036854775807 < s0.size + (7 + D.size) := by omega
        clear z1 hD hs0 hx
        have i00 : (((1 : Nat)) : Int) = 1 := rfl
        rw [i00]
        clear i00
        go_upto_region 6 with (fail)
        refine wp_region_held_drew (S := (fun w' => w'.cell? ⟨lb, 1, none⟩ = some (.int .i64 x) ∧ Hid (Below C.heap.size C w') ∧ lb < w'.heap.size)) (by kernel_rfl) ?_ (fun hHeld => ?_)
        · exact ⟨k, Lib.hid HB.out.drew, hl⟩
        clear k hl HB
        refine wpAnyH_take (i := 0) (v := ?_) rfl (by kernel_rfl) (by kernel_rfl) (by kernel_rfl) (fun _ _ _ h => h) (Or.inl ⟨by kernel_rfl, ?_⟩) (by assumption) ?_
        rotate_left
        · (intro w hSw; (try dsimp only at hSw); go_simp)
          try (with_reducible rfl)
        rotate_left
        try simp (maxSteps := 4000000) only [Act.put, List.setIfInBounds_toArray, List.set_cons_zero, List.set_cons_succ, List.getElem_toArray, List.getElem_cons_zero, List.getElem_cons_succ]
        refine wpAnyH_take (i := 2) (v := ?_) rfl (by kernel_rfl) (by kernel_rfl) (by kernel_rfl) (fun _ _ _ h => h) (Or.inl ⟨by kernel_rfl, ?_⟩) (by assumption) ?_
        rotate_left
        · (intro w hSw; (try dsimp only at hSw); go_simp)
          try (with_reducible rfl)
        rotate_left
        try simp (maxSteps := 4000000) only [Act.put, List.setIfInBounds_toArray, List.set_cons_zero, List.set_cons_succ, List.getElem_toArray, List.getElem_cons_zero, List.getElem_cons_succ]
        refine wpAnyH_take (i := 5) (v := ?_) rfl (by kernel_rfl) (by kernel_rfl) (by kernel_rfl) (fun _ _ _ h => h) (Or.inl ⟨by kernel_rfl, ?_⟩) (by assumption) ?_
        rotate_left
        · (intro w hSw; (try dsimp only at hSw); go_simp)
          try (with_reducible rfl)
        rotate_left
        try simp (maxSteps := 4000000) only [Act.put, List.setIfInBounds_toArray, List.set_cons_zero, List.set_cons_succ, List.getElem_toArray, List.getElem_cons_zero, List.getElem_cons_succ]
        refine wpAnyH_take (i := 6) (v := ?_) rfl (by kernel_rfl) (by kernel_rfl) (by kernel_rfl) (fun _ _ _ h => h) (Or.inl ⟨by kernel_rfl, ?_⟩) (by assumption) ?_
        rotate_left
        · (intro w hSw; (try dsimp only at hSw); go_simp)
          try (with_reducible rfl)
        rotate_left
        try simp (maxSteps := 4000000) only [Act.put, List.setIfInBounds_toArray, List.set_cons_zero, List.set_cons_succ, List.getElem_toArray, List.getElem_cons_zero, List.getElem_cons_succ]
        refine wpAnyH_take (i := 7) (v := ?_) rfl (by kernel_rfl) (by kernel_rfl) (by kernel_rfl) (fun _ _ _ h => h) (Or.inl ⟨by kernel_rfl, ?_⟩) (by assumption) ?_
        rotate_left
        · (intro w hSw; (try dsimp only at hSw); go_simp)
          try (with_reducible rfl)
        rotate_left
        try simp (maxSteps := 4000000) only [Act.put, List.setIfInBounds_toArray, List.set_cons_zero, List.set_cons_succ, List.getElem_toArray, List.getElem_cons_zero, List.getElem_cons_succ]
        refine wpAnyH_take (i := 8) (v := ?_) rfl (by kernel_rfl) (by kernel_rfl) (by kernel_rfl) (fun _ _ _ h => h) (Or.inl ⟨by kernel_rfl, ?_⟩) (by assumption) ?_
        rotate_left
        · (intro w hSw; (try dsimp only at hSw); go_simp)
          try (with_reducible rfl)
        rotate_left
        try simp (maxSteps := 4000000) only [Act.put, List.setIfInBounds_toArray, List.set_cons_zero, List.set_cons_succ, List.getElem_toArray, List.getElem_cons_zero, List.getElem_cons_succ]
        refine wpAnyH_ready (rs := [1, 9]) (by kernel_rfl) (by simp) ?_
        refine AllReadyH.cons rfl (fun K2 hK2 => ?_) (AllReadyH.cons rfl (fun K2 hK2 => ?_) AllReadyH.nil)
        all_goals go_simp
        · refine hK2.out _ _ ?_ (fun hHeld2 => ?_)
          · exact ⟨(World.cell?_alloc_lt _ _ _ hHeld.2.2).trans hHeld.1, Lib.hid (alc hHeld.2.1.out _), by first | (rw [World.size_alloc]; exact Nat.lt_succ_of_lt hHeld.2.2) | (have h9 := hHeld.2.2; simp at h9 ⊢; omega) | (show lb < (World.alloc wr _).heap.size; rw [World.size_alloc]; exact Nat.lt_succ_of_lt hHeld.2.2)⟩
          clear hK2 K2 hHeld
          have hHeld := hHeld2
          clear hHeld2
          try simp (maxSteps := 4000000) only [Act.put, List.setIfInBounds_toArray, List.set_cons_zero, List.set_cons_succ]
          refine wpAnyH_take (i := 3) (v := ?_) rfl (by kernel_rfl) (by kernel_rfl) (by kernel_rfl) (fun _ _ _ h => h) (Or.inl ⟨by kernel_rfl, ?_⟩) (by assumption) ?_
          rotate_left
          · (intro w hSw; (try dsimp only at hSw); go_simp)
            try (with_reducible rfl)
          rotate_left
          try simp (maxSteps := 4000000) only [Act.put, List.setIfInBounds_toArray, List.set_cons_zero, List.set_cons_succ, List.getElem_toArray, List.getElem_cons_zero, List.getElem_cons_succ]
          refine wpAnyH_ready (rs := [4, 9]) (by kernel_rfl) (by simp) ?_
          refine AllReadyH.cons rfl (fun K2 hK2 => ?_) (AllReadyH.cons rfl (fun K2 hK2 => ?_) AllReadyH.nil)
          all_goals go_simp
          · refine hK2.out _ _ hHeld (fun hHeld2 => ?_)
            clear hK2 K2 hHeld
            have hHeld := hHeld2
            clear hHeld2
            try simp (maxSteps := 4000000) only [Act.put, List.setIfInBounds_toArray, List.set_cons_zero, List.set_cons_succ]
            refine wpAnyH_ready (rs := [9]) (by kernel_rfl) (by simp) ?_
            refine AllReadyH.cons rfl (fun K2 hK2 => ?_) AllReadyH.nil
            go_simp
            with_reducible refine Calls.mono (HN.out _) ?_
            rintro e9 w9 ⟨rfl, hb⟩
            refine hK2.out _ _ ?_ (fun hHeld2 => ?_)
            · exact ⟨(hb.cell (p := ⟨lb, 1, none⟩) hHeld.2.2).trans hHeld.1, Lib.hid (thn hHeld.2.1.out hb), Nat.lt_of_lt_of_le hHeld.2.2 hb.size⟩
            clear hb
            clear hK2 K2 hHeld
            have hHeld := hHeld2
            clear hHeld2
            try simp (maxSteps := 4000000) only [Act.put, List.setIfInBounds_toArray, List.set_cons_zero, List.set_cons_succ]
            refine wpAnyH_take (i := 10) (v := ?_) rfl (by kernel_rfl) (by kernel_rfl) (by kernel_rfl) (fun _ _ _ h => h) (Or.inl ⟨by kernel_rfl, ?_⟩) (by assumption) ?_
            rotate_left
            · (intro w hSw; (try dsimp only at hSw); go_simp)
              try (with_reducible rfl)
            rotate_left
            try simp (maxSteps := 4000000) only [Act.put, List.setIfInBounds_toArray, List.set_cons_zero, List.set_cons_succ, List.getElem_toArray, List.getElem_cons_zero, List.getElem_cons_succ]
            refine wpAnyH_take (i := 11) (v := ?_) rfl (by kernel_rfl) (by kernel_rfl) (by kernel_rfl) (fun _ _ _ h => h) (Or.inl ⟨by kernel_rfl, ?_⟩) (by assumption) ?_
            rotate_left
            · (intro w hSw; (try dsimp only at hSw); go_simp)
              try (with_reducible rfl)
            rotate_left
            try simp (maxSteps := 4000000) only [Act.put, List.setIfInBounds_toArray, List.set_cons_zero, List.set_cons_succ, List.getElem_toArray, List.getElem_cons_zero, List.getElem_cons_succ]
            refine wpAnyH_take (i := 12) (v := ?_) rfl (by kernel_rfl) (by kernel_rfl) (by kernel_rfl) (fun _ _ _ h => h) (Or.inl ⟨by kernel_rfl, ?_⟩) (by assumption) ?_
            rotate_left
            · (intro w hSw; (try dsimp only at hSw); go_simp)
              try (with_reducible rfl)
            rotate_left
            try simp (maxSteps := 4000000) only [Act.put, List.setIfInBounds_toArray, List.set_cons_zero, List.set_cons_succ, List.getElem_toArray, List.getElem_cons_zero, List.getElem_cons_succ]
            refine wpAnyH_done (by kernel_rfl) ?_ _
            go_wp2_with fail
            go_roundw
            case rel => exact ⟨2, by omega, by go_num, by rw [HS1.out], hHeld.2.1⟩
            case measure => simp [intOf]
          · with_reducible refine Calls.mono (HN.out _) ?_
            rintro e9 w9 ⟨rfl, hb⟩
            refine hK2.out _ _ ?_ (fun hHeld2 => ?_)
            · exact ⟨(hb.cell (p := ⟨lb, 1, none⟩) hHeld.2.2).trans hHeld.1, Lib.hid (thn hHeld.2.1.out hb), Nat.lt_of_lt_of_le hHeld.2.2 hb.size⟩
            have hz9 : w9.cell? ⟨wr.heap.size, 1, none⟩ = some (Value.string ⟨#[32, 103, 105, 118, 101, 110, 32]⟩) := (hb.cell (p := ⟨wr.heap.size, 1, none⟩) (by first | (simp; done) | (show wr.heap.size < (World.alloc wr _).heap.size; rw [World.size_alloc]; omega))).trans (by first | (simp; done) | (show (World.alloc wr _).cell? _ = _; simp))
            clear hb
            clear hK2 K2 hHeld
            have hHeld := hHeld2
            clear hHeld2
            try simp (maxSteps := 4000000) only [Act.put, List.setIfInBounds_toArray, List.set_cons_zero, List.set_cons_succ]
            refine wpAnyH_ready (rs := [4]) (by kernel_rfl) (by simp) ?_
            refine AllReadyH.cons rfl (fun K2 hK2 => ?_) AllReadyH.nil
            go_simp
            refine hK2.out _ _ hHeld (fun hHeld2 => ?_)
            clear hK2 K2 hHeld
            have hHeld := hHeld2
            clear hHeld2
            try simp (maxSteps := 4000000) only [Act.put, List.setIfInBounds_toArray, List.set_cons_zero, List.set_cons_succ]
            refine wpAnyH_take (i := 10) (v := ?_) rfl (by kernel_rfl) (by kernel_rfl) (by kernel_rfl) (fun _ _ _ h => h) (Or.inl ⟨by kernel_rfl, ?_⟩) (by assumption) ?_
            rotate_left
            · (intro w hSw; (try dsimp only at hSw); go_simp)
              try (with_reducible rfl)
            rotate_left
            try simp (maxSteps := 4000000) only [Act.put, List.setIfInBounds_toArray, List.set_cons_zero, List.set_cons_succ, List.getElem_toArray, List.getElem_cons_zero, List.getElem_cons_succ]
            refine wpAnyH_take (i := 11) (v := ?_) rfl (by kernel_rfl) (by kernel_rfl) (by kernel_rfl) (fun _ _ _ h => h) (Or.inl ⟨by kernel_rfl, ?_⟩) (by assumption) ?_
            rotate_left
            · (intro w hSw; (try dsimp only at hSw); go_simp)
              try (with_reducible rfl)
            rotate_left
            try simp (maxSteps := 4000000) only [Act.put, List.setIfInBounds_toArray, List.set_cons_zero, List.set_cons_succ, List.getElem_toArray, List.getElem_cons_zero, List.getElem_cons_succ]
            refine wpAnyH_take (i := 12) (v := ?_) rfl (by kernel_rfl) (by kernel_rfl) (by kernel_rfl) (fun _ _ _ h => h) (Or.inl ⟨by kernel_rfl, ?_⟩) (by assumption) ?_
            rotate_left
            · (intro w hSw; (try dsimp only at hSw); go_simp)
              try (with_reducible rfl)
            rotate_left
            try simp (maxSteps := 4000000) only [Act.put, List.setIfInBounds_toArray, List.set_cons_zero, List.set_cons_succ, List.getElem_toArray, List.getElem_cons_zero, List.getElem_cons_succ]
            refine wpAnyH_done (by kernel_rfl) ?_ _
            go_wp2_with fail
            go_roundw
            case rel => exact ⟨2, by omega, by go_num, by rw [HS1.out], hHeld.2.1⟩
            case measure => simp [intOf]
        · with_reducible refine Calls.mono (HN.out _) ?_
          rintro e9 w9 ⟨rfl, hb⟩
          refine hK2.out _ _ ?_ (fun hHeld2 => ?_)
          · exact ⟨(hb.cell (p := ⟨lb, 1, none⟩) hHeld.2.2).trans hHeld.1, Lib.hid (thn hHeld.2.1.out hb), Nat.lt_of_lt_of_le hHeld.2.2 hb.size⟩
          clear hb
          clear hK2 K2 hHeld
          have hHeld := hHeld2
          clear hHeld2
          try simp (maxSteps := 4000000) only [Act.put, List.setIfInBounds_toArray, List.set_cons_zero, List.set_cons_succ]
          refine wpAnyH_ready (rs := [1]) (by kernel_rfl) (by simp) ?_
          refine AllReadyH.cons rfl (fun K2 hK2 => ?_) AllReadyH.nil
          go_simp
          refine hK2.out _ _ ?_ (fun hHeld2 => ?_)
          · exact ⟨(World.cell?_alloc_lt _ _ _ hHeld.2.2).trans hHeld.1, Lib.hid (alc hHeld.2.1.out _), by first | (rw [World.size_alloc]; exact Nat.lt_succ_of_lt hHeld.2.2) | (have h9 := hHeld.2.2; simp at h9 ⊢; omega) | (show lb < (World.alloc wr _).heap.size; rw [World.size_alloc]; exact Nat.lt_succ_of_lt hHeld.2.2)⟩
          clear hK2 K2 hHeld
          have hHeld := hHeld2
          clear hHeld2
          try simp (maxSteps := 4000000) only [Act.put, List.setIfInBounds_toArray, List.set_cons_zero, List.set_cons_succ]
          refine wpAnyH_take (i := 3) (v := ?_) rfl (by kernel_rfl) (by kernel_rfl) (by kernel_rfl) (fun _ _ _ h => h) (Or.inl ⟨by kernel_rfl, ?_⟩) (by assumption) ?_
          rotate_left
          · (intro w hSw; (try dsimp only at hSw); go_simp)
            try (with_reducible rfl)
          rotate_left
          try simp (maxSteps := 4000000) only [Act.put, List.setIfInBounds_toArray, List.set_cons_zero, List.set_cons_succ, List.getElem_toArray, List.getElem_cons_zero, List.getElem_cons_succ]
          refine wpAnyH_ready (rs := [4]) (by kernel_rfl) (by simp) ?_
          refine AllReadyH.cons rfl (fun K2 hK2 => ?_) AllReadyH.nil
          go_simp
          refine hK2.out _ _ hHeld (fun hHeld2 => ?_)
          clear hK2 K2 hHeld
          have hHeld := hHeld2
          clear hHeld2
          try simp (maxSteps := 4000000) only [Act.put, List.setIfInBounds_toArray, List.set_cons_zero, List.set_cons_succ]
          refine wpAnyH_take (i := 10) (v := ?_) rfl (by kernel_rfl) (by kernel_rfl) (by kernel_rfl) (fun _ _ _ h => h) (Or.inl ⟨by kernel_rfl, ?_⟩) (by assumption) ?_
          rotate_left
          · (intro w hSw; (try dsimp only at hSw); go_simp)
            try (with_reducible rfl)
          rotate_left
          try simp (maxSteps := 4000000) only [Act.put, List.setIfInBounds_toArray, List.set_cons_zero, List.set_cons_succ, List.getElem_toArray, List.getElem_cons_zero, List.getElem_cons_succ]
          refine wpAnyH_take (i := 11) (v := ?_) rfl (by kernel_rfl) (by kernel_rfl) (by kernel_rfl) (fun _ _ _ h => h) (Or.inl ⟨by kernel_rfl, ?_⟩) (by assumption) ?_
          rotate_left
          · (intro w hSw; (try dsimp only at hSw); go_simp)
            try (with_reducible rfl)
          rotate_left
          try simp (maxSteps := 4000000) only [Act.put, List.setIfInBounds_toArray, List.set_cons_zero, List.set_cons_succ, List.getElem_toArray, List.getElem_cons_zero, List.getElem_cons_succ]
          refine wpAnyH_take (i := 12) (v := ?_) rfl (by kernel_rfl) (by kernel_rfl) (by kernel_rfl) (fun _ _ _ h => h) (Or.inl ⟨by kernel_rfl, ?_⟩) (by assumption) ?_
          rotate_left
          · (intro w hSw; (try dsimp only at hSw); go_simp)
            try (with_reducible rfl)
          rotate_left
          try simp (maxSteps := 4000000) only [Act.put, List.setIfInBounds_toArray, List.set_cons_zero, List.set_cons_succ, List.getElem_toArray, List.getElem_cons_zero, List.getElem_cons_succ]
          refine wpAnyH_done (by kernel_rfl) ?_ _
          go_wp2_with fail
          go_roundw
          case rel => exact ⟨2, by omega, by go_num, by rw [HS1.out], hHeld.2.1⟩
          case measure => simp [intOf]
      · have hx0 : 0 ≤ x2 := b2
        have hx1 : x2 ≤ 65535 := c2
        have k := k2
        clear k0 k1 k2 k3 k4 k5
        have hx : f 2 = x2 := by rw [← HFX.out]; rfl
        obtain ⟨x, hxx⟩ : ∃ x, x2 = x := ⟨_, rfl⟩
        rw [hxx] at hx0 hx1 k hx
        clear hxx
        obtain ⟨D, hD⟩ : ∃ D, (⟨(Lib.itoa x).toArray⟩ : ByteArray) = D := ⟨_, rfl⟩
        obtain ⟨s0, hs0⟩ : ∃ s0, wB f 2 = s0 := ⟨_, rfl⟩
        rw [hs0]
        have HS1 : Hid (wB f 3 = s0 ++ ((⟨#[32, 101, 110, 100, 101, 100, 32]⟩ : ByteArray) ++ D)) := Lib.hid (by rw [← hs0, ← hD, ← hx]; rfl)
        have HN : Hid (∀ w7 : World, Calls Tryd.prog 15 #[.int .i64 x] w7 fun e' w' => e' = .returned (.string D) ∧ Below w7.heap.size w7 w') := Lib.hid (fun w7 => by rw [← hD]; exact num_int x hx0 hx1 w7)
        have zd : D.size ≤ 21 := by rw [← hD]; exact dig_size x (by omega) (by omega)
        have z0 : s0.size ≤ 40 * 2 := by rw [← hs0]; exact w_size f HF.out 2
        have z1 : (⟨#[32, 101, 110, 100, 101, 100, 32]⟩ : ByteArray).size = 7 := rfl
        have q1 : ¬ 9223372036854775807 < (⟨#[32, 101, 110, 100, 101, 100, 32]⟩ : ByteArray).size + D.size := by rw [z1]; omega
        have q2 : ¬ 9223372036854775807 < s0.size + ((⟨#[32, 101, 110, 100, 101, 100, 32]⟩ : ByteArray).size + D.size) := by rw [z1]; omega
        have q3 : ¬ 9223372036854775807 < 7 + D.size := by omega
        have q4 : ¬ 9223372036854775807 < s0.size + (7 + D.size) := by omega
        clear z1 hD hs0 hx
        have i00 : (((2 : Nat)) : Int) = 2 := rfl
        rw [i00]
        clear i00
        go_upto_region 6 with (fail)
        refine wp_region_held_drew (S := (fun w' => w'.cell? ⟨lb, 2, none⟩ = some (.int .i64 x) ∧ Hid (Below C.heap.size C w') ∧ lb < w'.heap.size)) (by kernel_rfl) ?_ (fun hHeld => ?_)
        · exact ⟨k, Lib.hid HB.out.drew, hl⟩
        clear k hl HB
        refine wpAnyH_take (i := 0) (v := ?_) rfl (by kernel_rfl) (by kernel_rfl) (by kernel_rfl) (fun _ _ _ h => h) (Or.inl ⟨by kernel_rfl, ?_⟩) (by assumption) ?_
        rotate_left
        · (intro w hSw; (try dsimp only at hSw); go_simp)
          try (with_reducible rfl)
        rotate_left
        try simp (maxSteps := 4000000) only [Act.put, List.setIfInBounds_toArray, List.set_cons_zero, List.set_cons_succ, List.getElem_toArray, List.getElem_cons_zero, List.getElem_cons_succ]
        refine wpAnyH_take (i := 2) (v := ?_) rfl (by kernel_rfl) (by kernel_rfl) (by kernel_rfl) (fun _ _ _ h => h) (Or.inl ⟨by kernel_rfl, ?_⟩) (by assumption) ?_
        rotate_left
        · (intro w hSw; (try dsimp only at hSw); go_simp)
          try (with_reducible rfl)
        rotate_left
        try simp (maxSteps := 4000000) only [Act.put, List.setIfInBounds_toArray, List.set_cons_zero, List.set_cons_succ, List.getElem_toArray, List.getElem_cons_zero, List.getElem_cons_succ]
        refine wpAnyH_take (i := 5) (v := ?_) rfl (by kernel_rfl) (by kernel_rfl) (by kernel_rfl) (fun _ _ _ h => h) (Or.inl ⟨by kernel_rfl, ?_⟩) (by assumption) ?_
        rotate_left
        · (intro w hSw; (try dsimp only at hSw); go_simp)
          try (with_reducible rfl)
        rotate_left
        try simp (maxSteps := 4000000) only [Act.put, List.setIfInBounds_toArray, List.set_cons_zero, List.set_cons_succ, List.getElem_toArray, List.getElem_cons_zero, List.getElem_cons_succ]
        refine wpAnyH_take (i := 6) (v := ?_) rfl (by kernel_rfl) (by kernel_rfl) (by kernel_rfl) (fun _ _ _ h => h) (Or.inl ⟨by kernel_rfl, ?_⟩) (by assumption) ?_
        rotate_left
        · (intro w hSw; (try dsimp only at hSw); go_simp)
          try (with_reducible rfl)
        rotate_left
        try simp (maxSteps := 4000000) only [Act.put, List.setIfInBounds_toArray, List.set_cons_zero, List.set_cons_succ, List.getElem_toArray, List.getElem_cons_zero, List.getElem_cons_succ]
        refine wpAnyH_take (i := 7) (v := ?_) rfl (by kernel_rfl) (by kernel_rfl) (by kernel_rfl) (fun _ _ _ h => h) (Or.inl ⟨by kernel_rfl, ?_⟩) (by assumption) ?_
        rotate_left
        · (intro w hSw; (try dsimp only at hSw); go_simp)
          try (with_reducible rfl)
        rotate_left
        try simp (maxSteps := 4000000) only [Act.put, List.setIfInBounds_toArray, List.set_cons_zero, List.set_cons_succ, List.getElem_toArray, List.getElem_cons_zero, List.getElem_cons_succ]
        refine wpAnyH_take (i := 8) (v := ?_) rfl (by kernel_rfl) (by kernel_rfl) (by kernel_rfl) (fun _ _ _ h => h) (Or.inl ⟨by kernel_rfl, ?_⟩) (by assumption) ?_
        rotate_left
        · (intro w hSw; (try dsimp only at hSw); go_simp)
          try (with_reducible rfl)
        rotate_left
        try simp (maxSteps := 4000000) only [Act.put, List.setIfInBounds_toArray, List.set_cons_zero, List.set_cons_succ, List.getElem_toArray, List.getElem_cons_zero, List.getElem_cons_succ]
        refine wpAnyH_ready (rs := [1, 9]) (by kernel_rfl) (by simp) ?_
        refine AllReadyH.cons rfl (fun K2 hK2 => ?_) (AllReadyH.cons rfl (fun K2 hK2 => ?_) AllReadyH.nil)
        all_goals go_simp
        · refine hK2.out _ _ ?_ (fun hHeld2 => ?_)
          · exact ⟨(World.cell?_alloc_lt _ _ _ hHeld.2.2).trans hHeld.1, Lib.hid (alc hHeld.2.1.out _), by first | (rw [World.size_alloc]; exact Nat.lt_succ_of_lt hHeld.2.2) | (have h9 := hHeld.2.2; simp at h9 ⊢; omega) | (show lb < (World.alloc wr _).heap.size; rw [World.size_alloc]; exact Nat.lt_succ_of_lt hHeld.2.2)⟩
          clear hK2 K2 hHeld
          have hHeld := hHeld2
          clear hHeld2
          try simp (maxSteps := 4000000) only [Act.put, List.setIfInBounds_toArray, List.set_cons_zero, List.set_cons_succ]
          refine wpAnyH_take (i := 3) (v := ?_) rfl (by kernel_rfl) (by kernel_rfl) (by kernel_rfl) (fun _ _ _ h => h) (Or.inl ⟨by kernel_rfl, ?_⟩) (by assumption) ?_
          rotate_left
          · (intro w hSw; (try dsimp only at hSw); go_simp)
            try (with_reducible rfl)
          rotate_left
          try simp (maxSteps := 4000000) only [Act.put, List.setIfInBounds_toArray, List.set_cons_zero, List.set_cons_succ, List.getElem_toArray, List.getElem_cons_zero, List.getElem_cons_succ]
          refine wpAnyH_ready (rs := [4, 9]) (by kernel_rfl) (by simp) ?_
          refine AllReadyH.cons rfl (fun K2 hK2 => ?_) (AllReadyH.cons rfl (fun K2 hK2 => ?_) AllReadyH.nil)
          all_goals go_simp
          · refine hK2.out _ _ hHeld (fun hHeld2 => ?_)
            clear hK2 K2 hHeld
            have hHeld := hHeld2
            clear hHeld2
            try simp (maxSteps := 4000000) only [Act.put, List.setIfInBounds_toArray, List.set_cons_zero, List.set_cons_succ]
            refine wpAnyH_ready (rs := [9]) (by kernel_rfl) (by simp) ?_
            refine AllReadyH.cons rfl (fun K2 hK2 => ?_) AllReadyH.nil
            go_simp
            with_reducible refine Calls.mono (HN.out _) ?_
            rintro e9 w9 ⟨rfl, hb⟩
            refine hK2.out _ _ ?_ (fun hHeld2 => ?_)
            · exact ⟨(hb.cell (p := ⟨lb, 2, none⟩) hHeld.2.2).trans hHeld.1, Lib.hid (thn hHeld.2.1.out hb), Nat.lt_of_lt_of_le hHeld.2.2 hb.size⟩
            clear hb
            clear hK2 K2 hHeld
            have hHeld := hHeld2
            clear hHeld2
            try simp (maxSteps := 4000000) only [Act.put, List.setIfInBounds_toArray, List.set_cons_zero, List.set_cons_succ]
            refine wpAnyH_take (i := 10) (v := ?_) rfl (by kernel_rfl) (by kernel_rfl) (by kernel_rfl) (fun _ _ _ h => h) (Or.inl ⟨by kernel_rfl, ?_⟩) (by assumption) ?_
            rotate_left
            · (intro w hSw; (try dsimp only at hSw); go_simp)
              try (with_reducible rfl)
            rotate_left
            try simp (maxSteps := 4000000) only [Act.put, List.setIfInBounds_toArray, List.set_cons_zero, List.set_cons_succ, List.getElem_toArray, List.getElem_cons_zero, List.getElem_cons_succ]
            refine wpAnyH_take (i := 11) (v := ?_) rfl (by kernel_rfl) (by kernel_rfl) (by kernel_rfl) (fun _ _ _ h => h) (Or.inl ⟨by kernel_rfl, ?_⟩) (by assumption) ?_
            rotate_left
            · (intro w hSw; (try dsimp only at hSw); go_simp)
              try (with_reducible rfl)
            rotate_left
            try simp (maxSteps := 4000000) only [Act.put, List.setIfInBounds_toArray, List.set_cons_zero, List.set_cons_succ, List.getElem_toArray, List.getElem_cons_zero, List.getElem_cons_succ]
            refine wpAnyH_take (i := 12) (v := ?_) rfl (by kernel_rfl) (by kernel_rfl) (by kernel_rfl) (fun _ _ _ h => h) (Or.inl ⟨by kernel_rfl, ?_⟩) (by assumption) ?_
            rotate_left
            · (intro w hSw; (try dsimp only at hSw); go_simp)
              try (with_reducible rfl)
            rotate_left
            try simp (maxSteps := 4000000) only [Act.put, List.setIfInBounds_toArray, List.set_cons_zero, List.set_cons_succ, List.getElem_toArray, List.getElem_cons_zero, List.getElem_cons_succ]
            refine wpAnyH_done (by kernel_rfl) ?_ _
            go_wp2_with fail
            go_roundw
            case rel => exact ⟨3, by omega, by go_num, by rw [HS1.out], hHeld.2.1⟩
            case measure => simp [intOf]
          · with_reducible refine Calls.mono (HN.out _) ?_
            rintro e9 w9 ⟨rfl, hb⟩
            refine hK2.out _ _ ?_ (fun hHeld2 => ?_)
            · exact ⟨(hb.cell (p := ⟨lb, 2, none⟩) hHeld.2.2).trans hHeld.1, Lib.hid (thn hHeld.2.1.out hb), Nat.lt_of_lt_of_le hHeld.2.2 hb.size⟩
            have hz9 : w9.cell? ⟨wr.heap.size, 2, none⟩ = some (Value.string ⟨#[32, 101, 110, 100, 101, 100, 32]⟩) := (hb.cell (p := ⟨wr.heap.size, 2, none⟩) (by first | (simp; done) | (show wr.heap.size < (World.alloc wr _).heap.size; rw [World.size_alloc]; omega))).trans (by first | (simp; done) | (show (World.alloc wr _).cell? _ = _; simp))
            clear hb
            clear hK2 K2 hHeld
            have hHeld := hHeld2
            clear hHeld2
            try simp (maxSteps := 4000000) only [Act.put, List.setIfInBounds_toArray, List.set_cons_zero, List.set_cons_succ]
            refine wpAnyH_ready (rs := [4]) (by kernel_rfl) (by simp) ?_
            refine AllReadyH.cons rfl (fun K2 hK2 => ?_) AllReadyH.nil
            go_simp
            refine hK2.out _ _ hHeld (fun hHeld2 => ?_)
            clear hK2 K2 hHeld
            have hHeld := hHeld2
            clear hHeld2
            try simp (maxSteps := 4000000) only [Act.put, List.setIfInBounds_toArray, List.set_cons_zero, List.set_cons_succ]
            refine wpAnyH_take (i := 10) (v := ?_) rfl (by kernel_rfl) (by kernel_rfl) (by kernel_rfl) (fun _ _ _ h => h) (Or.inl ⟨by kernel_rfl, ?_⟩) (by assumption) ?_
            rotate_left
            · (intro w hSw; (try dsimp only at hSw); go_simp)
              try (with_reducible rfl)
            rotate_left
            try simp (maxSteps := 4000000) only [Act.put, List.setIfInBounds_toArray, List.set_cons_zero, List.set_cons_succ, List.getElem_toArray, List.getElem_cons_zero, List.getElem_cons_succ]
            refine wpAnyH_take (i := 11) (v := ?_) rfl (by kernel_rfl) (by kernel_rfl) (by kernel_rfl) (fun _ _ _ h => h) (Or.inl ⟨by kernel_rfl, ?_⟩) (by assumption) ?_
            rotate_left
            · (intro w hSw; (try dsimp only at hSw); go_simp)
              try (with_reducible rfl)
            rotate_left
            try simp (maxSteps := 4000000) only [Act.put, List.setIfInBounds_toArray, List.set_cons_zero, List.set_cons_succ, List.getElem_toArray, List.getElem_cons_zero, List.getElem_cons_succ]
            refine wpAnyH_take (i := 12) (v := ?_) rfl (by kernel_rfl) (by kernel_rfl) (by kernel_rfl) (fun _ _ _ h => h) (Or.inl ⟨by kernel_rfl, ?_⟩) (by assumption) ?_
            rotate_left
            · (intro w hSw; (try dsimp only at hSw); go_simp)
              try (with_reducible rfl)
            rotate_left
            try simp (maxSteps := 4000000) only [Act.put, List.setIfInBounds_toArray, List.set_cons_zero, List.set_cons_succ, List.getElem_toArray, List.getElem_cons_zero, List.getElem_cons_succ]
            refine wpAnyH_done (by kernel_rfl) ?_ _
            go_wp2_with fail
            go_roundw
            case rel => exact ⟨3, by omega, by go_num, by rw [HS1.out], hHeld.2.1⟩
            case measure => simp [intOf]
        · with_reducible refine Calls.mono (HN.out _) ?_
          rintro e9 w9 ⟨rfl, hb⟩
          refine hK2.out _ _ ?_ (fun hHeld2 => ?_)
          · exact ⟨(hb.cell (p := ⟨lb, 2, none⟩) hHeld.2.2).trans hHeld.1, Lib.hid (thn hHeld.2.1.out hb), Nat.lt_of_lt_of_le hHeld.2.2 hb.size⟩
          clear hb
          clear hK2 K2 hHeld
          have hHeld := hHeld2
          clear hHeld2
          try simp (maxSteps := 4000000) only [Act.put, List.setIfInBounds_toArray, List.set_cons_zero, List.set_cons_succ]
          refine wpAnyH_ready (rs := [1]) (by kernel_rfl) (by simp) ?_
          refine AllReadyH.cons rfl (fun K2 hK2 => ?_) AllReadyH.nil
          go_simp
          refine hK2.out _ _ ?_ (fun hHeld2 => ?_)
          · exact ⟨(World.cell?_alloc_lt _ _ _ hHeld.2.2).trans hHeld.1, Lib.hid (alc hHeld.2.1.out _), by first | (rw [World.size_alloc]; exact Nat.lt_succ_of_lt hHeld.2.2) | (have h9 := hHeld.2.2; simp at h9 ⊢; omega) | (show lb < (World.alloc wr _).heap.size; rw [World.size_alloc]; exact Nat.lt_succ_of_lt hHeld.2.2)⟩
          clear hK2 K2 hHeld
          have hHeld := hHeld2
          clear hHeld2
          try simp (maxSteps := 4000000) only [Act.put, List.setIfInBounds_toArray, List.set_cons_zero, List.set_cons_succ]
          refine wpAnyH_take (i := 3) (v := ?_) rfl (by kernel_rfl) (by kernel_rfl) (by kernel_rfl) (fun _ _ _ h => h) (Or.inl ⟨by kernel_rfl, ?_⟩) (by assumption) ?_
          rotate_left
          · (intro w hSw; (try dsimp only at hSw); go_simp)
            try (with_reducible rfl)
          rotate_left
          try simp (maxSteps := 4000000) only [Act.put, List.setIfInBounds_toArray, List.set_cons_zero, List.set_cons_succ, List.getElem_toArray, List.getElem_cons_zero, List.getElem_cons_succ]
          refine wpAnyH_ready (rs := [4]) (by kernel_rfl) (by simp) ?_
          refine AllReadyH.cons rfl (fun K2 hK2 => ?_) AllReadyH.nil
          go_simp
          refine hK2.out _ _ hHeld (fun hHeld2 => ?_)
          clear hK2 K2 hHeld
          have hHeld := hHeld2
          clear hHeld2
          try simp (maxSteps := 4000000) only [Act.put, List.setIfInBounds_toArray, List.set_cons_zero, List.set_cons_succ]
          refine wpAnyH_take (i := 10) (v := ?_) rfl (by kernel_rfl) (by kernel_rfl) (by kernel_rfl) (fun _ _ _ h => h) (Or.inl ⟨by kernel_rfl, ?_⟩) (by assumption) ?_
          rotate_left
          · (intro w hSw; (try dsimp only at hSw); go_simp)
            try (with_reducible rfl)
          rotate_left
          try simp (maxSteps := 4000000) only [Act.put, List.setIfInBounds_toArray, List.set_cons_zero, List.set_cons_succ, List.getElem_toArray, List.getElem_cons_zero, List.getElem_cons_succ]
          refine wpAnyH_take (i := 11) (v := ?_) rfl (by kernel_rfl) (by kernel_rfl) (by kernel_rfl) (fun _ _ _ h => h) (Or.inl ⟨by kernel_rfl, ?_⟩) (by assumption) ?_
          rotate_left
          · (intro w hSw; (try dsimp only at hSw); go_simp)
            try (with_reducible rfl)
          rotate_left
          try simp (maxSteps := 4000000) only [Act.put, List.setIfInBounds_toArray, List.set_cons_zero, List.set_cons_succ, List.getElem_toArray, List.getElem_cons_zero, List.getElem_cons_succ]
          refine wpAnyH_take (i := 12) (v := ?_) rfl (by kernel_rfl) (by kernel_rfl) (by kernel_rfl) (fun _ _ _ h => h) (Or.inl ⟨by kernel_rfl, ?_⟩) (by assumption) ?_
          rotate_left
          · (intro w hSw; (try dsimp only at hSw); go_simp)
            try (with_reducible rfl)
          rotate_left
          try simp (maxSteps := 4000000) only [Act.put, List.setIfInBounds_toArray, List.set_cons_zero, List.set_cons_succ, List.getElem_toArray, List.getElem_cons_zero, List.getElem_cons_succ]
          refine wpAnyH_done (by kernel_rfl) ?_ _
          go_wp2_with fail
          go_roundw
          case rel => exact ⟨3, by omega, by go_num, by rw [HS1.out], hHeld.2.1⟩
          case measure => simp [intOf]
      · have hx0 : 0 ≤ x3 := b3
        have hx1 : x3 ≤ 65535 := c3
        have k := k3
        clear k0 k1 k2 k3 k4 k5
        have hx : f 3 = x3 := by rw [← HFX.out]; rfl
        obtain ⟨x, hxx⟩ : ∃ x, x3 = x := ⟨_, rfl⟩
        rw [hxx] at hx0 hx1 k hx
        clear hxx
        obtain ⟨D, hD⟩ : ∃ D, (⟨(Lib.itoa x).toArray⟩ : ByteArray) = D := ⟨_, rfl⟩
        obtain ⟨s0, hs0⟩ : ∃ s0, wB f 3 = s0 := ⟨_, rfl⟩
        rw [hs0]
        have HS1 : Hid (wB f 4 = s0 ++ ((⟨#[32, 108, 105, 118, 101, 32]⟩ : ByteArray) ++ D)) := Lib.hid (by rw [← hs0, ← hD, ← hx]; rfl)
        have HN : Hid (∀ w7 : World, Calls Tryd.prog 15 #[.int .i64 x] w7 fun e' w' => e' = .returned (.string D) ∧ Below w7.heap.size w7 w') := Lib.hid (fun w7 => by rw [← hD]; exact num_int x hx0 hx1 w7)
        have zd : D.size ≤ 21 := by rw [← hD]; exact dig_size x (by omega) (by omega)
        have z0 : s0.size ≤ 40 * 3 := by rw [← hs0]; exact w_size f HF.out 3
        have z1 : (⟨#[32, 108, 105, 118, 101, 32]⟩ : ByteArray).size = 6 := rfl
        have q1 : ¬ 9223372036854775807 < (⟨#[32, 108, 105, 118, 101, 32]⟩ : ByteArray).size + D.size := by rw [z1]; omega
        have q2 : ¬ 9223372036854775807 < s0.size + ((⟨#[32, 108, 105, 118, 101, 32]⟩ : ByteArray).size + D.size) := by rw [z1]; omega
        have q3 : ¬ 9223372036854775807 < 6 + D.size := by omega
        have q4 : ¬ 9223372036854775807 < s0.size + (6 + D.size) := by omega
        clear z1 hD hs0 hx
        have i00 : (((3 : Nat)) : Int) = 3 := rfl
        rw [i00]
        clear i00
        go_upto_region 6 with (fail)
        refine wp_region_held_drew (S := (fun w' => w'.cell? ⟨lb, 3, none⟩ = some (.int .i64 x) ∧ Hid (Below C.heap.size C w') ∧ lb < w'.heap.size)) (by kernel_rfl) ?_ (fun hHeld => ?_)
        · exact ⟨k, Lib.hid HB.out.drew, hl⟩
        clear k hl HB
        refine wpAnyH_take (i := 0) (v := ?_) rfl (by kernel_rfl) (by kernel_rfl) (by kernel_rfl) (fun _ _ _ h => h) (Or.inl ⟨by kernel_rfl, ?_⟩) (by assumption) ?_
        rotate_left
        · (intro w hSw; (try dsimp only at hSw); go_simp)
          try (with_reducible rfl)
        rotate_left
        try simp (maxSteps := 4000000) only [Act.put, List.setIfInBounds_toArray, List.set_cons_zero, List.set_cons_succ, List.getElem_toArray, List.getElem_cons_zero, List.getElem_cons_succ]
        refine wpAnyH_take (i := 2) (v := ?_) rfl (by kernel_rfl) (by kernel_rfl) (by kernel_rfl) (fun _ _ _ h => h) (Or.inl ⟨by kernel_rfl, ?_⟩) (by assumption) ?_
        rotate_left
        · (intro w hSw; (try dsimp only at hSw); go_simp)
          try (with_reducible rfl)
        rotate_left
        try simp (maxSteps := 4000000) only [Act.put, List.setIfInBounds_toArray, List.set_cons_zero, List.set_cons_succ, List.getElem_toArray, List.getElem_cons_zero, List.getElem_cons_succ]
        refine wpAnyH_take (i := 5) (v := ?_) rfl (by kernel_rfl) (by kernel_rfl) (by kernel_rfl) (fun _ _ _ h => h) (Or.inl ⟨by kernel_rfl, ?_⟩) (by assumption) ?_
        rotate_left
        · (intro w hSw; (try dsimp only at hSw); go_simp)
          try (with_reducible rfl)
        rotate_left
        try simp (maxSteps := 4000000) only [Act.put, List.setIfInBounds_toArray, List.set_cons_zero, List.set_cons_succ, List.getElem_toArray, List.getElem_cons_zero, List.getElem_cons_succ]
        refine wpAnyH_take (i := 6) (v := ?_) rfl (by kernel_rfl) (by kernel_rfl) (by kernel_rfl) (fun _ _ _ h => h) (Or.inl ⟨by kernel_rfl, ?_⟩) (by assumption) ?_
        rotate_left
        · (intro w hSw; (try dsimp only at hSw); go_simp)
          try (with_reducible rfl)
        rotate_left
        try simp (maxSteps := 4000000) only [Act.put, List.setIfInBounds_toArray, List.set_cons_zero, List.set_cons_succ, List.getElem_toArray, List.getElem_cons_zero, List.getElem_cons_succ]
        refine wpAnyH_take (i := 7) (v := ?_) rfl (by kernel_rfl) (by kernel_rfl) (by kernel_rfl) (fun _ _ _ h => h) (Or.inl ⟨by kernel_rfl, ?_⟩) (by assumption) ?_
        rotate_left
        · (intro w hSw; (try dsimp only at hSw); go_simp)
          try (with_reducible rfl)
        rotate_left
        try simp (maxSteps := 4000000) only [Act.put, List.setIfInBounds_toArray, List.set_cons_zero, List.set_cons_succ, List.getElem_toArray, List.getElem_cons_zero, List.getElem_cons_succ]
        refine wpAnyH_take (i := 8) (v := ?_) rfl (by kernel_rfl) (by kernel_rfl) (by kernel_rfl) (fun _ _ _ h => h) (Or.inl ⟨by kernel_rfl, ?_⟩) (by assumption) ?_
        rotate_left
        · (intro w hSw; (try dsimp only at hSw); go_simp)
          try (with_reducible rfl)
        rotate_left
        try simp (maxSteps := 4000000) only [Act.put, List.setIfInBounds_toArray, List.set_cons_zero, List.set_cons_succ, List.getElem_toArray, List.getElem_cons_zero, List.getElem_cons_succ]
        refine wpAnyH_ready (rs := [1, 9]) (by kernel_rfl) (by simp) ?_
        refine AllReadyH.cons rfl (fun K2 hK2 => ?_) (AllReadyH.cons rfl (fun K2 hK2 => ?_) AllReadyH.nil)
        all_goals go_simp
        · refine hK2.out _ _ ?_ (fun hHeld2 => ?_)
          · exact ⟨(World.cell?_alloc_lt _ _ _ hHeld.2.2).trans hHeld.1, Lib.hid (alc hHeld.2.1.out _), by first | (rw [World.size_alloc]; exact Nat.lt_succ_of_lt hHeld.2.2) | (have h9 := hHeld.2.2; simp at h9 ⊢; omega) | (show lb < (World.alloc wr _).heap.size; rw [World.size_alloc]; exact Nat.lt_succ_of_lt hHeld.2.2)⟩
          clear hK2 K2 hHeld
          have hHeld := hHeld2
          clear hHeld2
          try simp (maxSteps := 4000000) only [Act.put, List.setIfInBounds_toArray, List.set_cons_zero, List.set_cons_succ]
          refine wpAnyH_take (i := 3) (v := ?_) rfl (by kernel_rfl) (by kernel_rfl) (by kernel_rfl) (fun _ _ _ h => h) (Or.inl ⟨by kernel_rfl, ?_⟩) (by assumption) ?_
          rotate_left
          · (intro w hSw; (try dsimp only at hSw); go_simp)
            try (with_reducible rfl)
          rotate_left
          try simp (maxSteps := 4000000) only [Act.put, List.setIfInBounds_toArray, List.set_cons_zero, List.set_cons_succ, List.getElem_toArray, List.getElem_cons_zero, List.getElem_cons_succ]
          refine wpAnyH_ready (rs := [4, 9]) (by kernel_rfl) (by simp) ?_
          refine AllReadyH.cons rfl (fun K2 hK2 => ?_) (AllReadyH.cons rfl (fun K2 hK2 => ?_) AllReadyH.nil)
          all_goals go_simp
          · refine hK2.out _ _ hHeld (fun hHeld2 => ?_)
            clear hK2 K2 hHeld
            have hHeld := hHeld2
            clear hHeld2
            try simp (maxSteps := 4000000) only [Act.put, List.setIfInBounds_toArray, List.set_cons_zero, List.set_cons_succ]
            refine wpAnyH_ready (rs := [9]) (by kernel_rfl) (by simp) ?_
            refine AllReadyH.cons rfl (fun K2 hK2 => ?_) AllReadyH.nil
            go_simp
            with_reducible refine Calls.mono (HN.out _) ?_
            rintro e9 w9 ⟨rfl, hb⟩
            refine hK2.out _ _ ?_ (fun hHeld2 => ?_)
            · exact ⟨(hb.cell (p := ⟨lb, 3, none⟩) hHeld.2.2).trans hHeld.1, Lib.hid (thn hHeld.2.1.out hb), Nat.lt_of_lt_of_le hHeld.2.2 hb.size⟩
            clear hb
            clear hK2 K2 hHeld
            have hHeld := hHeld2
            clear hHeld2
            try simp (maxSteps := 4000000) only [Act.put, List.setIfInBounds_toArray, List.set_cons_zero, List.set_cons_succ]
            refine wpAnyH_take (i := 10) (v := ?_) rfl (by kernel_rfl) (by kernel_rfl) (by kernel_rfl) (fun _ _ _ h => h) (Or.inl ⟨by kernel_rfl, ?_⟩) (by assumption) ?_
            rotate_left
            · (intro w hSw; (try dsimp only at hSw); go_simp)
              try (with_reducible rfl)
            rotate_left
            try simp (maxSteps := 4000000) only [Act.put, List.setIfInBounds_toArray, List.set_cons_zero, List.set_cons_succ, List.getElem_toArray, List.getElem_cons_zero, List.getElem_cons_succ]
            refine wpAnyH_take (i := 11) (v := ?_) rfl (by kernel_rfl) (by kernel_rfl) (by kernel_rfl) (fun _ _ _ h => h) (Or.inl ⟨by kernel_rfl, ?_⟩) (by assumption) ?_
            rotate_left
            · (intro w hSw; (try dsimp only at hSw); go_simp)
              try (with_reducible rfl)
            rotate_left
            try simp (maxSteps := 4000000) only [Act.put, List.setIfInBounds_toArray, List.set_cons_zero, List.set_cons_succ, List.getElem_toArray, List.getElem_cons_zero, List.getElem_cons_succ]
            refine wpAnyH_take (i := 12) (v := ?_) rfl (by kernel_rfl) (by kernel_rfl) (by kernel_rfl) (fun _ _ _ h => h) (Or.inl ⟨by kernel_rfl, ?_⟩) (by assumption) ?_
            rotate_left
            · (intro w hSw; (try dsimp only at hSw); go_simp)
              try (with_reducible rfl)
            rotate_left
            try simp (maxSteps := 4000000) only [Act.put, List.setIfInBounds_toArray, List.set_cons_zero, List.set_cons_succ, List.getElem_toArray, List.getElem_cons_zero, List.getElem_cons_succ]
            refine wpAnyH_done (by kernel_rfl) ?_ _
            go_wp2_with fail
            go_roundw
            case rel => exact ⟨4, by omega, by go_num, by rw [HS1.out], hHeld.2.1⟩
            case measure => simp [intOf]
          · with_reducible refine Calls.mono (HN.out _) ?_
            rintro e9 w9 ⟨rfl, hb⟩
            refine hK2.out _ _ ?_ (fun hHeld2 => ?_)
            · exact ⟨(hb.cell (p := ⟨lb, 3, none⟩) hHeld.2.2).trans hHeld.1, Lib.hid (thn hHeld.2.1.out hb), Nat.lt_of_lt_of_le hHeld.2.2 hb.size⟩
            have hz9 : w9.cell? ⟨wr.heap.size, 3, none⟩ = some (Value.string ⟨#[32, 108, 105, 118, 101, 32]⟩) := (hb.cell (p := ⟨wr.heap.size, 3, none⟩) (by first | (simp; done) | (show wr.heap.size < (World.alloc wr _).heap.size; rw [World.size_alloc]; omega))).trans (by first | (simp; done) | (show (World.alloc wr _).cell? _ = _; simp))
            clear hb
            clear hK2 K2 hHeld
            have hHeld := hHeld2
            clear hHeld2
            try simp (maxSteps := 4000000) only [Act.put, List.setIfInBounds_toArray, List.set_cons_zero, List.set_cons_succ]
            refine wpAnyH_ready (rs := [4]) (by kernel_rfl) (by simp) ?_
            refine AllReadyH.cons rfl (fun K2 hK2 => ?_) AllReadyH.nil
            go_simp
            refine hK2.out _ _ hHeld (fun hHeld2 => ?_)
            clear hK2 K2 hHeld
            have hHeld := hHeld2
            clear hHeld2
            try simp (maxSteps := 4000000) only [Act.put, List.setIfInBounds_toArray, List.set_cons_zero, List.set_cons_succ]
            refine wpAnyH_take (i := 10) (v := ?_) rfl (by kernel_rfl) (by kernel_rfl) (by kernel_rfl) (fun _ _ _ h => h) (Or.inl ⟨by kernel_rfl, ?_⟩) (by assumption) ?_
            rotate_left
            · (intro w hSw; (try dsimp only at hSw); go_simp)
              try (with_reducible rfl)
            rotate_left
            try simp (maxSteps := 4000000) only [Act.put, List.setIfInBounds_toArray, List.set_cons_zero, List.set_cons_succ, List.getElem_toArray, List.getElem_cons_zero, List.getElem_cons_succ]
            refine wpAnyH_take (i := 11) (v := ?_) rfl (by kernel_rfl) (by kernel_rfl) (by kernel_rfl) (fun _ _ _ h => h) (Or.inl ⟨by kernel_rfl, ?_⟩) (by assumption) ?_
            rotate_left
            · (intro w hSw; (try dsimp only at hSw); go_simp)
              try (with_reducible rfl)
            rotate_left
            try simp (maxSteps := 4000000) only [Act.put, List.setIfInBounds_toArray, List.set_cons_zero, List.set_cons_succ, List.getElem_toArray, List.getElem_cons_zero, List.getElem_cons_succ]
            refine wpAnyH_take (i := 12) (v := ?_) rfl (by kernel_rfl) (by kernel_rfl) (by kernel_rfl) (fun _ _ _ h => h) (Or.inl ⟨by kernel_rfl, ?_⟩) (by assumption) ?_
            rotate_left
            · (intro w hSw; (try dsimp only at hSw); go_simp)
              try (with_reducible rfl)
            rotate_left
            try simp (maxSteps := 4000000) only [Act.put, List.setIfInBounds_toArray, List.set_cons_zero, List.set_cons_succ, List.getElem_toArray, List.getElem_cons_zero, List.getElem_cons_succ]
            refine wpAnyH_done (by kernel_rfl) ?_ _
            go_wp2_with fail
            go_roundw
            case rel => exact ⟨4, by omega, by go_num, by rw [HS1.out], hHeld.2.1⟩
            case measure => simp [intOf]
        · with_reducible refine Calls.mono (HN.out _) ?_
          rintro e9 w9 ⟨rfl, hb⟩
          refine hK2.out _ _ ?_ (fun hHeld2 => ?_)
          · exact ⟨(hb.cell (p := ⟨lb, 3, none⟩) hHeld.2.2).trans hHeld.1, Lib.hid (thn hHeld.2.1.out hb), Nat.lt_of_lt_of_le hHeld.2.2 hb.size⟩
          clear hb
          clear hK2 K2 hHeld
          have hHeld := hHeld2
          clear hHeld2
          try simp (maxSteps := 4000000) only [Act.put, List.setIfInBounds_toArray, List.set_cons_zero, List.set_cons_succ]
          refine wpAnyH_ready (rs := [1]) (by kernel_rfl) (by simp) ?_
          refine AllReadyH.cons rfl (fun K2 hK2 => ?_) AllReadyH.nil
          go_simp
          refine hK2.out _ _ ?_ (fun hHeld2 => ?_)
          · exact ⟨(World.cell?_alloc_lt _ _ _ hHeld.2.2).trans hHeld.1, Lib.hid (alc hHeld.2.1.out _), by first | (rw [World.size_alloc]; exact Nat.lt_succ_of_lt hHeld.2.2) | (have h9 := hHeld.2.2; simp at h9 ⊢; omega) | (show lb < (World.alloc wr _).heap.size; rw [World.size_alloc]; exact Nat.lt_succ_of_lt hHeld.2.2)⟩
          clear hK2 K2 hHeld
          have hHeld := hHeld2
          clear hHeld2
          try simp (maxSteps := 4000000) only [Act.put, List.setIfInBounds_toArray, List.set_cons_zero, List.set_cons_succ]
          refine wpAnyH_take (i := 3) (v := ?_) rfl (by kernel_rfl) (by kernel_rfl) (by kernel_rfl) (fun _ _ _ h => h) (Or.inl ⟨by kernel_rfl, ?_⟩) (by assumption) ?_
          rotate_left
          · (intro w hSw; (try dsimp only at hSw); go_simp)
            try (with_reducible rfl)
          rotate_left
          try simp (maxSteps := 4000000) only [Act.put, List.setIfInBounds_toArray, List.set_cons_zero, List.set_cons_succ, List.getElem_toArray, List.getElem_cons_zero, List.getElem_cons_succ]
          refine wpAnyH_ready (rs := [4]) (by kernel_rfl) (by simp) ?_
          refine AllReadyH.cons rfl (fun K2 hK2 => ?_) AllReadyH.nil
          go_simp
          refine hK2.out _ _ hHeld (fun hHeld2 => ?_)
          clear hK2 K2 hHeld
          have hHeld := hHeld2
          clear hHeld2
          try simp (maxSteps := 4000000) only [Act.put, List.setIfInBounds_toArray, List.set_cons_zero, List.set_cons_succ]
          refine wpAnyH_take (i := 10) (v := ?_) rfl (by kernel_rfl) (by kernel_rfl) (by kernel_rfl) (fun _ _ _ h => h) (Or.inl ⟨by kernel_rfl, ?_⟩) (by assumption) ?_
          rotate_left
          · (intro w hSw; (try dsimp only at hSw); go_simp)
            try (with_reducible rfl)
          rotate_left
          try simp (maxSteps := 4000000) only [Act.put, List.setIfInBounds_toArray, List.set_cons_zero, List.set_cons_succ, List.getElem_toArray, List.getElem_cons_zero, List.getElem_cons_succ]
          refine wpAnyH_take (i := 11) (v := ?_) rfl (by kernel_rfl) (by kernel_rfl) (by kernel_rfl) (fun _ _ _ h => h) (Or.inl ⟨by kernel_rfl, ?_⟩) (by assumption) ?_
          rotate_left
          · (intro w hSw; (try dsimp only at hSw); go_simp)
            try (with_reducible rfl)
          rotate_left
          try simp (maxSteps := 4000000) only [Act.put, List.setIfInBounds_toArray, List.set_cons_zero, List.set_cons_succ, List.getElem_toArray, List.getElem_cons_zero, List.getElem_cons_succ]
          refine wpAnyH_take (i := 12) (v := ?_) rfl (by kernel_rfl) (by kernel_rfl) (by kernel_rfl) (fun _ _ _ h => h) (Or.inl ⟨by kernel_rfl, ?_⟩) (by assumption) ?_
          rotate_left
          · (intro w hSw; (try dsimp only at hSw); go_simp)
            try (with_reducible rfl)
          rotate_left
          try simp (maxSteps := 4000000) only [Act.put, List.setIfInBounds_toArray, List.set_cons_zero, List.set_cons_succ, List.getElem_toArray, List.getElem_cons_zero, List.getElem_cons_succ]
          refine wpAnyH_done (by kernel_rfl) ?_ _
          go_wp2_with fail
          go_roundw
          case rel => exact ⟨4, by omega, by go_num, by rw [HS1.out], hHeld.2.1⟩
          case measure => simp [intOf]
      · have hx0 : 0 ≤ x4 := b4
        have hx1 : x4 ≤ 65535 := c4
        have k := k4
        clear k0 k1 k2 k3 k4 k5
        have hx : f 4 = x4 := by rw [← HFX.out]; rfl
        obtain ⟨x, hxx⟩ : ∃ x, x4 = x := ⟨_, rfl⟩
        rw [hxx] at hx0 hx1 k hx
        clear hxx
        obtain ⟨D, hD⟩ : ∃ D, (⟨(Lib.itoa x).toArray⟩ : ByteArray) = D := ⟨_, rfl⟩
        obtain ⟨s0, hs0⟩ : ∃ s0, wB f 4 = s0 := ⟨_, rfl⟩
        rw [hs0]
        have HS1 : Hid (wB f 5 = s0 ++ ((⟨#[32, 112, 101, 97, 107, 32]⟩ : ByteArray) ++ D)) := Lib.hid (by rw [← hs0, ← hD, ← hx]; rfl)
        have HN : Hid (∀ w7 : World, Calls Tryd.prog 15 #[.int .i64 x] w7 fun e' w' => e' = .returned (.string D) ∧ Below w7.heap.size w7 w') := Lib.hid (fun w7 => by rw [← hD]; exact num_int x hx0 hx1 w7)
        have zd : D.size ≤ 21 := by rw [← hD]; exact dig_size x (by omega) (by omega)
        have z0 : s0.size ≤ 40 * 4 := by rw [← hs0]; exact w_size f HF.out 4
        have z1 : (⟨#[32, 112, 101, 97, 107, 32]⟩ : ByteArray).size = 6 := rfl
        have q1 : ¬ 9223372036854775807 < (⟨#[32, 112, 101, 97, 107, 32]⟩ : ByteArray).size + D.size := by rw [z1]; omega
        have q2 : ¬ 9223372036854775807 < s0.size + ((⟨#[32, 112, 101, 97, 107, 32]⟩ : ByteArray).size + D.size) := by rw [z1]; omega
        have q3 : ¬ 9223372036854775807 < 6 + D.size := by omega
        have q4 : ¬ 9223372036854775807 < s0.size + (6 + D.size) := by omega
        clear z1 hD hs0 hx
        have i00 : (((4 : Nat)) : Int) = 4 := rfl
        rw [i00]
        clear i00
        go_upto_region 6 with (fail)
        refine wp_region_held_drew (S := (fun w' => w'.cell? ⟨lb, 4, none⟩ = some (.int .i64 x) ∧ Hid (Below C.heap.size C w') ∧ lb < w'.heap.size)) (by kernel_rfl) ?_ (fun hHeld => ?_)
        · exact ⟨k, Lib.hid HB.out.drew, hl⟩
        clear k hl HB
        refine wpAnyH_take (i := 0) (v := ?_) rfl (by kernel_rfl) (by kernel_rfl) (by kernel_rfl) (fun _ _ _ h => h) (Or.inl ⟨by kernel_rfl, ?_⟩) (by assumption) ?_
        rotate_left
        · (intro w hSw; (try dsimp only at hSw); go_simp)
          try (with_reducible rfl)
        rotate_left
        try simp (maxSteps := 4000000) only [Act.put, List.setIfInBounds_toArray, List.set_cons_zero, List.set_cons_succ, List.getElem_toArray, List.getElem_cons_zero, List.getElem_cons_succ]
        refine wpAnyH_take (i := 2) (v := ?_) rfl (by kernel_rfl) (by kernel_rfl) (by kernel_rfl) (fun _ _ _ h => h) (Or.inl ⟨by kernel_rfl, ?_⟩) (by assumption) ?_
        rotate_left
        · (intro w hSw; (try dsimp only at hSw); go_simp)
          try (with_reducible rfl)
        rotate_left
        try simp (maxSteps := 4000000) only [Act.put, List.setIfInBounds_toArray, List.set_cons_zero, List.set_cons_succ, List.getElem_toArray, List.getElem_cons_zero, List.getElem_cons_succ]
        refine wpAnyH_take (i := 5) (v := ?_) rfl (by kernel_rfl) (by kernel_rfl) (by kernel_rfl) (fun _ _ _ h => h) (Or.inl ⟨by kernel_rfl, ?_⟩) (by assumption) ?_
        rotate_left
        · (intro w hSw; (try dsimp only at hSw); go_simp)
          try (with_reducible rfl)
        rotate_left
        try simp (maxSteps := 4000000) only [Act.put, List.setIfInBounds_toArray, List.set_cons_zero, List.set_cons_succ, List.getElem_toArray, List.getElem_cons_zero, List.getElem_cons_succ]
        refine wpAnyH_take (i := 6) (v := ?_) rfl (by kernel_rfl) (by kernel_rfl) (by kernel_rfl) (fun _ _ _ h => h) (Or.inl ⟨by kernel_rfl, ?_⟩) (by assumption) ?_
        rotate_left
        · (intro w hSw; (try dsimp only at hSw); go_simp)
          try (with_reducible rfl)
        rotate_left
        try simp (maxSteps := 4000000) only [Act.put, List.setIfInBounds_toArray, List.set_cons_zero, List.set_cons_succ, List.getElem_toArray, List.getElem_cons_zero, List.getElem_cons_succ]
        refine wpAnyH_take (i := 7) (v := ?_) rfl (by kernel_rfl) (by kernel_rfl) (by kernel_rfl) (fun _ _ _ h => h) (Or.inl ⟨by kernel_rfl, ?_⟩) (by assumption) ?_
        rotate_left
        · (intro w hSw; (try dsimp only at hSw); go_simp)
          try (with_reducible rfl)
        rotate_left
        try simp (maxSteps := 4000000) only [Act.put, List.setIfInBounds_toArray, List.set_cons_zero, List.set_cons_succ, List.getElem_toArray, List.getElem_cons_zero, List.getElem_cons_succ]
        refine wpAnyH_take (i := 8) (v := ?_) rfl (by kernel_rfl) (by kernel_rfl) (by kernel_rfl) (fun _ _ _ h => h) (Or.inl ⟨by kernel_rfl, ?_⟩) (by assumption) ?_
        rotate_left
        · (intro w hSw; (try dsimp only at hSw); go_simp)
          try (with_reducible rfl)
        rotate_left
        try simp (maxSteps := 4000000) only [Act.put, List.setIfInBounds_toArray, List.set_cons_zero, List.set_cons_succ, List.getElem_toArray, List.getElem_cons_zero, List.getElem_cons_succ]
        refine wpAnyH_ready (rs := [1, 9]) (by kernel_rfl) (by simp) ?_
        refine AllReadyH.cons rfl (fun K2 hK2 => ?_) (AllReadyH.cons rfl (fun K2 hK2 => ?_) AllReadyH.nil)
        all_goals go_simp
        · refine hK2.out _ _ ?_ (fun hHeld2 => ?_)
          · exact ⟨(World.cell?_alloc_lt _ _ _ hHeld.2.2).trans hHeld.1, Lib.hid (alc hHeld.2.1.out _), by first | (rw [World.size_alloc]; exact Nat.lt_succ_of_lt hHeld.2.2) | (have h9 := hHeld.2.2; simp at h9 ⊢; omega) | (show lb < (World.alloc wr _).heap.size; rw [World.size_alloc]; exact Nat.lt_succ_of_lt hHeld.2.2)⟩
          clear hK2 K2 hHeld
          have hHeld := hHeld2
          clear hHeld2
          try simp (maxSteps := 4000000) only [Act.put, List.setIfInBounds_toArray, List.set_cons_zero, List.set_cons_succ]
          refine wpAnyH_take (i := 3) (v := ?_) rfl (by kernel_rfl) (by kernel_rfl) (by kernel_rfl) (fun _ _ _ h => h) (Or.inl ⟨by kernel_rfl, ?_⟩) (by assumption) ?_
          rotate_left
          · (intro w hSw; (try dsimp only at hSw); go_simp)
            try (with_reducible rfl)
          rotate_left
          try simp (maxSteps := 4000000) only [Act.put, List.setIfInBounds_toArray, List.set_cons_zero, List.set_cons_succ, List.getElem_toArray, List.getElem_cons_zero, List.getElem_cons_succ]
          refine wpAnyH_ready (rs := [4, 9]) (by kernel_rfl) (by simp) ?_
          refine AllReadyH.cons rfl (fun K2 hK2 => ?_) (AllReadyH.cons rfl (fun K2 hK2 => ?_) AllReadyH.nil)
          all_goals go_simp
          · refine hK2.out _ _ hHeld (fun hHeld2 => ?_)
            clear hK2 K2 hHeld
            have hHeld := hHeld2
            clear hHeld2
            try simp (maxSteps := 4000000) only [Act.put, List.setIfInBounds_toArray, List.set_cons_zero, List.set_cons_succ]
            refine wpAnyH_ready (rs := [9]) (by kernel_rfl) (by simp) ?_
            refine AllReadyH.cons rfl (fun K2 hK2 => ?_) AllReadyH.nil
            go_simp
            with_reducible refine Calls.mono (HN.out _) ?_
            rintro e9 w9 ⟨rfl, hb⟩
            refine hK2.out _ _ ?_ (fun hHeld2 => ?_)
            · exact ⟨(hb.cell (p := ⟨lb, 4, none⟩) hHeld.2.2).trans hHeld.1, Lib.hid (thn hHeld.2.1.out hb), Nat.lt_of_lt_of_le hHeld.2.2 hb.size⟩
            clear hb
            clear hK2 K2 hHeld
            have hHeld := hHeld2
            clear hHeld2
            try simp (maxSteps := 4000000) only [Act.put, List.setIfInBounds_toArray, List.set_cons_zero, List.set_cons_succ]
            refine wpAnyH_take (i := 10) (v := ?_) rfl (by kernel_rfl) (by kernel_rfl) (by kernel_rfl) (fun _ _ _ h => h) (Or.inl ⟨by kernel_rfl, ?_⟩) (by assumption) ?_
            rotate_left
            · (intro w hSw; (try dsimp only at hSw); go_simp)
              try (with_reducible rfl)
            rotate_left
            try simp (maxSteps := 4000000) only [Act.put, List.setIfInBounds_toArray, List.set_cons_zero, List.set_cons_succ, List.getElem_toArray, List.getElem_cons_zero, List.getElem_cons_succ]
            refine wpAnyH_take (i := 11) (v := ?_) rfl (by kernel_rfl) (by kernel_rfl) (by kernel_rfl) (fun _ _ _ h => h) (Or.inl ⟨by kernel_rfl, ?_⟩) (by assumption) ?_
            rotate_left
            · (intro w hSw; (try dsimp only at hSw); go_simp)
              try (with_reducible rfl)
            rotate_left
            try simp (maxSteps := 4000000) only [Act.put, List.setIfInBounds_toArray, List.set_cons_zero, List.set_cons_succ, List.getElem_toArray, List.getElem_cons_zero, List.getElem_cons_succ]
            refine wpAnyH_take (i := 12) (v := ?_) rfl (by kernel_rfl) (by kernel_rfl) (by kernel_rfl) (fun _ _ _ h => h) (Or.inl ⟨by kernel_rfl, ?_⟩) (by assumption) ?_
            rotate_left
            · (intro w hSw; (try dsimp only at hSw); go_simp)
              try (with_reducible rfl)
            rotate_left
            try simp (maxSteps := 4000000) only [Act.put, List.setIfInBounds_toArray, List.set_cons_zero, List.set_cons_succ, List.getElem_toArray, List.getElem_cons_zero, List.getElem_cons_succ]
            refine wpAnyH_done (by kernel_rfl) ?_ _
            go_wp2_with fail
            go_roundw
            case rel => exact ⟨5, by omega, by go_num, by rw [HS1.out], hHeld.2.1⟩
            case measure => simp [intOf]
          · with_reducible refine Calls.mono (HN.out _) ?_
            rintro e9 w9 ⟨rfl, hb⟩
            refine hK2.out _ _ ?_ (fun hHeld2 => ?_)
            · exact ⟨(hb.cell (p := ⟨lb, 4, none⟩) hHeld.2.2).trans hHeld.1, Lib.hid (thn hHeld.2.1.out hb), Nat.lt_of_lt_of_le hHeld.2.2 hb.size⟩
            have hz9 : w9.cell? ⟨wr.heap.size, 4, none⟩ = some (Value.string ⟨#[32, 112, 101, 97, 107, 32]⟩) := (hb.cell (p := ⟨wr.heap.size, 4, none⟩) (by first | (simp; done) | (show wr.heap.size < (World.alloc wr _).heap.size; rw [World.size_alloc]; omega))).trans (by first | (simp; done) | (show (World.alloc wr _).cell? _ = _; simp))
            clear hb
            clear hK2 K2 hHeld
            have hHeld := hHeld2
            clear hHeld2
            try simp (maxSteps := 4000000) only [Act.put, List.setIfInBounds_toArray, List.set_cons_zero, List.set_cons_succ]
            refine wpAnyH_ready (rs := [4]) (by kernel_rfl) (by simp) ?_
            refine AllReadyH.cons rfl (fun K2 hK2 => ?_) AllReadyH.nil
            go_simp
            refine hK2.out _ _ hHeld (fun hHeld2 => ?_)
            clear hK2 K2 hHeld
            have hHeld := hHeld2
            clear hHeld2
            try simp (maxSteps := 4000000) only [Act.put, List.setIfInBounds_toArray, List.set_cons_zero, List.set_cons_succ]
            refine wpAnyH_take (i := 10) (v := ?_) rfl (by kernel_rfl) (by kernel_rfl) (by kernel_rfl) (fun _ _ _ h => h) (Or.inl ⟨by kernel_rfl, ?_⟩) (by assumption) ?_
            rotate_left
            · (intro w hSw; (try dsimp only at hSw); go_simp)
              try (with_reducible rfl)
            rotate_left
            try simp (maxSteps := 4000000) only [Act.put, List.setIfInBounds_toArray, List.set_cons_zero, List.set_cons_succ, List.getElem_toArray, List.getElem_cons_zero, List.getElem_cons_succ]
            refine wpAnyH_take (i := 11) (v := ?_) rfl (by kernel_rfl) (by kernel_rfl) (by kernel_rfl) (fun _ _ _ h => h) (Or.inl ⟨by kernel_rfl, ?_⟩) (by assumption) ?_
            rotate_left
            · (intro w hSw; (try dsimp only at hSw); go_simp)
              try (with_reducible rfl)
            rotate_left
            try simp (maxSteps := 4000000) only [Act.put, List.setIfInBounds_toArray, List.set_cons_zero, List.set_cons_succ, List.getElem_toArray, List.getElem_cons_zero, List.getElem_cons_succ]
            refine wpAnyH_take (i := 12) (v := ?_) rfl (by kernel_rfl) (by kernel_rfl) (by kernel_rfl) (fun _ _ _ h => h) (Or.inl ⟨by kernel_rfl, ?_⟩) (by assumption) ?_
            rotate_left
            · (intro w hSw; (try dsimp only at hSw); go_simp)
              try (with_reducible rfl)
            rotate_left
            try simp (maxSteps := 4000000) only [Act.put, List.setIfInBounds_toArray, List.set_cons_zero, List.set_cons_succ, List.getElem_toArray, List.getElem_cons_zero, List.getElem_cons_succ]
            refine wpAnyH_done (by kernel_rfl) ?_ _
            go_wp2_with fail
            go_roundw
            case rel => exact ⟨5, by omega, by go_num, by rw [HS1.out], hHeld.2.1⟩
            case measure => simp [intOf]
        · with_reducible refine Calls.mono (HN.out _) ?_
          rintro e9 w9 ⟨rfl, hb⟩
          refine hK2.out _ _ ?_ (fun hHeld2 => ?_)
          · exact ⟨(hb.cell (p := ⟨lb, 4, none⟩) hHeld.2.2).trans hHeld.1, Lib.hid (thn hHeld.2.1.out hb), Nat.lt_of_lt_of_le hHeld.2.2 hb.size⟩
          clear hb
          clear hK2 K2 hHeld
          have hHeld := hHeld2
          clear hHeld2
          try simp (maxSteps := 4000000) only [Act.put, List.setIfInBounds_toArray, List.set_cons_zero, List.set_cons_succ]
          refine wpAnyH_ready (rs := [1]) (by kernel_rfl) (by simp) ?_
          refine AllReadyH.cons rfl (fun K2 hK2 => ?_) AllReadyH.nil
          go_simp
          refine hK2.out _ _ ?_ (fun hHeld2 => ?_)
          · exact ⟨(World.cell?_alloc_lt _ _ _ hHeld.2.2).trans hHeld.1, Lib.hid (alc hHeld.2.1.out _), by first | (rw [World.size_alloc]; exact Nat.lt_succ_of_lt hHeld.2.2) | (have h9 := hHeld.2.2; simp at h9 ⊢; omega) | (show lb < (World.alloc wr _).heap.size; rw [World.size_alloc]; exact Nat.lt_succ_of_lt hHeld.2.2)⟩
          clear hK2 K2 hHeld
          have hHeld := hHeld2
          clear hHeld2
          try simp (maxSteps := 4000000) only [Act.put, List.setIfInBounds_toArray, List.set_cons_zero, List.set_cons_succ]
          refine wpAnyH_take (i := 3) (v := ?_) rfl (by kernel_rfl) (by kernel_rfl) (by kernel_rfl) (fun _ _ _ h => h) (Or.inl ⟨by kernel_rfl, ?_⟩) (by assumption) ?_
          rotate_left
          · (intro w hSw; (try dsimp only at hSw); go_simp)
            try (with_reducible rfl)
          rotate_left
          try simp (maxSteps := 4000000) only [Act.put, List.setIfInBounds_toArray, List.set_cons_zero, List.set_cons_succ, List.getElem_toArray, List.getElem_cons_zero, List.getElem_cons_succ]
          refine wpAnyH_ready (rs := [4]) (by kernel_rfl) (by simp) ?_
          refine AllReadyH.cons rfl (fun K2 hK2 => ?_) AllReadyH.nil
          go_simp
          refine hK2.out _ _ hHeld (fun hHeld2 => ?_)
          clear hK2 K2 hHeld
          have hHeld := hHeld2
          clear hHeld2
          try simp (maxSteps := 4000000) only [Act.put, List.setIfInBounds_toArray, List.set_cons_zero, List.set_cons_succ]
          refine wpAnyH_take (i := 10) (v := ?_) rfl (by kernel_rfl) (by kernel_rfl) (by kernel_rfl) (fun _ _ _ h => h) (Or.inl ⟨by kernel_rfl, ?_⟩) (by assumption) ?_
          rotate_left
          · (intro w hSw; (try dsimp only at hSw); go_simp)
            try (with_reducible rfl)
          rotate_left
          try simp (maxSteps := 4000000) only [Act.put, List.setIfInBounds_toArray, List.set_cons_zero, List.set_cons_succ, List.getElem_toArray, List.getElem_cons_zero, List.getElem_cons_succ]
          refine wpAnyH_take (i := 11) (v := ?_) rfl (by kernel_rfl) (by kernel_rfl) (by kernel_rfl) (fun _ _ _ h => h) (Or.inl ⟨by kernel_rfl, ?_⟩) (by assumption) ?_
          rotate_left
          · (intro w hSw; (try dsimp only at hSw); go_simp)
            try (with_reducible rfl)
          rotate_left
          try simp (maxSteps := 4000000) only [Act.put, List.setIfInBounds_toArray, List.set_cons_zero, List.set_cons_succ, List.getElem_toArray, List.getElem_cons_zero, List.getElem_cons_succ]
          refine wpAnyH_take (i := 12) (v := ?_) rfl (by kernel_rfl) (by kernel_rfl) (by kernel_rfl) (fun _ _ _ h => h) (Or.inl ⟨by kernel_rfl, ?_⟩) (by assumption) ?_
          rotate_left
          · (intro w hSw; (try dsimp only at hSw); go_simp)
            try (with_reducible rfl)
          rotate_left
          try simp (maxSteps := 4000000) only [Act.put, List.setIfInBounds_toArray, List.set_cons_zero, List.set_cons_succ, List.getElem_toArray, List.getElem_cons_zero, List.getElem_cons_succ]
          refine wpAnyH_done (by kernel_rfl) ?_ _
          go_wp2_with fail
          go_roundw
          case rel => exact ⟨5, by omega, by go_num, by rw [HS1.out], hHeld.2.1⟩
          case measure => simp [intOf]
      · have hx0 : 0 ≤ x5 := b5
        have hx1 : x5 ≤ 65535 := c5
        have k := k5
        clear k0 k1 k2 k3 k4 k5
        have hx : f 5 = x5 := by rw [← HFX.out]; rfl
        obtain ⟨x, hxx⟩ : ∃ x, x5 = x := ⟨_, rfl⟩
        rw [hxx] at hx0 hx1 k hx
        clear hxx
        obtain ⟨D, hD⟩ : ∃ D, (⟨(Lib.itoa x).toArray⟩ : ByteArray) = D := ⟨_, rfl⟩
        obtain ⟨s0, hs0⟩ : ∃ s0, wB f 5 = s0 := ⟨_, rfl⟩
        rw [hs0]
        have HS1 : Hid (wB f 6 = s0 ++ ((⟨#[32, 99, 108, 101, 97, 114, 32]⟩ : ByteArray) ++ D)) := Lib.hid (by rw [← hs0, ← hD, ← hx]; rfl)
        have HN : Hid (∀ w7 : World, Calls Tryd.prog 15 #[.int .i64 x] w7 fun e' w' => e' = .returned (.string D) ∧ Below w7.heap.size w7 w') := Lib.hid (fun w7 => by rw [← hD]; exact num_int x hx0 hx1 w7)
        have zd : D.size ≤ 21 := by rw [← hD]; exact dig_size x (by omega) (by omega)
        have z0 : s0.size ≤ 40 * 5 := by rw [← hs0]; exact w_size f HF.out 5
        have z1 : (⟨#[32, 99, 108, 101, 97, 114, 32]⟩ : ByteArray).size = 7 := rfl
        have q1 : ¬ 9223372036854775807 < (⟨#[32, 99, 108, 101, 97, 114, 32]⟩ : ByteArray).size + D.size := by rw [z1]; omega
        have q2 : ¬ 9223372036854775807 < s0.size + ((⟨#[32, 99, 108, 101, 97, 114, 32]⟩ : ByteArray).size + D.size) := by rw [z1]; omega
        have q3 : ¬ 9223372036854775807 < 7 + D.size := by omega
        have q4 : ¬ 9223372036854775807 < s0.size + (7 + D.size) := by omega
        clear z1 hD hs0 hx
        have i00 : (((5 : Nat)) : Int) = 5 := rfl
        rw [i00]
        clear i00
        go_upto_region 6 with (fail)
        refine wp_region_held_drew (S := (fun w' => w'.cell? ⟨lb, 5, none⟩ = some (.int .i64 x) ∧ Hid (Below C.heap.size C w') ∧ lb < w'.heap.size)) (by kernel_rfl) ?_ (fun hHeld => ?_)
        · exact ⟨k, Lib.hid HB.out.drew, hl⟩
        clear k hl HB
        refine wpAnyH_take (i := 0) (v := ?_) rfl (by kernel_rfl) (by kernel_rfl) (by kernel_rfl) (fun _ _ _ h => h) (Or.inl ⟨by kernel_rfl, ?_⟩) (by assumption) ?_
        rotate_left
        · (intro w hSw; (try dsimp only at hSw); go_simp)
          try (with_reducible rfl)
        rotate_left
        try simp (maxSteps := 4000000) only [Act.put, List.setIfInBounds_toArray, List.set_cons_zero, List.set_cons_succ, List.getElem_toArray, List.getElem_cons_zero, List.getElem_cons_succ]
        refine wpAnyH_take (i := 2) (v := ?_) rfl (by kernel_rfl) (by kernel_rfl) (by kernel_rfl) (fun _ _ _ h => h) (Or.inl ⟨by kernel_rfl, ?_⟩) (by assumption) ?_
        rotate_left
        · (intro w hSw; (try dsimp only at hSw); go_simp)
          try (with_reducible rfl)
        rotate_left
        try simp (maxSteps := 4000000) only [Act.put, List.setIfInBounds_toArray, List.set_cons_zero, List.set_cons_succ, List.getElem_toArray, List.getElem_cons_zero, List.getElem_cons_succ]
        refine wpAnyH_take (i := 5) (v := ?_) rfl (by kernel_rfl) (by kernel_rfl) (by kernel_rfl) (fun _ _ _ h => h) (Or.inl ⟨by kernel_rfl, ?_⟩) (by assumption) ?_
        rotate_left
        · (intro w hSw; (try dsimp only at hSw); go_simp)
          try (with_reducible rfl)
        rotate_left
        try simp (maxSteps := 4000000) only [Act.put, List.setIfInBounds_toArray, List.set_cons_zero, List.set_cons_succ, List.getElem_toArray, List.getElem_cons_zero, List.getElem_cons_succ]
        refine wpAnyH_take (i := 6) (v := ?_) rfl (by kernel_rfl) (by kernel_rfl) (by kernel_rfl) (fun _ _ _ h => h) (Or.inl ⟨by kernel_rfl, ?_⟩) (by assumption) ?_
        rotate_left
        · (intro w hSw; (try dsimp only at hSw); go_simp)
          try (with_reducible rfl)
        rotate_left
        try simp (maxSteps := 4000000) only [Act.put, List.setIfInBounds_toArray, List.set_cons_zero, List.set_cons_succ, List.getElem_toArray, List.getElem_cons_zero, List.getElem_cons_succ]
        refine wpAnyH_take (i := 7) (v := ?_) rfl (by kernel_rfl) (by kernel_rfl) (by kernel_rfl) (fun _ _ _ h => h) (Or.inl ⟨by kernel_rfl, ?_⟩) (by assumption) ?_
        rotate_left
        · (intro w hSw; (try dsimp only at hSw); go_simp)
          try (with_reducible rfl)
        rotate_left
        try simp (maxSteps := 4000000) only [Act.put, List.setIfInBounds_toArray, List.set_cons_zero, List.set_cons_succ, List.getElem_toArray, List.getElem_cons_zero, List.getElem_cons_succ]
        refine wpAnyH_take (i := 8) (v := ?_) rfl (by kernel_rfl) (by kernel_rfl) (by kernel_rfl) (fun _ _ _ h => h) (Or.inl ⟨by kernel_rfl, ?_⟩) (by assumption) ?_
        rotate_left
        · (intro w hSw; (try dsimp only at hSw); go_simp)
          try (with_reducible rfl)
        rotate_left
        try simp (maxSteps := 4000000) only [Act.put, List.setIfInBounds_toArray, List.set_cons_zero, List.set_cons_succ, List.getElem_toArray, List.getElem_cons_zero, List.getElem_cons_succ]
        refine wpAnyH_ready (rs := [1, 9]) (by kernel_rfl) (by simp) ?_
        refine AllReadyH.cons rfl (fun K2 hK2 => ?_) (AllReadyH.cons rfl (fun K2 hK2 => ?_) AllReadyH.nil)
        all_goals go_simp
        · refine hK2.out _ _ ?_ (fun hHeld2 => ?_)
          · exact ⟨(World.cell?_alloc_lt _ _ _ hHeld.2.2).trans hHeld.1, Lib.hid (alc hHeld.2.1.out _), by first | (rw [World.size_alloc]; exact Nat.lt_succ_of_lt hHeld.2.2) | (have h9 := hHeld.2.2; simp at h9 ⊢; omega) | (show lb < (World.alloc wr _).heap.size; rw [World.size_alloc]; exact Nat.lt_succ_of_lt hHeld.2.2)⟩
          clear hK2 K2 hHeld
          have hHeld := hHeld2
          clear hHeld2
          try simp (maxSteps := 4000000) only [Act.put, List.setIfInBounds_toArray, List.set_cons_zero, List.set_cons_succ]
          refine wpAnyH_take (i := 3) (v := ?_) rfl (by kernel_rfl) (by kernel_rfl) (by kernel_rfl) (fun _ _ _ h => h) (Or.inl ⟨by kernel_rfl, ?_⟩) (by assumption) ?_
          rotate_left
          · (intro w hSw; (try dsimp only at hSw); go_simp)
            try (with_reducible rfl)
          rotate_left
          try simp (maxSteps := 4000000) only [Act.put, List.setIfInBounds_toArray, List.set_cons_zero, List.set_cons_succ, List.getElem_toArray, List.getElem_cons_zero, List.getElem_cons_succ]
          refine wpAnyH_ready (rs := [4, 9]) (by kernel_rfl) (by simp) ?_
          refine AllReadyH.cons rfl (fun K2 hK2 => ?_) (AllReadyH.cons rfl (fun K2 hK2 => ?_) AllReadyH.nil)
          all_goals go_simp
          · refine hK2.out _ _ hHeld (fun hHeld2 => ?_)
            clear hK2 K2 hHeld
            have hHeld := hHeld2
            clear hHeld2
            try simp (maxSteps := 4000000) only [Act.put, List.setIfInBounds_toArray, List.set_cons_zero, List.set_cons_succ]
            refine wpAnyH_ready (rs := [9]) (by kernel_rfl) (by simp) ?_
            refine AllReadyH.cons rfl (fun K2 hK2 => ?_) AllReadyH.nil
            go_simp
            with_reducible refine Calls.mono (HN.out _) ?_
            rintro e9 w9 ⟨rfl, hb⟩
            refine hK2.out _ _ ?_ (fun hHeld2 => ?_)
            · exact ⟨(hb.cell (p := ⟨lb, 5, none⟩) hHeld.2.2).trans hHeld.1, Lib.hid (thn hHeld.2.1.out hb), Nat.lt_of_lt_of_le hHeld.2.2 hb.size⟩
            clear hb
            clear hK2 K2 hHeld
            have hHeld := hHeld2
            clear hHeld2
            try simp (maxSteps := 4000000) only [Act.put, List.setIfInBounds_toArray, List.set_cons_zero, List.set_cons_succ]
            refine wpAnyH_take (i := 10) (v := ?_) rfl (by kernel_rfl) (by kernel_rfl) (by kernel_rfl) (fun _ _ _ h => h) (Or.inl ⟨by kernel_rfl, ?_⟩) (by assumption) ?_
            rotate_left
            · (intro w hSw; (try dsimp only at hSw); go_simp)
              try (with_reducible rfl)
            rotate_left
            try simp (maxSteps := 4000000) only [Act.put, List.setIfInBounds_toArray, List.set_cons_zero, List.set_cons_succ, List.getElem_toArray, List.getElem_cons_zero, List.getElem_cons_succ]
            refine wpAnyH_take (i := 11) (v := ?_) rfl (by kernel_rfl) (by kernel_rfl) (by kernel_rfl) (fun _ _ _ h => h) (Or.inl ⟨by kernel_rfl, ?_⟩) (by assumption) ?_
            rotate_left
            · (intro w hSw; (try dsimp only at hSw); go_simp)
              try (with_reducible rfl)
            rotate_left
            try simp (maxSteps := 4000000) only [Act.put, List.setIfInBounds_toArray, List.set_cons_zero, List.set_cons_succ, List.getElem_toArray, List.getElem_cons_zero, List.getElem_cons_succ]
            refine wpAnyH_take (i := 12) (v := ?_) rfl (by kernel_rfl) (by kernel_rfl) (by kernel_rfl) (fun _ _ _ h => h) (Or.inl ⟨by kernel_rfl, ?_⟩) (by assumption) ?_
            rotate_left
            · (intro w hSw; (try dsimp only at hSw); go_simp)
              try (with_reducible rfl)
            rotate_left
            try simp (maxSteps := 4000000) only [Act.put, List.setIfInBounds_toArray, List.set_cons_zero, List.set_cons_succ, List.getElem_toArray, List.getElem_cons_zero, List.getElem_cons_succ]
            refine wpAnyH_done (by kernel_rfl) ?_ _
            go_wp2_with fail
            go_roundw
            case rel => exact ⟨6, by omega, by go_num, by rw [HS1.out], hHeld.2.1⟩
            case measure => simp [intOf]
          · with_reducible refine Calls.mono (HN.out _) ?_
            rintro e9 w9 ⟨rfl, hb⟩
            refine hK2.out _ _ ?_ (fun hHeld2 => ?_)
            · exact ⟨(hb.cell (p := ⟨lb, 5, none⟩) hHeld.2.2).trans hHeld.1, Lib.hid (thn hHeld.2.1.out hb), Nat.lt_of_lt_of_le hHeld.2.2 hb.size⟩
            have hz9 : w9.cell? ⟨wr.heap.size, 5, none⟩ = some (Value.string ⟨#[32, 99, 108, 101, 97, 114, 32]⟩) := (hb.cell (p := ⟨wr.heap.size, 5, none⟩) (by first | (simp; done) | (show wr.heap.size < (World.alloc wr _).heap.size; rw [World.size_alloc]; omega))).trans (by first | (simp; done) | (show (World.alloc wr _).cell? _ = _; simp))
            clear hb
            clear hK2 K2 hHeld
            have hHeld := hHeld2
            clear hHeld2
            try simp (maxSteps := 4000000) only [Act.put, List.setIfInBounds_toArray, List.set_cons_zero, List.set_cons_succ]
            refine wpAnyH_ready (rs := [4]) (by kernel_rfl) (by simp) ?_
            refine AllReadyH.cons rfl (fun K2 hK2 => ?_) AllReadyH.nil
            go_simp
            refine hK2.out _ _ hHeld (fun hHeld2 => ?_)
            clear hK2 K2 hHeld
            have hHeld := hHeld2
            clear hHeld2
            try simp (maxSteps := 4000000) only [Act.put, List.setIfInBounds_toArray, List.set_cons_zero, List.set_cons_succ]
            refine wpAnyH_take (i := 10) (v := ?_) rfl (by kernel_rfl) (by kernel_rfl) (by kernel_rfl) (fun _ _ _ h => h) (Or.inl ⟨by kernel_rfl, ?_⟩) (by assumption) ?_
            rotate_left
            · (intro w hSw; (try dsimp only at hSw); go_simp)
              try (with_reducible rfl)
            rotate_left
            try simp (maxSteps := 4000000) only [Act.put, List.setIfInBounds_toArray, List.set_cons_zero, List.set_cons_succ, List.getElem_toArray, List.getElem_cons_zero, List.getElem_cons_succ]
            refine wpAnyH_take (i := 11) (v := ?_) rfl (by kernel_rfl) (by kernel_rfl) (by kernel_rfl) (fun _ _ _ h => h) (Or.inl ⟨by kernel_rfl, ?_⟩) (by assumption) ?_
            rotate_left
            · (intro w hSw; (try dsimp only at hSw); go_simp)
              try (with_reducible rfl)
            rotate_left
            try simp (maxSteps := 4000000) only [Act.put, List.setIfInBounds_toArray, List.set_cons_zero, List.set_cons_succ, List.getElem_toArray, List.getElem_cons_zero, List.getElem_cons_succ]
            refine wpAnyH_take (i := 12) (v := ?_) rfl (by kernel_rfl) (by kernel_rfl) (by kernel_rfl) (fun _ _ _ h => h) (Or.inl ⟨by kernel_rfl, ?_⟩) (by assumption) ?_
            rotate_left
            · (intro w hSw; (try dsimp only at hSw); go_simp)
              try (with_reducible rfl)
            rotate_left
            try simp (maxSteps := 4000000) only [Act.put, List.setIfInBounds_toArray, List.set_cons_zero, List.set_cons_succ, List.getElem_toArray, List.getElem_cons_zero, List.getElem_cons_succ]
            refine wpAnyH_done (by kernel_rfl) ?_ _
            go_wp2_with fail
            go_roundw
            case rel => exact ⟨6, by omega, by go_num, by rw [HS1.out], hHeld.2.1⟩
            case measure => simp [intOf]
        · with_reducible refine Calls.mono (HN.out _) ?_
          rintro e9 w9 ⟨rfl, hb⟩
          refine hK2.out _ _ ?_ (fun hHeld2 => ?_)
          · exact ⟨(hb.cell (p := ⟨lb, 5, none⟩) hHeld.2.2).trans hHeld.1, Lib.hid (thn hHeld.2.1.out hb), Nat.lt_of_lt_of_le hHeld.2.2 hb.size⟩
          clear hb
          clear hK2 K2 hHeld
          have hHeld := hHeld2
          clear hHeld2
          try simp (maxSteps := 4000000) only [Act.put, List.setIfInBounds_toArray, List.set_cons_zero, List.set_cons_succ]
          refine wpAnyH_ready (rs := [1]) (by kernel_rfl) (by simp) ?_
          refine AllReadyH.cons rfl (fun K2 hK2 => ?_) AllReadyH.nil
          go_simp
          refine hK2.out _ _ ?_ (fun hHeld2 => ?_)
          · exact ⟨(World.cell?_alloc_lt _ _ _ hHeld.2.2).trans hHeld.1, Lib.hid (alc hHeld.2.1.out _), by first | (rw [World.size_alloc]; exact Nat.lt_succ_of_lt hHeld.2.2) | (have h9 := hHeld.2.2; simp at h9 ⊢; omega) | (show lb < (World.alloc wr _).heap.size; rw [World.size_alloc]; exact Nat.lt_succ_of_lt hHeld.2.2)⟩
          clear hK2 K2 hHeld
          have hHeld := hHeld2
          clear hHeld2
          try simp (maxSteps := 4000000) only [Act.put, List.setIfInBounds_toArray, List.set_cons_zero, List.set_cons_succ]
          refine wpAnyH_take (i := 3) (v := ?_) rfl (by kernel_rfl) (by kernel_rfl) (by kernel_rfl) (fun _ _ _ h => h) (Or.inl ⟨by kernel_rfl, ?_⟩) (by assumption) ?_
          rotate_left
          · (intro w hSw; (try dsimp only at hSw); go_simp)
            try (with_reducible rfl)
          rotate_left
          try simp (maxSteps := 4000000) only [Act.put, List.setIfInBounds_toArray, List.set_cons_zero, List.set_cons_succ, List.getElem_toArray, List.getElem_cons_zero, List.getElem_cons_succ]
          refine wpAnyH_ready (rs := [4]) (by kernel_rfl) (by simp) ?_
          refine AllReadyH.cons rfl (fun K2 hK2 => ?_) AllReadyH.nil
          go_simp
          refine hK2.out _ _ hHeld (fun hHeld2 => ?_)
          clear hK2 K2 hHeld
          have hHeld := hHeld2
          clear hHeld2
          try simp (maxSteps := 4000000) only [Act.put, List.setIfInBounds_toArray, List.set_cons_zero, List.set_cons_succ]
          refine wpAnyH_take (i := 10) (v := ?_) rfl (by kernel_rfl) (by kernel_rfl) (by kernel_rfl) (fun _ _ _ h => h) (Or.inl ⟨by kernel_rfl, ?_⟩) (by assumption) ?_
          rotate_left
          · (intro w hSw; (try dsimp only at hSw); go_simp)
            try (with_reducible rfl)
          rotate_left
          try simp (maxSteps := 4000000) only [Act.put, List.setIfInBounds_toArray, List.set_cons_zero, List.set_cons_succ, List.getElem_toArray, List.getElem_cons_zero, List.getElem_cons_succ]
          refine wpAnyH_take (i := 11) (v := ?_) rfl (by kernel_rfl) (by kernel_rfl) (by kernel_rfl) (fun _ _ _ h => h) (Or.inl ⟨by kernel_rfl, ?_⟩) (by assumption) ?_
          rotate_left
          · (intro w hSw; (try dsimp only at hSw); go_simp)
            try (with_reducible rfl)
          rotate_left
          try simp (maxSteps := 4000000) only [Act.put, List.setIfInBounds_toArray, List.set_cons_zero, List.set_cons_succ, List.getElem_toArray, List.getElem_cons_zero, List.getElem_cons_succ]
          refine wpAnyH_take (i := 12) (v := ?_) rfl (by kernel_rfl) (by kernel_rfl) (by kernel_rfl) (fun _ _ _ h => h) (Or.inl ⟨by kernel_rfl, ?_⟩) (by assumption) ?_
          rotate_left
          · (intro w hSw; (try dsimp only at hSw); go_simp)
            try (with_reducible rfl)
          rotate_left
          try simp (maxSteps := 4000000) only [Act.put, List.setIfInBounds_toArray, List.set_cons_zero, List.set_cons_succ, List.getElem_toArray, List.getElem_cons_zero, List.getElem_cons_succ]
          refine wpAnyH_done (by kernel_rfl) ?_ _
          go_wp2_with fail
          go_roundw
          case rel => exact ⟨6, by omega, by go_num, by rw [HS1.out], hHeld.2.1⟩
          case measure => simp [intOf]
    · obtain rfl : i = 6 := by omega
      have i00 : (((6 : Nat)) : Int) = 6 := rfl
      rw [i00]
      clear i00
      have HT : Hid (∀ w7 : World, PowTab w7 → Calls Tryd.prog 16 #[.agg #[.int .i64 x0, .int .i64 x1, .int .i64 x2, .int .i64 x3, .int .i64 x4, .int .i64 x5]] w7 fun e' w' => e' = .returned (.string (txtB f 6)) ∧ Below w7.heap.size w7 w') := Lib.hid (fun w7 h7 => by rw [← HFX.out]; exact text_is x0 x1 x2 x3 x4 x5 w7 h7 (by rw [HFX.out]; exact HF.out))
      rw [w_is f]
      obtain ⟨s6, hs6⟩ : ∃ s6, txtB f 6 = s6 := ⟨_, rfl⟩
      rw [hs6] at HT ⊢
      clear hs6
      have T2 : Hid (PowTab wr) := Lib.hid (TC.out.later HB.out)
      have HBW : Hid (Below w.heap.size w wr) := Lib.hid (thn HBC.out HB.out)
      have H1 := Lib.hid (H1.out.below HB.out)
      have H2 := Lib.hid (H2.out.below HB.out)
      have hx2 : xb < wr.heap.size := H2.out.1
      have HM2 : Hid (∀ w7 : World, Calls Tryd.prog 11 #[.agg #[.int .i64 x0, .int .i64 x1, .int .i64 x2, .int .i64 x3, .int .i64 x4, .int .i64 (-1 - x6)]] w7 fun e' w' => e' = .returned (.bool false) ∧ Below w7.heap.size w7 w') := Lib.hid (fun w7 => by have := may_is x0 x1 x2 x3 x4 (-1 - x6) w7 (by omega) (by omega) (by omega) (by omega) (by omega) (by omega); rwa [decide_eq_false (show ¬ (0 ≤ -1 - x6 ∧ x2 ≤ x1 ∧ x1 ≤ x0 ∧ x3 ≤ x4) by omega)] at this)
      clear HB
      have hcs : (¬ x2 ≤ x1) ∨ (x2 ≤ x1 ∧ ¬ x1 ≤ x0) ∨ (x2 ≤ x1 ∧ x1 ≤ x0 ∧ ¬ x3 ≤ x4) ∨ (x2 ≤ x1 ∧ x1 ≤ x0 ∧ x3 ≤ x4) := by omega
      rcases hcs with g1 | ⟨g1, g2⟩ | ⟨g1, g2, g3⟩ | ⟨g1, g2, g3⟩
      · have HM1 : Hid (∀ w7 : World, Calls Tryd.prog 11 #[.agg #[.int .i64 x0, .int .i64 x1, .int .i64 x2, .int .i64 x3, .int .i64 x4, .int .i64 x5]] w7 fun e' w' => e' = .returned (.bool false) ∧ Below w7.heap.size w7 w') := Lib.hid (fun w7 => by have := may_is x0 x1 x2 x3 x4 x5 w7 (by omega) (by omega) (by omega) (by omega) (by omega) (by omega); rwa [decide_eq_false (show ¬ (0 ≤ x5 ∧ x2 ≤ x1 ∧ x1 ≤ x0 ∧ x3 ≤ x4) by omega)] at this)
        obtain ⟨_, k0, k1, k2, k3, k4, k5, kf⟩ := H1.out
        have kf0 := kf 0 (by omega)
        have kf1 := kf 1 (by omega)
        have kf2 := kf 2 (by omega)
        have kf3 := kf 3 (by omega)
        have kf4 := kf 4 (by omega)
        have kf5 := kf 5 (by omega)
        clear kf
        obtain ⟨_, m0, m1, m2, m3, m4, m5, mf⟩ := H2.out
        have mf0 := mf 0 (by omega)
        have mf1 := mf 1 (by omega)
        have mf2 := mf 2 (by omega)
        have mf3 := mf 3 (by omega)
        have mf4 := mf 4 (by omega)
        have mf5 := mf 5 (by omega)
        clear mf
        go_upto_region 10 with (fail)
        obtain ⟨w4, hw4⟩ : ∃ w4, wr.alloc (.cells #[.int .i64 x0, .int .i64 x1, .int .i64 x2, .int .i64 x3, .int .i64 x4, .int .i64 (-1 - x6)] 24) = w4 := ⟨_, rfl⟩
        have HY : Hid (StAt wr.heap.size w4 x0 x1 x2 x3 x4 (-1 - x6)) := Lib.hid (by rw [← hw4]; exact StAt.new wr _ _ _ _ _ _ _)
        have b4 : Below wr.heap.size wr w4 := by rw [← hw4]; exact alc0 _ _
        rw [hw4]
        clear k0 k1 k2 k3 k4 k5 kf0 kf1 kf2 kf3 kf4 kf5
        clear m0 m1 m2 m3 m4 m5 mf0 mf1 mf2 mf3 mf4 mf5
        have H2 := Lib.hid (H2.out.below b4)
        have T4 : Hid (PowTab w4) := Lib.hid (T2.out.later b4)
        have HB4 : Hid (Below w.heap.size w w4) := Lib.hid (thn HBW.out b4)
        obtain ⟨yb, hyb⟩ : ∃ yb, wr.heap.size = yb := ⟨_, rfl⟩
        rw [hyb] at HY ⊢
        clear hyb hw4 b4
        go_wp2_with fail
        refine (s39awake _ T4.out).mono ?_
        rintro e1 w5 ⟨rfl, hb⟩
        have H2 := Lib.hid (H2.out.below hb)
        have HY := Lib.hid (HY.out.below hb)
        have T4 : Hid (PowTab w5) := Lib.hid (T4.out.later hb)
        have HB4 : Hid (Below w.heap.size w w5) := Lib.hid (thn HB4.out hb)
        clear hb
        obtain ⟨_, m0, m1, m2, m3, m4, m5, mf⟩ := H2.out
        have mf0 := mf 0 (by omega)
        have mf1 := mf 1 (by omega)
        have mf2 := mf 2 (by omega)
        have mf3 := mf 3 (by omega)
        have mf4 := mf 4 (by omega)
        have mf5 := mf 5 (by omega)
        clear mf
        go_wp2_with fail
        refine (HT.out _ T4.out).mono ?_
        rintro e1 w6 ⟨rfl, hb⟩
        clear m0 m1 m2 m3 m4 m5 mf0 mf1 mf2 mf3 mf4 mf5
        have H2 := Lib.hid (H2.out.below hb)
        have HY := Lib.hid (HY.out.below hb)
        have HB4 : Hid (Below w.heap.size w w6) := Lib.hid (thn HB4.out hb)
        clear hb
        obtain ⟨_, m0, m1, m2, m3, m4, m5, mf⟩ := H2.out
        have mf0 := mf 0 (by omega)
        have mf1 := mf 1 (by omega)
        have mf2 := mf 2 (by omega)
        have mf3 := mf 3 (by omega)
        have mf4 := mf 4 (by omega)
        have mf5 := mf 5 (by omega)
        clear mf
        go_wp2_with fail
        refine (HM1.out _).mono ?_
        rintro e1 w7 ⟨rfl, hb⟩
        clear m0 m1 m2 m3 m4 m5 mf0 mf1 mf2 mf3 mf4 mf5
        have HY := Lib.hid (HY.out.below hb)
        have HB4 : Hid (Below w.heap.size w w7) := Lib.hid (thn HB4.out hb)
        clear hb
        obtain ⟨_, m0, m1, m2, m3, m4, m5, mf⟩ := HY.out
        have mf0 := mf 0 (by omega)
        have mf1 := mf 1 (by omega)
        have mf2 := mf 2 (by omega)
        have mf3 := mf 3 (by omega)
        have mf4 := mf 4 (by omega)
        have mf5 := mf 5 (by omega)
        clear mf
        go_wp2_with fail
        refine (HM2.out _).mono ?_
        rintro e1 w8 ⟨rfl, hb⟩
        have HB4 : Hid (Below w.heap.size w w8) := Lib.hid (thn HB4.out hb)
        clear hb
        go_wp2_with fail
        go_ret
        exact ⟨rfl, HB4.out⟩
      · have HM1 : Hid (∀ w7 : World, Calls Tryd.prog 11 #[.agg #[.int .i64 x0, .int .i64 x1, .int .i64 x2, .int .i64 x3, .int .i64 x4, .int .i64 x5]] w7 fun e' w' => e' = .returned (.bool false) ∧ Below w7.heap.size w7 w') := Lib.hid (fun w7 => by have := may_is x0 x1 x2 x3 x4 x5 w7 (by omega) (by omega) (by omega) (by omega) (by omega) (by omega); rwa [decide_eq_false (show ¬ (0 ≤ x5 ∧ x2 ≤ x1 ∧ x1 ≤ x0 ∧ x3 ≤ x4) by omega)] at this)
        obtain ⟨_, k0, k1, k2, k3, k4, k5, kf⟩ := H1.out
        have kf0 := kf 0 (by omega)
        have kf1 := kf 1 (by omega)
        have kf2 := kf 2 (by omega)
        have kf3 := kf 3 (by omega)
        have kf4 := kf 4 (by omega)
        have kf5 := kf 5 (by omega)
        clear kf
        obtain ⟨_, m0, m1, m2, m3, m4, m5, mf⟩ := H2.out
        have mf0 := mf 0 (by omega)
        have mf1 := mf 1 (by omega)
        have mf2 := mf 2 (by omega)
        have mf3 := mf 3 (by omega)
        have mf4 := mf 4 (by omega)
        have mf5 := mf 5 (by omega)
        clear mf
        go_upto_region 10 with (fail)
        obtain ⟨w4, hw4⟩ : ∃ w4, wr.alloc (.cells #[.int .i64 x0, .int .i64 x1, .int .i64 x2, .int .i64 x3, .int .i64 x4, .int .i64 (-1 - x6)] 24) = w4 := ⟨_, rfl⟩
        have HY : Hid (StAt wr.heap.size w4 x0 x1 x2 x3 x4 (-1 - x6)) := Lib.hid (by rw [← hw4]; exact StAt.new wr _ _ _ _ _ _ _)
        have b4 : Below wr.heap.size wr w4 := by rw [← hw4]; exact alc0 _ _
        rw [hw4]
        clear k0 k1 k2 k3 k4 k5 kf0 kf1 kf2 kf3 kf4 kf5
        clear m0 m1 m2 m3 m4 m5 mf0 mf1 mf2 mf3 mf4 mf5
        have H2 := Lib.hid (H2.out.below b4)
        have T4 : Hid (PowTab w4) := Lib.hid (T2.out.later b4)
        have HB4 : Hid (Below w.heap.size w w4) := Lib.hid (thn HBW.out b4)
        obtain ⟨yb, hyb⟩ : ∃ yb, wr.heap.size = yb := ⟨_, rfl⟩
        rw [hyb] at HY ⊢
        clear hyb hw4 b4
        go_wp2_with fail
        refine (s39awake _ T4.out).mono ?_
        rintro e1 w5 ⟨rfl, hb⟩
        have H2 := Lib.hid (H2.out.below hb)
        have HY := Lib.hid (HY.out.below hb)
        have T4 : Hid (PowTab w5) := Lib.hid (T4.out.later hb)
        have HB4 : Hid (Below w.heap.size w w5) := Lib.hid (thn HB4.out hb)
        clear hb
        obtain ⟨_, m0, m1, m2, m3, m4, m5, mf⟩ := H2.out
        have mf0 := mf 0 (by omega)
        have mf1 := mf 1 (by omega)
        have mf2 := mf 2 (by omega)
        have mf3 := mf 3 (by omega)
        have mf4 := mf 4 (by omega)
        have mf5 := mf 5 (by omega)
        clear mf
        go_wp2_with fail
        refine (HT.out _ T4.out).mono ?_
        rintro e1 w6 ⟨rfl, hb⟩
        clear m0 m1 m2 m3 m4 m5 mf0 mf1 mf2 mf3 mf4 mf5
        have H2 := Lib.hid (H2.out.below hb)
        have HY := Lib.hid (HY.out.below hb)
        have HB4 : Hid (Below w.heap.size w w6) := Lib.hid (thn HB4.out hb)
        clear hb
        obtain ⟨_, m0, m1, m2, m3, m4, m5, mf⟩ := H2.out
        have mf0 := mf 0 (by omega)
        have mf1 := mf 1 (by omega)
        have mf2 := mf 2 (by omega)
        have mf3 := mf 3 (by omega)
        have mf4 := mf 4 (by omega)
        have mf5 := mf 5 (by omega)
        clear mf
        go_wp2_with fail
        refine (HM1.out _).mono ?_
        rintro e1 w7 ⟨rfl, hb⟩
        clear m0 m1 m2 m3 m4 m5 mf0 mf1 mf2 mf3 mf4 mf5
        have HY := Lib.hid (HY.out.below hb)
        have HB4 : Hid (Below w.heap.size w w7) := Lib.hid (thn HB4.out hb)
        clear hb
        obtain ⟨_, m0, m1, m2, m3, m4, m5, mf⟩ := HY.out
        have mf0 := mf 0 (by omega)
        have mf1 := mf 1 (by omega)
        have mf2 := mf 2 (by omega)
        have mf3 := mf 3 (by omega)
        have mf4 := mf 4 (by omega)
        have mf5 := mf 5 (by omega)
        clear mf
        go_wp2_with fail
        refine (HM2.out _).mono ?_
        rintro e1 w8 ⟨rfl, hb⟩
        have HB4 : Hid (Below w.heap.size w w8) := Lib.hid (thn HB4.out hb)
        clear hb
        go_wp2_with fail
        go_ret
        exact ⟨rfl, HB4.out⟩
      · have HM1 : Hid (∀ w7 : World, Calls Tryd.prog 11 #[.agg #[.int .i64 x0, .int .i64 x1, .int .i64 x2, .int .i64 x3, .int .i64 x4, .int .i64 x5]] w7 fun e' w' => e' = .returned (.bool false) ∧ Below w7.heap.size w7 w') := Lib.hid (fun w7 => by have := may_is x0 x1 x2 x3 x4 x5 w7 (by omega) (by omega) (by omega) (by omega) (by omega) (by omega); rwa [decide_eq_false (show ¬ (0 ≤ x5 ∧ x2 ≤ x1 ∧ x1 ≤ x0 ∧ x3 ≤ x4) by omega)] at this)
        obtain ⟨_, k0, k1, k2, k3, k4, k5, kf⟩ := H1.out
        have kf0 := kf 0 (by omega)
        have kf1 := kf 1 (by omega)
        have kf2 := kf 2 (by omega)
        have kf3 := kf 3 (by omega)
        have kf4 := kf 4 (by omega)
        have kf5 := kf 5 (by omega)
        clear kf
        obtain ⟨_, m0, m1, m2, m3, m4, m5, mf⟩ := H2.out
        have mf0 := mf 0 (by omega)
        have mf1 := mf 1 (by omega)
        have mf2 := mf 2 (by omega)
        have mf3 := mf 3 (by omega)
        have mf4 := mf 4 (by omega)
        have mf5 := mf 5 (by omega)
        clear mf
        go_upto_region 10 with (fail)
        obtain ⟨w4, hw4⟩ : ∃ w4, wr.alloc (.cells #[.int .i64 x0, .int .i64 x1, .int .i64 x2, .int .i64 x3, .int .i64 x4, .int .i64 (-1 - x6)] 24) = w4 := ⟨_, rfl⟩
        have HY : Hid (StAt wr.heap.size w4 x0 x1 x2 x3 x4 (-1 - x6)) := Lib.hid (by rw [← hw4]; exact StAt.new wr _ _ _ _ _ _ _)
        have b4 : Below wr.heap.size wr w4 := by rw [← hw4]; exact alc0 _ _
        rw [hw4]
        clear k0 k1 k2 k3 k4 k5 kf0 kf1 kf2 kf3 kf4 kf5
        clear m0 m1 m2 m3 m4 m5 mf0 mf1 mf2 mf3 mf4 mf5
        have H2 := Lib.hid (H2.out.below b4)
        have T4 : Hid (PowTab w4) := Lib.hid (T2.out.later b4)
        have HB4 : Hid (Below w.heap.size w w4) := Lib.hid (thn HBW.out b4)
        obtain ⟨yb, hyb⟩ : ∃ yb, wr.heap.size = yb := ⟨_, rfl⟩
        rw [hyb] at HY ⊢
        clear hyb hw4 b4
        go_wp2_with fail
        refine (s39awake _ T4.out).mono ?_
        rintro e1 w5 ⟨rfl, hb⟩
        have H2 := Lib.hid (H2.out.below hb)
        have HY := Lib.hid (HY.out.below hb)
        have T4 : Hid (PowTab w5) := Lib.hid (T4.out.later hb)
        have HB4 : Hid (Below w.heap.size w w5) := Lib.hid (thn HB4.out hb)
        clear hb
        obtain ⟨_, m0, m1, m2, m3, m4, m5, mf⟩ := H2.out
        have mf0 := mf 0 (by omega)
        have mf1 := mf 1 (by omega)
        have mf2 := mf 2 (by omega)
        have mf3 := mf 3 (by omega)
        have mf4 := mf 4 (by omega)
        have mf5 := mf 5 (by omega)
        clear mf
        go_wp2_with fail
        refine (HT.out _ T4.out).mono ?_
        rintro e1 w6 ⟨rfl, hb⟩
        clear m0 m1 m2 m3 m4 m5 mf0 mf1 mf2 mf3 mf4 mf5
        have H2 := Lib.hid (H2.out.below hb)
        have HY := Lib.hid (HY.out.below hb)
        have HB4 : Hid (Below w.heap.size w w6) := Lib.hid (thn HB4.out hb)
        clear hb
        obtain ⟨_, m0, m1, m2, m3, m4, m5, mf⟩ := H2.out
        have mf0 := mf 0 (by omega)
        have mf1 := mf 1 (by omega)
        have mf2 := mf 2 (by omega)
        have mf3 := mf 3 (by omega)
        have mf4 := mf 4 (by omega)
        have mf5 := mf 5 (by omega)
        clear mf
        go_wp2_with fail
        refine (HM1.out _).mono ?_
        rintro e1 w7 ⟨rfl, hb⟩
        clear m0 m1 m2 m3 m4 m5 mf0 mf1 mf2 mf3 mf4 mf5
        have HY := Lib.hid (HY.out.below hb)
        have HB4 : Hid (Below w.heap.size w w7) := Lib.hid (thn HB4.out hb)
        clear hb
        obtain ⟨_, m0, m1, m2, m3, m4, m5, mf⟩ := HY.out
        have mf0 := mf 0 (by omega)
        have mf1 := mf 1 (by omega)
        have mf2 := mf 2 (by omega)
        have mf3 := mf 3 (by omega)
        have mf4 := mf 4 (by omega)
        have mf5 := mf 5 (by omega)
        clear mf
        go_wp2_with fail
        refine (HM2.out _).mono ?_
        rintro e1 w8 ⟨rfl, hb⟩
        have HB4 : Hid (Below w.heap.size w w8) := Lib.hid (thn HB4.out hb)
        clear hb
        go_wp2_with fail
        go_ret
        exact ⟨rfl, HB4.out⟩
      · have HM1 : Hid (∀ w7 : World, Calls Tryd.prog 11 #[.agg #[.int .i64 x0, .int .i64 x1, .int .i64 x2, .int .i64 x3, .int .i64 x4, .int .i64 x5]] w7 fun e' w' => e' = .returned (.bool true) ∧ Below w7.heap.size w7 w') := Lib.hid (fun w7 => by have := may_is x0 x1 x2 x3 x4 x5 w7 (by omega) (by omega) (by omega) (by omega) (by omega) (by omega); rwa [decide_eq_true (show (0 ≤ x5 ∧ x2 ≤ x1 ∧ x1 ≤ x0 ∧ x3 ≤ x4) by omega)] at this)
        obtain ⟨_, k0, k1, k2, k3, k4, k5, kf⟩ := H1.out
        have kf0 := kf 0 (by omega)
        have kf1 := kf 1 (by omega)
        have kf2 := kf 2 (by omega)
        have kf3 := kf 3 (by omega)
        have kf4 := kf 4 (by omega)
        have kf5 := kf 5 (by omega)
        clear kf
        obtain ⟨_, m0, m1, m2, m3, m4, m5, mf⟩ := H2.out
        have mf0 := mf 0 (by omega)
        have mf1 := mf 1 (by omega)
        have mf2 := mf 2 (by omega)
        have mf3 := mf 3 (by omega)
        have mf4 := mf 4 (by omega)
        have mf5 := mf 5 (by omega)
        clear mf
        go_upto_region 10 with (fail)
        obtain ⟨w4, hw4⟩ : ∃ w4, wr.alloc (.cells #[.int .i64 x0, .int .i64 x1, .int .i64 x2, .int .i64 x3, .int .i64 x4, .int .i64 (-1 - x6)] 24) = w4 := ⟨_, rfl⟩
        have HY : Hid (StAt wr.heap.size w4 x0 x1 x2 x3 x4 (-1 - x6)) := Lib.hid (by rw [← hw4]; exact StAt.new wr _ _ _ _ _ _ _)
        have b4 : Below wr.heap.size wr w4 := by rw [← hw4]; exact alc0 _ _
        rw [hw4]
        clear k0 k1 k2 k3 k4 k5 kf0 kf1 kf2 kf3 kf4 kf5
        clear m0 m1 m2 m3 m4 m5 mf0 mf1 mf2 mf3 mf4 mf5
        have H2 := Lib.hid (H2.out.below b4)
        have T4 : Hid (PowTab w4) := Lib.hid (T2.out.later b4)
        have HB4 : Hid (Below w.heap.size w w4) := Lib.hid (thn HBW.out b4)
        obtain ⟨yb, hyb⟩ : ∃ yb, wr.heap.size = yb := ⟨_, rfl⟩
        rw [hyb] at HY ⊢
        clear hyb hw4 b4
        go_wp2_with fail
        refine (s39awake _ T4.out).mono ?_
        rintro e1 w5 ⟨rfl, hb⟩
        have H2 := Lib.hid (H2.out.below hb)
        have HY := Lib.hid (HY.out.below hb)
        have T4 : Hid (PowTab w5) := Lib.hid (T4.out.later hb)
        have HB4 : Hid (Below w.heap.size w w5) := Lib.hid (thn HB4.out hb)
        clear hb
        obtain ⟨_, m0, m1, m2, m3, m4, m5, mf⟩ := H2.out
        have mf0 := mf 0 (by omega)
        have mf1 := mf 1 (by omega)
        have mf2 := mf 2 (by omega)
        have mf3 := mf 3 (by omega)
        have mf4 := mf 4 (by omega)
        have mf5 := mf 5 (by omega)
        clear mf
        go_wp2_with fail
        refine (HT.out _ T4.out).mono ?_
        rintro e1 w6 ⟨rfl, hb⟩
        clear m0 m1 m2 m3 m4 m5 mf0 mf1 mf2 mf3 mf4 mf5
        have H2 := Lib.hid (H2.out.below hb)
        have HY := Lib.hid (HY.out.below hb)
        have HB4 : Hid (Below w.heap.size w w6) := Lib.hid (thn HB4.out hb)
        clear hb
        obtain ⟨_, m0, m1, m2, m3, m4, m5, mf⟩ := H2.out
        have mf0 := mf 0 (by omega)
        have mf1 := mf 1 (by omega)
        have mf2 := mf 2 (by omega)
        have mf3 := mf 3 (by omega)
        have mf4 := mf 4 (by omega)
        have mf5 := mf 5 (by omega)
        clear mf
        go_wp2_with fail
        refine (HM1.out _).mono ?_
        rintro e1 w7 ⟨rfl, hb⟩
        clear m0 m1 m2 m3 m4 m5 mf0 mf1 mf2 mf3 mf4 mf5
        have HY := Lib.hid (HY.out.below hb)
        have HB4 : Hid (Below w.heap.size w w7) := Lib.hid (thn HB4.out hb)
        clear hb
        obtain ⟨_, m0, m1, m2, m3, m4, m5, mf⟩ := HY.out
        have mf0 := mf 0 (by omega)
        have mf1 := mf 1 (by omega)
        have mf2 := mf 2 (by omega)
        have mf3 := mf 3 (by omega)
        have mf4 := mf 4 (by omega)
        have mf5 := mf 5 (by omega)
        clear mf
        go_wp2_with fail
        refine (HM2.out _).mono ?_
        rintro e1 w8 ⟨rfl, hb⟩
        have HB4 : Hid (Below w.heap.size w w8) := Lib.hid (thn HB4.out hb)
        clear hb
        go_wp2_with fail
        go_ret
        exact ⟨rfl, HB4.out⟩
end Go.Proofs.YtjblgamngnnccaaDoor
