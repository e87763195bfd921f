/- The walk of DrawNext. -/
import Derived.Test.YtbmcgoodilomlaaDrawE
import Derived.Deep.RegionHeld3
import Derived.Deep.RegionWith
import Derived.Deep.DeepCutAuto
namespace Go.Proofs.Ytbmcgoodilomlaa
open Go.RowKit
set_option linter.unusedVariables false
set_option linter.unusedSimpArgs false

theorem row_lsb {w : World} {a : Option Addr} {len cap : Nat} {zs : List Int} (h : IsRow .i64 w a len cap zs) (m : Nat) (hm : m ≤ len) : ∃ bl, (m = 0 ∨ bl < w.heap.size) ∧ LsB bl w a m cap (zs.take m) := by
  rcases h with ⟨rfl, rfl, rfl, rfl⟩ | ⟨x, rfl, hl, hmx, hz, hc, hw⟩
  · obtain rfl : m = 0 := by omega
    exact ⟨0, .inl rfl, by simp, Nat.le_refl _, by omega, fun _ => ⟨rfl, rfl⟩, .inl rfl⟩
  · by_cases h0 : m = 0
    · subst h0
      exact ⟨0, .inl rfl, by simp, by omega, by unfold maxLen at hmx; omega, fun h => (by cases h), .inl rfl⟩
    · obtain ⟨b, off, rfl, hc2⟩ := ints_at hc (by omega)
      have hb : b < w.heap.size := World.block_lt_of_cell? w _ (hc2 0 (by omega))
      refine ⟨b, .inr hb, by simp; omega, by omega, by unfold maxLen at hmx; omega, fun h => (by cases h), .inr ⟨off, rfl, hb, fun i hi => ?_⟩⟩
      rw [hc2 i (by omega)]
      simp [List.getD, hi]
theorem row_bd {w : World} {a : Option Addr} {len cap : Nat} {zs : List Int} (h : IsRow .i64 w a len cap zs) : ∀ x ∈ zs, -9223372036854775808 ≤ x ∧ x ≤ 9223372036854775807 := by
  rcases h with ⟨_, _, _, rfl⟩ | ⟨_, _, _, _, _, _, hw⟩
  · simp
  · exact fun x hx => bounds_i64 (hw x hx)
theorem row_cap {w : World} {a : Option Addr} {len cap : Nat} {zs : List Int} (h : IsRow .i64 w a len cap zs) : (a = none → len = 0 ∧ cap = 0) ∧ len ≤ cap ∧ cap ≤ 9223372036854775807 := by
  rcases h with ⟨_, rfl, rfl, _⟩ | ⟨x, rfl, h1, h2, _⟩
  · exact ⟨fun _ => ⟨rfl, rfl⟩, by omega, by omega⟩
  · exact ⟨fun h => (by cases h), h1, by unfold maxLen at h2; omega⟩
set_option maxRecDepth 100000 in
set_option maxHeartbeats 3200000 in
theorem walkDrawNext (a0 : Option Addr) (len0 cap0 : Nat) (z0 : List Int) (a1 : Option Addr) (len1 cap1 : Nat) (z1 : List Int) (a2 : Option Addr) (len2 cap2 : Nat) (z2 : List Int) (w : World) (w0 : IsRow .i64 w a0 len0 cap0 z0) (w1 : IsRow .i64 w a1 len1 cap1 z1) (w2 : IsRow .i64 w a2 len2 cap2 z2) :
    Calls Try.prog 3 #[.slice a0 len0 cap0, .slice a1 len1 cap1, .slice a2 len2 cap2] w fun e w' => e = .returned (.bool true) ∧ Below w.heap.size w w' := by
  obtain ⟨m, hm⟩ : ∃ m : Nat, min len0 10 = m := ⟨_, rfl⟩
  have hm1 : m ≤ len0 ∧ m ≤ 10 := by omega
  obtain ⟨hm1, hm2⟩ := hm1
  have hmI : min (len0 : Int) 10 = (m : Int) := by omega
  obtain ⟨bl0, hbl0, hl0⟩ := row_lsb w0 m hm1
  have hbd0 := row_bd w0
  obtain ⟨hnil0, hc01, hc02⟩ := row_cap w0
  have HBD : Hid (∀ x ∈ z0.take m, -9223372036854775808 ≤ x ∧ x ≤ 9223372036854775807) := Lib.hid fun x hx => hbd0 x (List.mem_of_mem_take hx)
  have HL0 := Lib.hid hl0
  have HNIL := Lib.hid hnil0
  have HW1 := Lib.hid w1
  have HW2 := Lib.hid w2
  obtain ⟨B0, hB0⟩ : ∃ B0, w.heap.size = B0 := ⟨_, rfl⟩
  have HB0 := Lib.hid hB0
  have hblB : m = 0 ∨ bl0 < B0 := by omega
  clear w0 w1 w2 hm hl0 hbd0 hnil0 hbl0
  obtain ⟨n1, hn1, hn2, hn3⟩ : ∃ n : Nat, n ≤ len1 ∧ n ≤ 30 ∧ (n < len1 → n = 30) := ⟨min len1 30, by omega, by omega, by omega⟩
  clear hB0
  go_enter Try.func3, Try.ntmps3
  go_upto_region 1 with (fail)
  go_cut [7] (fun v7 wx => v7 = .slice a0 m cap0 ∧ w = wx)
  case first =>
    cases a0 with
    | none =>
      obtain ⟨rfl, rfl⟩ := HNIL.out rfl
      obtain rfl : m = 0 := by omega
      go_wp2_with fail
      go_meet
      exact ⟨rfl, rfl⟩
    | some ad =>
      go_wp2_with fail
      go_meet
      exact ⟨rfl, rfl⟩
  case rest =>
    obtain ⟨rfl, rfl⟩ := hcut
    go_wp2_with fail
    refine (dnew_b _ _ _ _ _ HL0.out.ints (by omega)).mono ?_
    rintro e w1 ⟨g, b0, rfl, hd, hg, hb0, hb3, hb1⟩
    obtain ⟨q, hq⟩ : ∃ q, w1.heap.size = q := ⟨_, rfl⟩
    obtain ⟨w2, hw2⟩ : ∃ w2, w1.alloc (.cells #[.slice a0 m cap0, .int .u64 0] 27) = w2 := ⟨_, rfl⟩
    have hgq : g < q := by rw [← hq]; exact hd.1
    have HN : Hid (DN B0 g q w w2 (z0.take m) 0 (z0.take m) 0 b0 bl0 a0 m cap0) := Lib.hid (by
      have hB := HB0.out
      rw [← hw2]
      refine ⟨hd.below (alc0 _ _), (HL0.out.below hb1).below (alc0 _ _), ⟨by rw [← hq]; simp, by rw [← hq]; simp, by rw [← hq]; simp, by rw [← hq]; simp, by rw [← hq]; simp⟩, ⟨by omega, by omega, ?_⟩, ⟨by omega, by omega, by have := hb1.size; omega, by have := hb1.size; simp; omega, by simp; omega⟩, by rw [← hB]; exact alc hb1 _, HBD.out⟩
      rcases hblB with h | h
      · exact .inl h
      · exact .inr ⟨by omega, by omega, by have := hb1.size; omega⟩)
    have hZ : (z0.take m).length ≤ 10 := by simp; omega
    have HZ := Lib.hid hZ
    have HQ := Lib.hid (And.intro hq hw2)
    have hBg : B0 ≤ g := by have := HB0.out; omega
    clear hw2 hq hd hg hb0 hb3 hb1 HL0 HBD hZ
    go_upto_region 3 with (fail)
    rw [HQ.out.2, HQ.out.1]
    clear HQ
    go_wp2_with fail
    go_loopw [10] (fun i wr => ∃ (k : Nat) (Z : List Int) (K : Int) (b bl n c : Nat) (A : Option Addr), k ≤ n1 ∧ i = .int .i64 k ∧ 0 ≤ K ∧ K ≤ k ∧ Hid (Z.length ≤ 15 ∧ (k ≤ 5 → Z.length ≤ 10)) ∧ Hid (DN B0 g q w wr Z K Z K b bl A n c)) (fun i _ => n1 - (intOf i).toNat)
    case atStart => exact ⟨0, _, 0, b0, bl0, m, cap0, a0, by omega, rfl, by omega, by omega, Lib.hid ⟨by have := HZ.out; omega, fun _ => HZ.out⟩, HN⟩
    case round =>
      clear HN HZ
      obtain ⟨k, Z, K, b, bl, n, c, A, hk, rfl, K0, K1, HZ, HN⟩ := hrel
      by_cases hlt : k < n1
      · obtain ⟨bn, offn, rfl, hbn, hcn, hmb⟩ : ∃ bn offn, a1 = some ⟨bn, offn, none⟩ ∧ bn < w.heap.size ∧ w.cell? ⟨bn, offn + k, none⟩ = some (.int .i64 (z1.getD k 0)) ∧ z1.getD k 0 ≤ 9223372036854775807 := by
          rcases HW1.out.at with h0 | ⟨b, off, e, hl, hmx, hz, hc, hwf⟩
          · omega
          · refine ⟨b, off, e, World.block_lt_of_cell? w _ (hc 0 (by omega)), hc k (by omega), ?_⟩
            exact (bounds_i64 (hwf _ (by rw [List.getD_eq_getElem?_getD, List.getElem?_eq_getElem (show k < z1.length by omega)]; simp))).2
        have hm1 := hmb
        obtain ⟨m1, hmm⟩ : ∃ m1, z1.getD k 0 = m1 := ⟨_, rfl⟩
        rw [hmm] at hcn hmb hm1
        rw [HB0.out] at hbn
        have HCN := Lib.hid hcn
        have l1 : (k : Int) < len1 := by omega
        have l2 : (k : Int) < 30 := by omega
        have hK : 0 ≤ K ∧ K ≤ 1000 := by omega
        clear hmm hcn
        go_upto_region 7 with (fail)
        go_cut [11] (fun v11 wx => v11 = .int .i64 (vV Z K m1) ∧ ∃ A' n' c', Hid (DN B0 g q w wx Z K (vZ Z m1) (vK Z K m1) b bl A' n' c'))
        case first =>
          obtain ⟨hdr, hls, ⟨q0, q1, qf0, qf1, hqs⟩, _, ⟨_, _, _, hB4⟩, hbw, hbd⟩ := HN.out
          have hcr : wr.cell? ⟨bn, offn + k, none⟩ = some (.int .i64 m1) := (hbw.cell (p := ⟨bn, offn + k, none⟩) hbn).trans HCN.out
          have HA := Lib.hid (fun w7 (h : w7 = wr ∨ w7 = wr.drew) => rnext_all bl A n c Z K m1 w7 (by rcases h with rfl | rfl; exact hls; exact hls) hm1 hK hbd)
          clear hdr hls hbw hbd
          go_region_with (go_at_call 10; (with_reducible refine Calls.mono (HA.out _ (by first | exact .inl rfl | exact .inr rfl)) ?_); rintro e w9 ⟨A', n', c', rfl, hl9, hb9⟩; have hb8 : Below wr.heap.size wr w9 := (by first | exact hb9 | exact (Below.refl _ _).drew.trans hb9); have p0 := (hb8.cell (p := ⟨q, 0, none⟩) hqs).trans q0; have p1 := (hb8.cell (p := ⟨q, 1, none⟩) hqs).trans q1; have pf0 := (hb8.frozen (p := ⟨q, 0, none⟩) hqs).trans qf0; have pf1 := (hb8.frozen (p := ⟨q, 1, none⟩) hqs).trans qf1; have HNX := Lib.hid (HN.out.next (K' := vK Z K m1) hb8 hl9 (vZ_len Z m1)); clear hl9 hb9 hb8)
          all_goals
            go_wp2_with fail
            go_meet
            exact ⟨rfl, _, _, _, HNX⟩
        case rest =>
          obtain ⟨rfl, A', n', c', HN2⟩ := hcut
          clear HN
          have HLN := Lib.hid HN2.out.len
          obtain ⟨_, _, ⟨hq0, _⟩, ⟨hgq, _⟩, ⟨hBg, _⟩, _, _⟩ := HN2.out
          have hc8 := (HN2.out.bel.cell (p := ⟨bn, offn + k, none⟩) hbn).trans HCN.out
          go_upto_region 8 with (fail)
          refine wp_region_held_drew (S := (fun w' => w'.cell? ⟨bn, offn + k, none⟩ = some (.int .i64 m1) ∧ w'.cell? ⟨q, 0, none⟩ = some (.slice A' n' c'))) (by kernel_rfl) ?_ (fun hHeld => ?_)
          · exact ⟨hc8, hq0⟩
          have HN3 := Lib.hid HN2.out.drew
          obtain ⟨w3, hw3⟩ : ∃ w3, wc.drew = w3 := ⟨_, rfl⟩
          rw [hw3] at HN3 hHeld ⊢
          clear hw3 hq0 hc8 HN2
          refine wpAnyH_take (i := 0) (v := ?_) rfl (by kernel_rfl) (by kernel_rfl) (by kernel_rfl) (fun _ _ _ h => h) (Or.inl ⟨by kernel_rfl, ?_⟩) (by assumption) ?_
          rotate_left
          · (intro w hSw; (try dsimp only at hSw); go_simp)
            try (with_reducible rfl)
          rotate_left
          try simp (maxSteps := 4000000) only [Act.put, List.setIfInBounds_toArray, List.set_cons_zero, List.set_cons_succ, List.getElem_toArray, List.getElem_cons_zero, List.getElem_cons_succ]
          refine wpAnyH_take (i := 1) (v := ?_) rfl (by kernel_rfl) (by kernel_rfl) (by kernel_rfl) (fun _ _ _ h => h) (Or.inl ⟨by kernel_rfl, ?_⟩) (by assumption) ?_
          rotate_left
          · (intro w hSw; (try dsimp only at hSw); go_simp)
            try (with_reducible rfl)
          rotate_left
          try simp (maxSteps := 4000000) only [Act.put, List.setIfInBounds_toArray, List.set_cons_zero, List.set_cons_succ, List.getElem_toArray, List.getElem_cons_zero, List.getElem_cons_succ]
          refine wpAnyH_take (i := 2) (v := ?_) rfl (by kernel_rfl) (by kernel_rfl) (by kernel_rfl) (fun _ _ _ h => h) (Or.inl ⟨by kernel_rfl, ?_⟩) (by assumption) ?_
          rotate_left
          · (intro w hSw; (try dsimp only at hSw); go_simp)
            try (with_reducible rfl)
          rotate_left
          try simp (maxSteps := 4000000) only [Act.put, List.setIfInBounds_toArray, List.set_cons_zero, List.set_cons_succ, List.getElem_toArray, List.getElem_cons_zero, List.getElem_cons_succ]
          refine wpAnyH_take (i := 3) (v := ?_) rfl (by kernel_rfl) (by kernel_rfl) (by kernel_rfl) (fun _ _ _ h => h) (Or.inl ⟨by kernel_rfl, ?_⟩) (by assumption) ?_
          rotate_left
          · (intro w hSw; (try dsimp only at hSw); go_simp)
            try (with_reducible rfl)
          rotate_left
          try simp (maxSteps := 4000000) only [Act.put, List.setIfInBounds_toArray, List.set_cons_zero, List.set_cons_succ, List.getElem_toArray, List.getElem_cons_zero, List.getElem_cons_succ]
          refine wpAnyH_take (i := 4) (v := ?_) rfl (by kernel_rfl) (by kernel_rfl) (by kernel_rfl) (fun _ _ _ h => h) (Or.inl ⟨by kernel_rfl, ?_⟩) (by assumption) ?_
          rotate_left
          · (intro w hSw; (try dsimp only at hSw); go_simp)
            try (with_reducible rfl)
          rotate_left
          try simp (maxSteps := 4000000) only [Act.put, List.setIfInBounds_toArray, List.set_cons_zero, List.set_cons_succ, List.getElem_toArray, List.getElem_cons_zero, List.getElem_cons_succ]
          refine wpAnyH_take (i := 6) (v := ?_) rfl (by kernel_rfl) (by kernel_rfl) (by kernel_rfl) (fun _ _ _ h => h) (Or.inl ⟨by kernel_rfl, ?_⟩) (by assumption) ?_
          rotate_left
          · (intro w hSw; (try dsimp only at hSw); go_simp)
            try (with_reducible rfl)
          rotate_left
          try simp (maxSteps := 4000000) only [Act.put, List.setIfInBounds_toArray, List.set_cons_zero, List.set_cons_succ, List.getElem_toArray, List.getElem_cons_zero, List.getElem_cons_succ]
          refine wpAnyH_ready (rs := [5]) (by kernel_rfl) (by simp) ?_
          refine AllReadyH.cons rfl (fun K2 hK2 => ?_) AllReadyH.nil
          go_simp
          with_reducible refine Calls.mono (dnext_all g b Z K m1 _ HN3.out.dr hm1 hK HN3.out.bds) ?_
          rintro e w4 ⟨rfl, hd, hsz, ho, hbl⟩
          have HN4 := Lib.hid (HN3.out.drawn hd hsz ho hbl (fun x hx => vZ_mem Z m1 x hx))
          refine hK2.out _ _ ?_ (fun hHeld2 => ?_)
          · exact ⟨(World.cell?_of_block (ho bn (by omega))).trans hHeld.1, (World.cell?_of_block (ho q (Ne.symm hgq))).trans hHeld.2⟩
          clear HN3 hd hsz ho hbl
          clear hK2 K2 hHeld
          have hHeld := hHeld2
          clear hHeld2
          try simp (maxSteps := 4000000) only [Act.put, List.setIfInBounds_toArray, List.set_cons_zero, List.set_cons_succ]
          refine wpAnyH_take (i := 7) (v := ?_) rfl (by kernel_rfl) (by kernel_rfl) (by kernel_rfl) (fun _ _ _ h => h) (Or.inl ⟨by kernel_rfl, ?_⟩) (by assumption) ?_
          rotate_left
          · (intro w hSw; (try dsimp only at hSw); go_simp)
            try (with_reducible rfl)
          rotate_left
          try simp (maxSteps := 4000000) only [Act.put, List.setIfInBounds_toArray, List.set_cons_zero, List.set_cons_succ, List.getElem_toArray, List.getElem_cons_zero, List.getElem_cons_succ]
          refine wpAnyH_take (i := 8) (v := ?_) rfl (by kernel_rfl) (by kernel_rfl) (by kernel_rfl) (fun _ _ _ h => h) (Or.inl ⟨by kernel_rfl, ?_⟩) (by assumption) ?_
          rotate_left
          · (intro w hSw; (try dsimp only at hSw); go_simp)
            try (with_reducible rfl)
          rotate_left
          try simp (maxSteps := 4000000) only [Act.put, List.setIfInBounds_toArray, List.set_cons_zero, List.set_cons_succ, List.getElem_toArray, List.getElem_cons_zero, List.getElem_cons_succ]
          refine wpAnyH_take (i := 9) (v := ?_) rfl (by kernel_rfl) (by kernel_rfl) (by kernel_rfl) (fun _ _ _ h => h) (Or.inl ⟨by kernel_rfl, ?_⟩) (by assumption) ?_
          rotate_left
          · (intro w hSw; (try dsimp only at hSw); go_simp)
            try (with_reducible rfl)
          rotate_left
          try simp (maxSteps := 4000000) only [Act.put, List.setIfInBounds_toArray, List.set_cons_zero, List.set_cons_succ, List.getElem_toArray, List.getElem_cons_zero, List.getElem_cons_succ]
          refine wpAnyH_take (i := 11) (v := ?_) rfl (by kernel_rfl) (by kernel_rfl) (by kernel_rfl) (fun _ _ _ h => h) (Or.inl ⟨by kernel_rfl, ?_⟩) (by assumption) ?_
          rotate_left
          · (intro w hSw; (try dsimp only at hSw); go_simp)
            try (with_reducible rfl)
          rotate_left
          try simp (maxSteps := 4000000) only [Act.put, List.setIfInBounds_toArray, List.set_cons_zero, List.set_cons_succ, List.getElem_toArray, List.getElem_cons_zero, List.getElem_cons_succ]
          refine wpAnyH_take (i := 12) (v := ?_) rfl (by kernel_rfl) (by kernel_rfl) (by kernel_rfl) (fun _ _ _ h => h) (Or.inl ⟨by kernel_rfl, ?_⟩) (by assumption) ?_
          rotate_left
          · (intro w hSw; (try dsimp only at hSw); go_simp)
            try (with_reducible rfl)
          rotate_left
          try simp (maxSteps := 4000000) only [Act.put, List.setIfInBounds_toArray, List.set_cons_zero, List.set_cons_succ, List.getElem_toArray, List.getElem_cons_zero, List.getElem_cons_succ]
          refine wpAnyH_take (i := 13) (v := ?_) rfl (by kernel_rfl) (by kernel_rfl) (by kernel_rfl) (fun _ _ _ h => h) (Or.inl ⟨by kernel_rfl, ?_⟩) (by assumption) ?_
          rotate_left
          · (intro w hSw; (try dsimp only at hSw); go_simp)
            try (with_reducible rfl)
          rotate_left
          try simp (maxSteps := 4000000) only [Act.put, List.setIfInBounds_toArray, List.set_cons_zero, List.set_cons_succ, List.getElem_toArray, List.getElem_cons_zero, List.getElem_cons_succ]
          refine wpAnyH_ready (rs := [10]) (by kernel_rfl) (by simp) ?_
          refine AllReadyH.cons rfl (fun K2 hK2 => ?_) AllReadyH.nil
          go_simp
          with_reducible refine Calls.mono (dleft_any g b _ _ _ HN4.out.dr) ?_
          rintro e w5 ⟨rfl, rfl⟩
          rw [HLN.out]
          refine hK2.out _ _ hHeld (fun hHeld2 => ?_)
          clear hK2 K2 hHeld
          have hHeld := hHeld2
          clear hHeld2
          try simp (maxSteps := 4000000) only [Act.put, List.setIfInBounds_toArray, List.set_cons_zero, List.set_cons_succ]
          refine wpAnyH_take (i := 14) (v := ?_) rfl (by kernel_rfl) (by kernel_rfl) (by kernel_rfl) (fun _ _ _ h => h) (Or.inl ⟨by kernel_rfl, ?_⟩) (by assumption) ?_
          rotate_left
          · (intro w hSw; (try dsimp only at hSw); go_simp)
            try (with_reducible rfl)
          rotate_left
          try simp (maxSteps := 4000000) only [Act.put, List.setIfInBounds_toArray, List.set_cons_zero, List.set_cons_succ, List.getElem_toArray, List.getElem_cons_zero, List.getElem_cons_succ]
          refine wpAnyH_take (i := 15) (v := ?_) rfl (by kernel_rfl) (by kernel_rfl) (by kernel_rfl) (fun _ _ _ h => h) (Or.inl ⟨by kernel_rfl, ?_⟩) (by assumption) ?_
          rotate_left
          · (intro w hSw; (try dsimp only at hSw); go_simp)
            try (with_reducible rfl)
          rotate_left
          try simp (maxSteps := 4000000) only [Act.put, List.setIfInBounds_toArray, List.set_cons_zero, List.set_cons_succ, List.getElem_toArray, List.getElem_cons_zero, List.getElem_cons_succ]
          refine wpAnyH_done (by kernel_rfl) ?_ _
          go_upto_region 10 with (fail)
          have HZ2 : Hid ((vZ Z m1).length ≤ 15 ∧ (k ≤ 5 → (vZ Z m1).length ≤ 10)) := Lib.hid (by have h1 := vZ_len Z m1; have h2 := HZ.out; exact ⟨by omega, fun h => by have := h2.2 h; omega⟩)
          have hK2 := vK_bd Z K m1
          obtain ⟨hK3, hK4⟩ := hK2
          have hK5 : 0 ≤ vK Z K m1 := by omega
          clear HZ hK3
          generalize vZ Z m1 = Z1 at *
          generalize vK Z K m1 = KK at *
          by_cases h5 : k = 5
          · subst h5
            obtain ⟨m2, hm2⟩ : ∃ m2 : Nat, min len2 5 = m2 := ⟨_, rfl⟩
            have hm3 : m2 ≤ len2 ∧ m2 ≤ 5 := by omega
            obtain ⟨hm3, hm4⟩ := hm3
            have hmI2 : min (len2 : Int) 5 = (m2 : Int) := by omega
            obtain ⟨bl2, hbl2, hl2⟩ := row_lsb HW2.out m2 hm3
            have hbd2 := row_bd HW2.out
            obtain ⟨hnil2, hc21, hc22⟩ := row_cap HW2.out
            have HBD2 : Hid (∀ x ∈ z2.take m2, -9223372036854775808 ≤ x ∧ x ≤ 9223372036854775807) := Lib.hid fun x hx => hbd2 x (List.mem_of_mem_take hx)
            have HL2 := Lib.hid hl2
            have HNIL2 := Lib.hid hnil2
            clear hm2 hl2 hbd2 hnil2 hbl2
            go_upto_region 11 with (fail)
            go_cut [12] (fun v12 wx => v12 = .slice a2 m2 cap2 ∧ w4 = wx)
            case first =>
              cases a2 with
              | none =>
                obtain ⟨rfl, rfl⟩ := HNIL2.out rfl
                obtain rfl : m2 = 0 := by omega
                go_wp2_with fail
                go_meet
                exact ⟨rfl, rfl⟩
              | some ad =>
                go_wp2_with fail
                go_meet
                exact ⟨rfl, rfl⟩
            case rest =>
              obtain ⟨rfl, rfl⟩ := hcut
              go_wp2_with fail
              have hb4 := HN4.out.bel
              have hI2 : Ints .i64 w4 a2 m2 (z2.take m2) := (HL2.out.below (by rw [HB0.out]; exact hb4)).ints
              have HI2 := Lib.hid hI2
              clear hb4 hI2
              refine (add_b g b Z1 KK _ HN4.out.dr a2 m2 cap2 (z2.take m2) HI2.out (by omega) (by have := HZ2.out; omega)).mono ?_
              rintro e w6 ⟨rfl, b', hb', hbB, hd, hs, ho, hbl⟩
              have hbd1 := HN4.out.bds
              have HN6 := Lib.hid (HN4.out.add hb' (hbB HN4.out.bB) hd hs ho hbl (fun x hx => by rcases List.mem_append.1 hx with h | h; exact hbd1 x h; exact HBD2.out x h))
              have HZL : Hid ((Z1 ++ z2.take m2).length ≤ 15) := Lib.hid (by have h1 := HZ2.out.2 (by omega); have h2 := HL2.out.1; simp only [List.length_append, h2]; omega)
              have HI6 := Lib.hid ((HL2.out.below (by rw [HB0.out]; exact HN6.out.bel)).ints)
              have HLS := Lib.hid HN6.out.ls
              obtain ⟨q0, q1, qf0, qf1, hqs⟩ := HN6.out.qs
              have hnl : n' ≤ 15 := by have := HZ2.out; have := HLN.out; omega
              have hmade : (w6.alloc (.cells #[] 3)).ownsRow w6.heap.size 3 1 (.slice (some ⟨w6.heap.size, 0, none⟩) 0 0) 0 (([] : List Int).map (Value.int .i64)) := World.ownsRow_made (e := 3) (size := 1) w6 #[] 0 (Nat.le_refl _) (by unfold maxLen; omega) (by simp)
              have hml : (z2.take m2).length = m2 := HL2.out.1
              have HML := Lib.hid hml
              clear hb' hbB hd hs ho hbl hbd1 HN4 HI2 hml
              go_wp2_with (at_builtin; refine app_ints rfl (.tmp 68) (.tmp 70) rfl w6.heap.size (.slice (some ⟨w6.heap.size, 0, none⟩) 0 0) 0 [] rfl hmade A' n' c' Z1 rfl (HLS.out.below (alc0 _ _)).ints (fun h => (HLS.out.2.2.2.1 h).2) (by omega) (by simp) ?_)
              intro v1 w7 hown7 hg7
              have hb7 : Below w6.heap.size w6 w7 := (alc0 w6 _).grown hg7 (by simp) (fun j hj => (hmade.lt j hj).1)
              have p0 := (hb7.cell (p := ⟨q, 0, none⟩) hqs).trans q0
              have pf0 := (hb7.frozen (p := ⟨q, 0, none⟩) hqs).trans qf0
              have HB7 := Lib.hid hb7
              have HI7 := Lib.hid (HI6.out.below hb7)
              clear hb7 hg7 hmade
              go_wp2_with (at_builtin; refine app_ints rfl (.tmp 71) (.tmp 72) rfl w6.heap.size v1 _ _ rfl hown7 a2 m2 cap2 (z2.take m2) rfl HI7.out (fun h => (HNIL2.out h).2) (by omega) HB7.out.size ?_)
              intro v2 w8 hown8 hg8
              have hb8 : Below w6.heap.size w6 w8 := HB7.out.grown hg8 HB7.out.size (fun j hj => (hown7.lt j hj).1)
              have r0 := (hb8.cell (p := ⟨q, 0, none⟩) hqs).trans q0
              have rf0 := (hb8.frozen (p := ⟨q, 0, none⟩) hqs).trans qf0
              obtain ⟨A2, c2, rfl⟩ := own_shape hown8
              have HB8 := Lib.hid hb8
              have HO8 : Hid (w8.ownsRow w6.heap.size 3 1 (.slice A2 (n' + m2) c2) (n' + m2) ((Z1 ++ z2.take m2).map (Value.int .i64))) := Lib.hid (by simpa using hown8)
              clear hb8 hg8 hown8 hown7 p0 pf0 q0 q1 qf0 qf1
              go_wp2_with fail
              go_roundw
              case rel =>
                obtain ⟨bl', hdn⟩ := HN6.out.list HB8.out (by rw [List.length_append, HML.out, HLN.out]) HO8.out
                exact ⟨6, _, KK, b', bl', n' + m2, c2, A2, by omega, by go_num, hK5, by omega, Lib.hid ⟨HZL.out, fun h => by omega⟩, Lib.hid hdn⟩
              case measure => simp [intOf]; omega
          · have h5' : ¬ (k : Int) = 5 := by omega
            go_wp2_with fail
            go_roundw
            case rel => exact ⟨k + 1, Z1, KK, b, bl, n', c', A', by omega, by go_num, hK5, by omega, Lib.hid ⟨HZ2.out.1, fun h => HZ2.out.2 (by omega)⟩, HN4⟩
            case measure => simp [intOf]; omega
      · obtain rfl : k = n1 := by omega
        have hB4 := HN.out.base
        have HBW := Lib.hid HN.out.bel
        have hB4' := HB0.out
        have hstop : ¬ ((k : Int) < len1) ∨ ((k : Int) < len1 ∧ ¬ ((k : Int) < 30)) := by omega
        clear HN HZ
        rcases hstop with hs | ⟨hs, hs2⟩
        all_goals
          have HB0' := Lib.hid hB4'
          clear hB4'
          go_wp2_with fail
          refine (nadd_any _ _).mono ?_
          rintro e w3 ⟨rfl, rfl⟩
          go_wp2_with fail
          refine (d22awake _).mono ?_
          rintro e w5 ⟨rfl, hb⟩
          have HB5 : Hid (Below w.heap.size w w5) := Lib.hid (by rw [HB0'.out]; exact ((HBW.out.alloc hB4 _).trans (hb.mono (by simp; omega))))
          clear hb
          go_wp2_with fail
          refine (nnext_any _ _).mono ?_
          rintro e w6 ⟨rfl, rfl⟩
          go_wp2_with fail
          refine (nleft_any _).mono ?_
          rintro e w6 ⟨rfl, rfl⟩
          go_wp2
          go_ret
          exact ⟨rfl, HB5.out⟩
end Go.Proofs.Ytbmcgoodilomlaa
