/- MsC. -/
import Derived.Test.YtnfcpohbdkionaaGreatDoorZ44
import Derived.Deep.RegionHeld3
namespace Go.Proofs.YtnfcpohbdkionaaGreatDoor
set_option maxRecDepth 100000
open Go.RowKit Go.ChangeMaps Go.MapKept
set_option linter.unusedVariables false
set_option linter.unusedSimpArgs false
set_option maxHeartbeats 3200000 in
theorem malike (p : Nat) (r : Bool) (B1 B2 : Nat) (cl1 cl2 : Nat → Nat) (M1 M2 : Nat) (σ1 σ2 : MS) (W : World) (h1 : MEM B1 cl1 M1 W σ1) (h2 : MEM B2 cl2 M2 W σ2) (hp : p < 1024) (hc : ∀ x, 256 * p ≤ x → x < 256 * p + 256 → σ1.c x = σ2.c x)
    (hr : r = true ↔ ∀ g, g < 16 → σ1.f (16 * p + g) = σ2.f (16 * p + g)) :
    Calls Tryz.prog 30 #[.pointer (some ⟨M1, 1, none⟩), .pointer (some ⟨M2, 1, none⟩), .int .i64 (p : Int)] W fun e w' => e = .returned (.bool r) ∧ Below W.heap.size W w' := by
  have H1 := Lib.hid h1
  have H2 := Lib.hid h2
  have HT : thereI (p : Int) 1 := by unfold thereI; omega
  obtain ⟨x, hx⟩ : ∃ x, 256 * p = x := ⟨_, rfl⟩
  obtain ⟨G, hG⟩ : ∃ G, 16 * p = G := ⟨_, rfl⟩
  have SP : Hid (∀ w, Calls Tryz.prog 61 #[.int .i64 (p : Int), .int .i64 1] w fun e w' => e = .returned (.agg #[.int .i64 (x : Int), .int .i64 256]) ∧ Below w.heap.size w w') := Lib.hid (fun w => by
    have h := span_of (p : Int) 1 HT w
    rw [show (p : Int) * 256 = (x : Int) by omega] at h
    exact h)
  have hm : mayB (x : Int) 256 = true := mayB_iff.2 (by omega)
  have GP : Hid (∀ w, Calls Tryz.prog 50 #[.agg #[.int .i64 (x : Int), .int .i64 256]] w fun e w' => e = .returned (.tuple #[.int .i64 (G : Int), .int .i64 16]) ∧ Below w.heap.size w w') := Lib.hid (fun w => by
    have h := granules_any (x : Int) 256 w
    rw [(gr_in hm).1, (gr_in hm).2.1, show grF (x : Int) = G by unfold grF; omega, show grN (x : Int) 256 = 16 by unfold grN; omega] at h
    exact h)
  rw [hx] at hc
  rw [hG] at hr
  have HC := Lib.hid hc
  have HR := Lib.hid hr
  have HX : Hid (x + 256 ≤ 262144 ∧ G + 16 ≤ 16384 ∧ ∃ h, G = 2 * h) := Lib.hid ⟨by omega, by omega, 8 * p, by omega⟩
  have gle : (G : Int) ≤ 16368 := by omega
  have RD : Hid (∀ (B sg : Nat) (w : World) (c : Nat → Nat), ST B sg w c → Calls Tryz.prog 62 #[.pointer (some ⟨sg, 0, none⟩), .int .i64 (x : Int), .int .i64 256] w fun e w' => (∃ D, e = .returned (.slice (some ⟨D, 0, none⟩) 256 256) ∧ w.heap.size ≤ D ∧ PGn D 256 w' (fun j => c (x + j))) ∧ Below w.heap.size w w') :=
    Lib.hid (fun B sg w c h => sread_yes B sg w c h x 256 (by decide) (by omega))
  clear h1 h2 HT hm hc hr hx hG
  go_enter Tryz.func30, Tryz.ntmps30
  go_wp2_with fail
  refine (SP.out _).mono ?_
  rintro e w1 ⟨rfl, hb1⟩
  have HB2 : Hid (Below W.heap.size W (w1.alloc (.cells #[.int .i64 (x : Int), .int .i64 256] 23))) := Lib.hid (alc hb1 _)
  have d0 : (w1.alloc (.cells #[.int .i64 (x : Int), .int .i64 256] 23)).cell? ⟨w1.heap.size, 0, none⟩ = some (.int .i64 (x : Int)) := by simp
  have d1 : (w1.alloc (.cells #[.int .i64 (x : Int), .int .i64 256] 23)).cell? ⟨w1.heap.size, 1, none⟩ = some (.int .i64 256) := by simp
  have dz : w1.heap.size < (w1.alloc (.cells #[.int .i64 (x : Int), .int .i64 256] 23)).heap.size := by simp
  clear hb1
  go_upto_region 2 with (fail)
  obtain ⟨w2, hw2⟩ : ∃ w2, w1.alloc (.cells #[.int .i64 (x : Int), .int .i64 256] 23) = w2 := ⟨_, rfl⟩
  rw [hw2] at HB2 d0 d1 dz ⊢
  obtain ⟨t, ht⟩ : ∃ t, w1.heap.size = t := ⟨_, rfl⟩
  rw [ht] at d0 d1 dz ⊢
  clear hw2 ht
  obtain ⟨P1, sg1, t1, S1, kb1, ⟨-, k1, -, -, -⟩, -, ⟨b1, l1, hs1, -⟩, -⟩ := (H1.out.later HB2.out).ex
  obtain ⟨P2, sg2, t2, S2, kb2, ⟨-, k2, -, -, -⟩, -, ⟨b2, l2, hs2, -⟩, -⟩ := (H2.out.later HB2.out).ex
  have HS1 : Hid (ST B1 sg1 w2.drew σ1.c) := Lib.hid ⟨b1, l1, hs1.below (Below.refl _ _).drew⟩
  have HS2 : Hid (ST B2 sg2 w2.drew σ2.c) := Lib.hid ⟨b2, l2, hs2.below (Below.refl _ _).drew⟩
  have m1 : M1 < w2.heap.size := World.block_lt_of_cell? w2 _ k1
  have m2 : M2 < w2.heap.size := World.block_lt_of_cell? w2 _ k2
  clear hs1 hs2
  refine wp_region_held_drew (S := fun w' => w'.cell? ⟨M1, 1, none⟩ = some (.pointer (some ⟨sg1, 0, none⟩)) ∧ w'.cell? ⟨M2, 1, none⟩ = some (.pointer (some ⟨sg2, 0, none⟩)) ∧ w'.cell? ⟨t, 0, none⟩ = some (.int .i64 (x : Int)) ∧ w'.cell? ⟨t, 1, none⟩ = some (.int .i64 256)) (by kernel_rfl) ?_ (fun hHeld => ?_)
  · exact ⟨k1, k2, d0, d1⟩
  refine wpAnyH_take (i := 0) (v := ?_) rfl (by kernel_rfl) (by kernel_rfl) (by kernel_rfl) (fun _ _ _ h => h) (Or.inl ⟨by kernel_rfl, ?_⟩) (by assumption) ?_
  rotate_left
  · (intro w hSw; (try dsimp only at hSw); go_simp)
    try (with_reducible rfl)
  rotate_left
  try simp (maxSteps := 4000000) only [Act.put, List.setIfInBounds_toArray, List.set_cons_zero, List.set_cons_succ, List.getElem_toArray, List.getElem_cons_zero, List.getElem_cons_succ]
  refine wpAnyH_take (i := 1) (v := ?_) rfl (by kernel_rfl) (by kernel_rfl) (by kernel_rfl) (fun _ _ _ h => h) (Or.inl ⟨by kernel_rfl, ?_⟩) (by assumption) ?_
  rotate_left
  · (intro w hSw; (try dsimp only at hSw); go_simp)
    try (with_reducible rfl)
  rotate_left
  try simp (maxSteps := 4000000) only [Act.put, List.setIfInBounds_toArray, List.set_cons_zero, List.set_cons_succ, List.getElem_toArray, List.getElem_cons_zero, List.getElem_cons_succ]
  refine wpAnyH_take (i := 2) (v := ?_) rfl (by kernel_rfl) (by kernel_rfl) (by kernel_rfl) (fun _ _ _ h => h) (Or.inl ⟨by kernel_rfl, ?_⟩) (by assumption) ?_
  rotate_left
  · (intro w hSw; (try dsimp only at hSw); go_simp)
    try (with_reducible rfl)
  rotate_left
  try simp (maxSteps := 4000000) only [Act.put, List.setIfInBounds_toArray, List.set_cons_zero, List.set_cons_succ, List.getElem_toArray, List.getElem_cons_zero, List.getElem_cons_succ]
  refine wpAnyH_take (i := 3) (v := ?_) rfl (by kernel_rfl) (by kernel_rfl) (by kernel_rfl) (fun _ _ _ h => h) (Or.inl ⟨by kernel_rfl, ?_⟩) (by assumption) ?_
  rotate_left
  · (intro w hSw; (try dsimp only at hSw); go_simp)
    try (with_reducible rfl)
  rotate_left
  try simp (maxSteps := 4000000) only [Act.put, List.setIfInBounds_toArray, List.set_cons_zero, List.set_cons_succ, List.getElem_toArray, List.getElem_cons_zero, List.getElem_cons_succ]
  refine wpAnyH_take (i := 4) (v := ?_) rfl (by kernel_rfl) (by kernel_rfl) (by kernel_rfl) (fun _ _ _ h => h) (Or.inl ⟨by kernel_rfl, ?_⟩) (by assumption) ?_
  rotate_left
  · (intro w hSw; (try dsimp only at hSw); go_simp)
    try (with_reducible rfl)
  rotate_left
  try simp (maxSteps := 4000000) only [Act.put, List.setIfInBounds_toArray, List.set_cons_zero, List.set_cons_succ, List.getElem_toArray, List.getElem_cons_zero, List.getElem_cons_succ]
  refine wpAnyH_take (i := 5) (v := ?_) rfl (by kernel_rfl) (by kernel_rfl) (by kernel_rfl) (fun _ _ _ h => h) (Or.inl ⟨by kernel_rfl, ?_⟩) (by assumption) ?_
  rotate_left
  · (intro w hSw; (try dsimp only at hSw); go_simp)
    try (with_reducible rfl)
  rotate_left
  try simp (maxSteps := 4000000) only [Act.put, List.setIfInBounds_toArray, List.set_cons_zero, List.set_cons_succ, List.getElem_toArray, List.getElem_cons_zero, List.getElem_cons_succ]
  refine wpAnyH_take (i := 6) (v := ?_) rfl (by kernel_rfl) (by kernel_rfl) (by kernel_rfl) (fun _ _ _ h => h) (Or.inl ⟨by kernel_rfl, ?_⟩) (by assumption) ?_
  rotate_left
  · (intro w hSw; (try dsimp only at hSw); go_simp)
    try (with_reducible rfl)
  rotate_left
  try simp (maxSteps := 4000000) only [Act.put, List.setIfInBounds_toArray, List.set_cons_zero, List.set_cons_succ, List.getElem_toArray, List.getElem_cons_zero, List.getElem_cons_succ]
  refine wpAnyH_take (i := 7) (v := ?_) rfl (by kernel_rfl) (by kernel_rfl) (by kernel_rfl) (fun _ _ _ h => h) (Or.inl ⟨by kernel_rfl, ?_⟩) (by assumption) ?_
  rotate_left
  · (intro w hSw; (try dsimp only at hSw); go_simp)
    try (with_reducible rfl)
  rotate_left
  try simp (maxSteps := 4000000) only [Act.put, List.setIfInBounds_toArray, List.set_cons_zero, List.set_cons_succ, List.getElem_toArray, List.getElem_cons_zero, List.getElem_cons_succ]
  refine wpAnyH_take (i := 9) (v := ?_) rfl (by kernel_rfl) (by kernel_rfl) (by kernel_rfl) (fun _ _ _ h => h) (Or.inl ⟨by kernel_rfl, ?_⟩) (by assumption) ?_
  rotate_left
  · (intro w hSw; (try dsimp only at hSw); go_simp)
    try (with_reducible rfl)
  rotate_left
  try simp (maxSteps := 4000000) only [Act.put, List.setIfInBounds_toArray, List.set_cons_zero, List.set_cons_succ, List.getElem_toArray, List.getElem_cons_zero, List.getElem_cons_succ]
  refine wpAnyH_take (i := 10) (v := ?_) rfl (by kernel_rfl) (by kernel_rfl) (by kernel_rfl) (fun _ _ _ h => h) (Or.inl ⟨by kernel_rfl, ?_⟩) (by assumption) ?_
  rotate_left
  · (intro w hSw; (try dsimp only at hSw); go_simp)
    try (with_reducible rfl)
  rotate_left
  try simp (maxSteps := 4000000) only [Act.put, List.setIfInBounds_toArray, List.set_cons_zero, List.set_cons_succ, List.getElem_toArray, List.getElem_cons_zero, List.getElem_cons_succ]
  refine wpAnyH_take (i := 11) (v := ?_) rfl (by kernel_rfl) (by kernel_rfl) (by kernel_rfl) (fun _ _ _ h => h) (Or.inl ⟨by kernel_rfl, ?_⟩) (by assumption) ?_
  rotate_left
  · (intro w hSw; (try dsimp only at hSw); go_simp)
    try (with_reducible rfl)
  rotate_left
  try simp (maxSteps := 4000000) only [Act.put, List.setIfInBounds_toArray, List.set_cons_zero, List.set_cons_succ, List.getElem_toArray, List.getElem_cons_zero, List.getElem_cons_succ]
  refine wpAnyH_take (i := 12) (v := ?_) rfl (by kernel_rfl) (by kernel_rfl) (by kernel_rfl) (fun _ _ _ h => h) (Or.inl ⟨by kernel_rfl, ?_⟩) (by assumption) ?_
  rotate_left
  · (intro w hSw; (try dsimp only at hSw); go_simp)
    try (with_reducible rfl)
  rotate_left
  try simp (maxSteps := 4000000) only [Act.put, List.setIfInBounds_toArray, List.set_cons_zero, List.set_cons_succ, List.getElem_toArray, List.getElem_cons_zero, List.getElem_cons_succ]
  refine wpAnyH_take (i := 13) (v := ?_) rfl (by kernel_rfl) (by kernel_rfl) (by kernel_rfl) (fun _ _ _ h => h) (Or.inl ⟨by kernel_rfl, ?_⟩) (by assumption) ?_
  rotate_left
  · (intro w hSw; (try dsimp only at hSw); go_simp)
    try (with_reducible rfl)
  rotate_left
  try simp (maxSteps := 4000000) only [Act.put, List.setIfInBounds_toArray, List.set_cons_zero, List.set_cons_succ, List.getElem_toArray, List.getElem_cons_zero, List.getElem_cons_succ]
  refine wpAnyH_take (i := 14) (v := ?_) rfl (by kernel_rfl) (by kernel_rfl) (by kernel_rfl) (fun _ _ _ h => h) (Or.inl ⟨by kernel_rfl, ?_⟩) (by assumption) ?_
  rotate_left
  · (intro w hSw; (try dsimp only at hSw); go_simp)
    try (with_reducible rfl)
  rotate_left
  try simp (maxSteps := 4000000) only [Act.put, List.setIfInBounds_toArray, List.set_cons_zero, List.set_cons_succ, List.getElem_toArray, List.getElem_cons_zero, List.getElem_cons_succ]
  refine wpAnyH_take (i := 15) (v := ?_) rfl (by kernel_rfl) (by kernel_rfl) (by kernel_rfl) (fun _ _ _ h => h) (Or.inl ⟨by kernel_rfl, ?_⟩) (by assumption) ?_
  rotate_left
  · (intro w hSw; (try dsimp only at hSw); go_simp)
    try (with_reducible rfl)
  rotate_left
  try simp (maxSteps := 4000000) only [Act.put, List.setIfInBounds_toArray, List.set_cons_zero, List.set_cons_succ, List.getElem_toArray, List.getElem_cons_zero, List.getElem_cons_succ]
  refine wpAnyH_take (i := 16) (v := ?_) rfl (by kernel_rfl) (by kernel_rfl) (by kernel_rfl) (fun _ _ _ h => h) (Or.inl ⟨by kernel_rfl, ?_⟩) (by assumption) ?_
  rotate_left
  · (intro w hSw; (try dsimp only at hSw); go_simp)
    try (with_reducible rfl)
  rotate_left
  try simp (maxSteps := 4000000) only [Act.put, List.setIfInBounds_toArray, List.set_cons_zero, List.set_cons_succ, List.getElem_toArray, List.getElem_cons_zero, List.getElem_cons_succ]
  refine wpAnyH_ready (rs := [8]) (by kernel_rfl) (by simp) ?_
  refine AllReadyH.cons rfl (fun K2 hK2 => ?_) AllReadyH.nil
  go_simp
  with_reducible refine Calls.mono (RD.out _ _ _ _ HS1.out) ?_
  rintro e w3 ⟨⟨D1, rfl, hD1, hP1⟩, hb3⟩
  have HP1 := Lib.hid hP1
  have HB3 : Hid (Below W.heap.size W w3) := Lib.hid (thn HB2.out.drew hb3)
  have e1 : w3.cell? ⟨M1, 1, none⟩ = some (.pointer (some ⟨sg1, 0, none⟩)) := (hb3.cell (p := ⟨M1, 1, none⟩) m1).trans k1
  have e2 : w3.cell? ⟨M2, 1, none⟩ = some (.pointer (some ⟨sg2, 0, none⟩)) := (hb3.cell (p := ⟨M2, 1, none⟩) m2).trans k2
  have e3 : w3.cell? ⟨t, 0, none⟩ = some (.int .i64 (x : Int)) := (hb3.cell (p := ⟨t, 0, none⟩) dz).trans d0
  have e4 : w3.cell? ⟨t, 1, none⟩ = some (.int .i64 256) := (hb3.cell (p := ⟨t, 1, none⟩) dz).trans d1
  have HS3 := Lib.hid (HS2.out.below hb3)
  have n1 : M1 < w3.heap.size := Nat.lt_of_lt_of_le m1 hb3.size
  have n2 : M2 < w3.heap.size := Nat.lt_of_lt_of_le m2 hb3.size
  have n3 : t < w3.heap.size := Nat.lt_of_lt_of_le dz hb3.size
  clear hb3 hD1 hP1 k1 k2 d0 d1 m1 m2 dz
  refine hK2.out _ _ ⟨e1, e2, e3, e4⟩ (fun hHeld2 => ?_)
  clear hK2 K2 hHeld
  have hHeld := hHeld2
  clear hHeld2
  try simp (maxSteps := 4000000) only [Act.put, List.setIfInBounds_toArray, List.set_cons_zero, List.set_cons_succ]
  refine wpAnyH_ready (rs := [17]) (by kernel_rfl) (by simp) ?_
  refine AllReadyH.cons rfl (fun K2 hK2 => ?_) AllReadyH.nil
  go_simp
  with_reducible refine Calls.mono (RD.out _ _ _ _ HS3.out) ?_
  rintro e w4 ⟨⟨D2, rfl, hD2, hP2⟩, hb4⟩
  have HP2 := Lib.hid hP2
  have HB4 : Hid (Below W.heap.size W w4) := Lib.hid (thn HB3.out hb4)
  have HP1 : Hid (PGn D1 256 w4 (fun j => σ1.c (x + j))) := Lib.hid (HP1.out.keep hb4.size (hb4.block D1 HP1.out.1))
  have f1 : w4.cell? ⟨M1, 1, none⟩ = some (.pointer (some ⟨sg1, 0, none⟩)) := (hb4.cell (p := ⟨M1, 1, none⟩) n1).trans e1
  have f2 : w4.cell? ⟨M2, 1, none⟩ = some (.pointer (some ⟨sg2, 0, none⟩)) := (hb4.cell (p := ⟨M2, 1, none⟩) n2).trans e2
  have f3 : w4.cell? ⟨t, 0, none⟩ = some (.int .i64 (x : Int)) := (hb4.cell (p := ⟨t, 0, none⟩) n3).trans e3
  have f4 : w4.cell? ⟨t, 1, none⟩ = some (.int .i64 256) := (hb4.cell (p := ⟨t, 1, none⟩) n3).trans e4
  clear hb4 hD2 hP2 e1 e2 e3 e4 n1 n2 n3
  refine hK2.out _ _ ⟨f1, f2, f3, f4⟩ (fun hHeld2 => ?_)
  clear hK2 K2 hHeld
  have hHeld := hHeld2
  clear hHeld2
  try simp (maxSteps := 4000000) only [Act.put, List.setIfInBounds_toArray, List.set_cons_zero, List.set_cons_succ]
  refine wpAnyH_ready (rs := [18]) (by kernel_rfl) (by simp) ?_
  refine AllReadyH.cons rfl (fun K2 hK2 => ?_) AllReadyH.nil
  go_simp
  have BE := Lib.hid (beq_yes D1 0 256 D2 0 256 (fun j => σ1.c (x + j)) w4 (n := 256) (fun j hj => by rw [Nat.zero_add]; exact HP1.out.2.1 j hj) (fun j hj => by rw [Nat.zero_add]; show _ = some (Value.int .u8 (σ1.c (x + j) : Int)); rw [HC.out (x + j) (by omega) (by omega)]; exact HP2.out.2.1 j hj))
  with_reducible refine Calls.mono BE.out ?_
  rintro e w' ⟨rfl, rfl⟩
  refine hK2.out _ _ ⟨f1, f2, f3, f4⟩ (fun hHeld2 => ?_)
  clear hK2 K2 hHeld
  have hHeld := hHeld2
  clear hHeld2
  try simp (maxSteps := 4000000) only [Act.put, List.setIfInBounds_toArray, List.set_cons_zero, List.set_cons_succ]
  refine wpAnyH_take (i := 19) (v := ?_) rfl (by kernel_rfl) (by kernel_rfl) (by kernel_rfl) (fun _ _ _ h => h) (Or.inl ⟨by kernel_rfl, ?_⟩) (by assumption) ?_
  rotate_left
  · (intro w hSw; (try dsimp only at hSw); go_simp)
    try (with_reducible rfl)
  rotate_left
  try simp (maxSteps := 4000000) only [Act.put, List.setIfInBounds_toArray, List.set_cons_zero, List.set_cons_succ, List.getElem_toArray, List.getElem_cons_zero, List.getElem_cons_succ]
  refine wpAnyH_done (by kernel_rfl) ?_ _
  clear hHeld f1 f2 HP1 HP2 HS1 HS2 HS3 RD
  go_wp2_with fail
  refine (GP.out _).mono ?_
  rintro e w5 ⟨rfl, hb5⟩
  have HB5 : Hid (Below W.heap.size W w5) := Lib.hid (thn HB4.out hb5)
  clear hb5 f3 f4
  go_wp2_with fail
  go_loopw [10] (fun v10 wr => ∃ k : Nat, k ≤ 16 ∧ v10 = .int .i64 ((G + k : Nat) : Int) ∧ Hid (∀ j, j < k → σ1.f (G + j) = σ2.f (G + j)) ∧ Hid (Below W.heap.size W wr)) (fun v10 _ => G + 16 - (intOf v10).toNat)
  case atStart => exact ⟨0, by omega, rfl, Lib.hid (fun j hj => by omega), HB5⟩
  case round =>
    obtain ⟨k, hk, rfl, HK, HB⟩ := hrel
    obtain ⟨y, hy⟩ : ∃ y, G + k = y := ⟨_, rfl⟩
    rw [hy]
    by_cases hlt : k < 16
    · have l1 : (y : Int) < (G : Int) + 16 := by omega
      obtain ⟨P1, sg1, t1, S1, kb1, ⟨-, -, k1, -, -⟩, -, -, ⟨hg1, -⟩, -⟩ := (H1.out.later HB.out).ex
      obtain ⟨P2, sg2, t2, S2, kb2, ⟨-, -, k2, -, -⟩, -, -, ⟨hg2, -⟩, -⟩ := (H2.out.later HB.out).ex
      obtain ⟨h, hh⟩ := HX.out.2.2
      obtain ⟨h', hh'⟩ : ∃ h', y = 2 * h' ∨ y = 2 * h' + 1 := ⟨y / 2, by omega⟩
      have T1 := Lib.hid (tget_in t1 y h' σ1.f wr.drew hg1 (by have := HX.out.2.1; omega) hh')
      have T2 := Lib.hid (fun q => tget_in t2 y h' σ2.f (wr.drewN q) hg2 (by have := HX.out.2.1; omega) hh')
      have HY := Lib.hid hy
      clear hh hh' hg1 hg2 hy
      obtain ⟨u, hu⟩ : ∃ u, σ1.f y = u := ⟨_, rfl⟩
      obtain ⟨v, hv⟩ : ∃ v, σ2.f y = v := ⟨_, rfl⟩
      rw [hu] at T1
      rw [hv] at T2
      have HUV := Lib.hid (And.intro hu hv)
      clear hu hv
      go_upto_region 8 with (fail)
      refine wp_region_held_drew (S := fun w' => w'.cell? ⟨M1, 2, none⟩ = some (.pointer (some ⟨t1, 0, none⟩)) ∧ w'.cell? ⟨M2, 2, none⟩ = some (.pointer (some ⟨t2, 0, none⟩))) (by kernel_rfl) ?_ (fun hHeld => ?_)
      · exact ⟨k1, k2⟩
      refine wpAnyH_take (i := 0) (v := ?_) rfl (by kernel_rfl) (by kernel_rfl) (by kernel_rfl) (fun _ _ _ h => h) (Or.inl ⟨by kernel_rfl, ?_⟩) (by assumption) ?_
      rotate_left
      · (intro w hSw; (try dsimp only at hSw); go_simp)
        try (with_reducible rfl)
      rotate_left
      try simp (maxSteps := 4000000) only [Act.put, List.setIfInBounds_toArray, List.set_cons_zero, List.set_cons_succ, List.getElem_toArray, List.getElem_cons_zero, List.getElem_cons_succ]
      refine wpAnyH_take (i := 1) (v := ?_) rfl (by kernel_rfl) (by kernel_rfl) (by kernel_rfl) (fun _ _ _ h => h) (Or.inl ⟨by kernel_rfl, ?_⟩) (by assumption) ?_
      rotate_left
      · (intro w hSw; (try dsimp only at hSw); go_simp)
        try (with_reducible rfl)
      rotate_left
      try simp (maxSteps := 4000000) only [Act.put, List.setIfInBounds_toArray, List.set_cons_zero, List.set_cons_succ, List.getElem_toArray, List.getElem_cons_zero, List.getElem_cons_succ]
      refine wpAnyH_take (i := 2) (v := ?_) rfl (by kernel_rfl) (by kernel_rfl) (by kernel_rfl) (fun _ _ _ h => h) (Or.inl ⟨by kernel_rfl, ?_⟩) (by assumption) ?_
      rotate_left
      · (intro w hSw; (try dsimp only at hSw); go_simp)
        try (with_reducible rfl)
      rotate_left
      try simp (maxSteps := 4000000) only [Act.put, List.setIfInBounds_toArray, List.set_cons_zero, List.set_cons_succ, List.getElem_toArray, List.getElem_cons_zero, List.getElem_cons_succ]
      refine wpAnyH_take (i := 3) (v := ?_) rfl (by kernel_rfl) (by kernel_rfl) (by kernel_rfl) (fun _ _ _ h => h) (Or.inl ⟨by kernel_rfl, ?_⟩) (by assumption) ?_
      rotate_left
      · (intro w hSw; (try dsimp only at hSw); go_simp)
        try (with_reducible rfl)
      rotate_left
      try simp (maxSteps := 4000000) only [Act.put, List.setIfInBounds_toArray, List.set_cons_zero, List.set_cons_succ, List.getElem_toArray, List.getElem_cons_zero, List.getElem_cons_succ]
      refine wpAnyH_take (i := 4) (v := ?_) rfl (by kernel_rfl) (by kernel_rfl) (by kernel_rfl) (fun _ _ _ h => h) (Or.inl ⟨by kernel_rfl, ?_⟩) (by assumption) ?_
      rotate_left
      · (intro w hSw; (try dsimp only at hSw); go_simp)
        try (with_reducible rfl)
      rotate_left
      try simp (maxSteps := 4000000) only [Act.put, List.setIfInBounds_toArray, List.set_cons_zero, List.set_cons_succ, List.getElem_toArray, List.getElem_cons_zero, List.getElem_cons_succ]
      refine wpAnyH_take (i := 6) (v := ?_) rfl (by kernel_rfl) (by kernel_rfl) (by kernel_rfl) (fun _ _ _ h => h) (Or.inl ⟨by kernel_rfl, ?_⟩) (by assumption) ?_
      rotate_left
      · (intro w hSw; (try dsimp only at hSw); go_simp)
        try (with_reducible rfl)
      rotate_left
      try simp (maxSteps := 4000000) only [Act.put, List.setIfInBounds_toArray, List.set_cons_zero, List.set_cons_succ, List.getElem_toArray, List.getElem_cons_zero, List.getElem_cons_succ]
      refine wpAnyH_take (i := 7) (v := ?_) rfl (by kernel_rfl) (by kernel_rfl) (by kernel_rfl) (fun _ _ _ h => h) (Or.inl ⟨by kernel_rfl, ?_⟩) (by assumption) ?_
      rotate_left
      · (intro w hSw; (try dsimp only at hSw); go_simp)
        try (with_reducible rfl)
      rotate_left
      try simp (maxSteps := 4000000) only [Act.put, List.setIfInBounds_toArray, List.set_cons_zero, List.set_cons_succ, List.getElem_toArray, List.getElem_cons_zero, List.getElem_cons_succ]
      refine wpAnyH_take (i := 8) (v := ?_) rfl (by kernel_rfl) (by kernel_rfl) (by kernel_rfl) (fun _ _ _ h => h) (Or.inl ⟨by kernel_rfl, ?_⟩) (by assumption) ?_
      rotate_left
      · (intro w hSw; (try dsimp only at hSw); go_simp)
        try (with_reducible rfl)
      rotate_left
      try simp (maxSteps := 4000000) only [Act.put, List.setIfInBounds_toArray, List.set_cons_zero, List.set_cons_succ, List.getElem_toArray, List.getElem_cons_zero, List.getElem_cons_succ]
      refine wpAnyH_take (i := 9) (v := ?_) rfl (by kernel_rfl) (by kernel_rfl) (by kernel_rfl) (fun _ _ _ h => h) (Or.inl ⟨by kernel_rfl, ?_⟩) (by assumption) ?_
      rotate_left
      · (intro w hSw; (try dsimp only at hSw); go_simp)
        try (with_reducible rfl)
      rotate_left
      try simp (maxSteps := 4000000) only [Act.put, List.setIfInBounds_toArray, List.set_cons_zero, List.set_cons_succ, List.getElem_toArray, List.getElem_cons_zero, List.getElem_cons_succ]
      refine wpAnyH_take (i := 10) (v := ?_) rfl (by kernel_rfl) (by kernel_rfl) (by kernel_rfl) (fun _ _ _ h => h) (Or.inl ⟨by kernel_rfl, ?_⟩) (by assumption) ?_
      rotate_left
      · (intro w hSw; (try dsimp only at hSw); go_simp)
        try (with_reducible rfl)
      rotate_left
      try simp (maxSteps := 4000000) only [Act.put, List.setIfInBounds_toArray, List.set_cons_zero, List.set_cons_succ, List.getElem_toArray, List.getElem_cons_zero, List.getElem_cons_succ]
      refine wpAnyH_ready (rs := [5]) (by kernel_rfl) (by simp) ?_
      refine AllReadyH.cons rfl (fun K2 hK2 => ?_) AllReadyH.nil
      go_simp
      with_reducible refine Calls.mono T1.out ?_
      rintro e w' ⟨rfl, q, rfl⟩
      refine hK2.out _ _ ⟨k1, k2⟩ (fun hHeld2 => ?_)
      clear hK2 K2 hHeld
      have hHeld := hHeld2
      clear hHeld2
      try simp (maxSteps := 4000000) only [Act.put, List.setIfInBounds_toArray, List.set_cons_zero, List.set_cons_succ]
      refine wpAnyH_ready (rs := [11]) (by kernel_rfl) (by simp) ?_
      refine AllReadyH.cons rfl (fun K2 hK2 => ?_) AllReadyH.nil
      go_simp
      with_reducible refine Calls.mono (T2.out (1 + q)) ?_
      rintro e wq ⟨rfl, q2, hwq⟩
      have HBq : Hid (Below W.heap.size W wq) := Lib.hid (by rw [hwq]; exact below_drewN (below_drewN HB.out (1 + q)) q2)
      have k1' : wq.cell? ⟨M1, 2, none⟩ = some (.pointer (some ⟨t1, 0, none⟩)) := by rw [hwq]; exact k1
      have k2' : wq.cell? ⟨M2, 2, none⟩ = some (.pointer (some ⟨t2, 0, none⟩)) := by rw [hwq]; exact k2
      clear hwq
      refine hK2.out _ _ ⟨k1', k2'⟩ (fun hHeld2 => ?_)
      clear hK2 K2 hHeld
      have hHeld := hHeld2
      clear hHeld2
      try simp (maxSteps := 4000000) only [Act.put, List.setIfInBounds_toArray, List.set_cons_zero, List.set_cons_succ]
      refine wpAnyH_take (i := 12) (v := ?_) rfl (by kernel_rfl) (by kernel_rfl) (by kernel_rfl) (fun _ _ _ h => h) (Or.inl ⟨by kernel_rfl, ?_⟩) (by assumption) ?_
      rotate_left
      · (intro w hSw; (try dsimp only at hSw); go_simp)
        try (with_reducible rfl)
      rotate_left
      try simp (maxSteps := 4000000) only [Act.put, List.setIfInBounds_toArray, List.set_cons_zero, List.set_cons_succ, List.getElem_toArray, List.getElem_cons_zero, List.getElem_cons_succ]
      refine wpAnyH_done (by kernel_rfl) ?_ _
      by_cases e : u = v
      · have e1 : ((u : Int) == (v : Int)) = true := by simp [e]
        have HKn : Hid (∀ j, j < k + 1 → σ1.f (G + j) = σ2.f (G + j)) := Lib.hid (fun j hj => by
          by_cases ej : j = k
          · rw [ej, HY.out, HUV.out.1, HUV.out.2, e]
          · exact HK.out j (by omega))
        subst e
        clear hHeld k1 k2 k1' k2'
        go_wp2_with fail
        go_roundw
        case rel => exact ⟨k + 1, by omega, by have := HY.out; go_num, HKn, HBq⟩
        case measure => (have := HY.out; simp [intOf]; omega)
      · have e1 : ((u : Int) == (v : Int)) = false := by rw [beq_eq_false_iff_ne]; omega
        obtain rfl : r = false := by
          cases r
          · rfl
          have := HR.out.1 rfl k hlt
          rw [HY.out, HUV.out.1, HUV.out.2] at this
          exact absurd this e
        clear hHeld k1 k2 k1' k2'
        go_wp2_with fail
        go_ret
        exact ⟨rfl, HBq.out⟩
    · have l1 : ¬ (y : Int) < (G : Int) + 16 := by omega
      obtain rfl : r = true := by
        refine HR.out.2 (fun g hg => HK.out g (by omega))
      go_wp2_with fail
      go_ret
      exact ⟨rfl, HB.out⟩
end Go.Proofs.YtnfcpohbdkionaaGreatDoor
