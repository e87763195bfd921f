/- MmR, CkC. -/
import Derived.Test.YtnfcpohbdkionaaGreatDoorZ19
import Derived.Deep.RegionHeld3
import Derived.Test.YtnfcpohbdkionaaGreatDoorZ20
import Derived.Test.YtnfcpohbdkionaaGreatDoorZ35
namespace Go.Proofs.YtnfcpohbdkionaaGreatDoor
set_option maxRecDepth 100000
open Go.RowKit Go.ChangeMaps Go.MapKept
set_option linter.unusedVariables false
set_option linter.unusedSimpArgs false
section
variable {B : Nat} {col : Nat → Nat} {M : Nat} {W : World} {σ : MS}
def MReadPost (W : World) (a n : Nat) (c : Nat → Nat) (e : Ending) (w' : World) : Prop :=
  ∃ D, e = .returned (.tuple #[.slice (some ⟨D, 0, none⟩) n n, .int .i64 0]) ∧ W.heap.size ≤ D ∧ PGn D n w' (fun j => c (a + j)) ∧ Below W.heap.size W w'
set_option maxRecDepth 100000 in
set_option maxHeartbeats 3200000 in
theorem mread_ok (a n : Nat) (h : MEM B col M W σ) (ho : openB σ.pg a n = true) :
    Calls Tryz.prog 40 #[.pointer (some ⟨M, 0, none⟩), .agg #[.int .i64 (a : Int), .int .i64 (n : Int)]] W (MReadPost W a n σ.c) := by
  have H := Lib.hid h
  have HM := Lib.hid (mayB_iff.1 (openB_may ho))
  have HR : Hid (refE σ.pg a n = 0) := Lib.hid (refE_ok.2 ho)
  clear h ho
  go_enter Tryz.func40, Tryz.ntmps40
  go_wp2_with fail
  refine (mrefused 0 a n (H.out.later (alc0 _ _)) HR.out).mono ?_
  rintro e w1 ⟨rfl, hb⟩
  have HB : Hid (Below W.heap.size W w1) := Lib.hid (thn (alc0 W _) hb)
  have hz1 : W.heap.size < w1.heap.size := by have := hb.size; simp at this; omega
  have s0 : w1.cell? ⟨W.heap.size, 0, none⟩ = some (.int .i64 (a : Int)) := by rw [(bcell hb).1 _ _ (by simp)]; simp
  have s1 : w1.cell? ⟨W.heap.size, 1, none⟩ = some (.int .i64 (n : Int)) := by rw [(bcell hb).1 _ _ (by simp)]; simp
  obtain ⟨P, sg, t, S, kb, ⟨-, k1, -, -, -⟩, -, ⟨b, l, hst, -⟩, -⟩ := (H.out.later HB.out).ex
  have HS : Hid (STL B sg b w1.drew l σ.c) := Lib.hid (hst.below (Below.refl _ _).drew)
  have HST : Hid (ST B sg w1.drew σ.c) := Lib.hid ⟨b, l, HS.out⟩
  clear hst hb
  obtain ⟨x3, hx3⟩ : ∃ x3, W.heap.size = x3 := ⟨_, rfl⟩
  have HX3 := Lib.hid hx3
  rw [hx3] at hz1 s0 s1
  try rw [hx3]
  clear hx3
  go_upto_region 4 with (fail)
  refine wp_region_held_drew (S := fun w' => w'.cell? ⟨M, 1, none⟩ = some (.pointer (some ⟨sg, 0, none⟩)) ∧ w'.cell? ⟨x3, 0, none⟩ = some (.int .i64 (a : Int)) ∧ w'.cell? ⟨x3, 1, none⟩ = some (.int .i64 (n : Int))) (by kernel_rfl) ?_ (fun hHeld => ?_)
  · exact ⟨k1, s0, s1⟩
  refine wpAnyH_take (i := 0) (v := ?_) rfl (by kernel_rfl) (by kernel_rfl) (by kernel_rfl) (fun _ _ _ h => h) (Or.inl ⟨by kernel_rfl, ?_⟩) (by assumption) ?_
  rotate_left
  · (intro w hSw; (try dsimp only at hSw); go_simp)
    try (with_reducible rfl)
  rotate_left
  try simp (maxSteps := 4000000) only [Act.put, List.setIfInBounds_toArray, List.set_cons_zero, List.set_cons_succ, List.getElem_toArray, List.getElem_cons_zero, List.getElem_cons_succ]
  refine wpAnyH_take (i := 1) (v := ?_) rfl (by kernel_rfl) (by kernel_rfl) (by kernel_rfl) (fun _ _ _ h => h) (Or.inl ⟨by kernel_rfl, ?_⟩) (by assumption) ?_
  rotate_left
  · (intro w hSw; (try dsimp only at hSw); go_simp)
    try (with_reducible rfl)
  rotate_left
  try simp (maxSteps := 4000000) only [Act.put, List.setIfInBounds_toArray, List.set_cons_zero, List.set_cons_succ, List.getElem_toArray, List.getElem_cons_zero, List.getElem_cons_succ]
  refine wpAnyH_take (i := 2) (v := ?_) rfl (by kernel_rfl) (by kernel_rfl) (by kernel_rfl) (fun _ _ _ h => h) (Or.inl ⟨by kernel_rfl, ?_⟩) (by assumption) ?_
  rotate_left
  · (intro w hSw; (try dsimp only at hSw); go_simp)
    try (with_reducible rfl)
  rotate_left
  try simp (maxSteps := 4000000) only [Act.put, List.setIfInBounds_toArray, List.set_cons_zero, List.set_cons_succ, List.getElem_toArray, List.getElem_cons_zero, List.getElem_cons_succ]
  refine wpAnyH_take (i := 3) (v := ?_) rfl (by kernel_rfl) (by kernel_rfl) (by kernel_rfl) (fun _ _ _ h => h) (Or.inl ⟨by kernel_rfl, ?_⟩) (by assumption) ?_
  rotate_left
  · (intro w hSw; (try dsimp only at hSw); go_simp)
    try (with_reducible rfl)
  rotate_left
  try simp (maxSteps := 4000000) only [Act.put, List.setIfInBounds_toArray, List.set_cons_zero, List.set_cons_succ, List.getElem_toArray, List.getElem_cons_zero, List.getElem_cons_succ]
  refine wpAnyH_take (i := 4) (v := ?_) rfl (by kernel_rfl) (by kernel_rfl) (by kernel_rfl) (fun _ _ _ h => h) (Or.inl ⟨by kernel_rfl, ?_⟩) (by assumption) ?_
  rotate_left
  · (intro w hSw; (try dsimp only at hSw); go_simp)
    try (with_reducible rfl)
  rotate_left
  try simp (maxSteps := 4000000) only [Act.put, List.setIfInBounds_toArray, List.set_cons_zero, List.set_cons_succ, List.getElem_toArray, List.getElem_cons_zero, List.getElem_cons_succ]
  refine wpAnyH_take (i := 5) (v := ?_) rfl (by kernel_rfl) (by kernel_rfl) (by kernel_rfl) (fun _ _ _ h => h) (Or.inl ⟨by kernel_rfl, ?_⟩) (by assumption) ?_
  rotate_left
  · (intro w hSw; (try dsimp only at hSw); go_simp)
    try (with_reducible rfl)
  rotate_left
  try simp (maxSteps := 4000000) only [Act.put, List.setIfInBounds_toArray, List.set_cons_zero, List.set_cons_succ, List.getElem_toArray, List.getElem_cons_zero, List.getElem_cons_succ]
  refine wpAnyH_take (i := 6) (v := ?_) rfl (by kernel_rfl) (by kernel_rfl) (by kernel_rfl) (fun _ _ _ h => h) (Or.inl ⟨by kernel_rfl, ?_⟩) (by assumption) ?_
  rotate_left
  · (intro w hSw; (try dsimp only at hSw); go_simp)
    try (with_reducible rfl)
  rotate_left
  try simp (maxSteps := 4000000) only [Act.put, List.setIfInBounds_toArray, List.set_cons_zero, List.set_cons_succ, List.getElem_toArray, List.getElem_cons_zero, List.getElem_cons_succ]
  refine wpAnyH_take (i := 7) (v := ?_) rfl (by kernel_rfl) (by kernel_rfl) (by kernel_rfl) (fun _ _ _ h => h) (Or.inl ⟨by kernel_rfl, ?_⟩) (by assumption) ?_
  rotate_left
  · (intro w hSw; (try dsimp only at hSw); go_simp)
    try (with_reducible rfl)
  rotate_left
  try simp (maxSteps := 4000000) only [Act.put, List.setIfInBounds_toArray, List.set_cons_zero, List.set_cons_succ, List.getElem_toArray, List.getElem_cons_zero, List.getElem_cons_succ]
  refine wpAnyH_take (i := 8) (v := ?_) rfl (by kernel_rfl) (by kernel_rfl) (by kernel_rfl) (fun _ _ _ h => h) (Or.inl ⟨by kernel_rfl, ?_⟩) (by assumption) ?_
  rotate_left
  · (intro w hSw; (try dsimp only at hSw); go_simp)
    try (with_reducible rfl)
  rotate_left
  try simp (maxSteps := 4000000) only [Act.put, List.setIfInBounds_toArray, List.set_cons_zero, List.set_cons_succ, List.getElem_toArray, List.getElem_cons_zero, List.getElem_cons_succ]
  refine wpAnyH_ready (rs := [9]) (by kernel_rfl) (by simp) ?_
  refine AllReadyH.cons rfl (fun K2 hK2 => ?_) AllReadyH.nil
  go_simp
  with_reducible refine Calls.mono (sread_yes B sg w1.drew σ.c HST.out a n (by have := HM.out; omega) (by have := HM.out; omega)) ?_
  rintro e w2 ⟨⟨D, rfl, hD, hP⟩, hb2⟩
  have hMz : M < w1.heap.size := World.block_lt_of_cell? w1 _ k1
  have c1 : w2.cell? ⟨M, 1, none⟩ = some (.pointer (some ⟨sg, 0, none⟩)) := (hb2.cell (p := ⟨M, 1, none⟩) hMz).trans k1
  have c2 : w2.cell? ⟨x3, 0, none⟩ = some (.int .i64 (a : Int)) := (hb2.cell (p := ⟨x3, 0, none⟩) hz1).trans s0
  have c3 : w2.cell? ⟨x3, 1, none⟩ = some (.int .i64 (n : Int)) := (hb2.cell (p := ⟨x3, 1, none⟩) hz1).trans s1
  have HF : Hid (W.heap.size ≤ D ∧ PGn D n w2 (fun j => σ.c (a + j)) ∧ Below W.heap.size W w2) := Lib.hid ⟨Nat.le_trans HB.out.size hD, hP, thn (HB.out.drew) hb2⟩
  clear hD hP hb2
  refine hK2.out _ _ ⟨c1, c2, c3⟩ (fun hHeld2 => ?_)
  clear hK2 K2 hHeld
  have hHeld := hHeld2
  clear hHeld2
  try simp (maxSteps := 4000000) only [Act.put, List.setIfInBounds_toArray, List.set_cons_zero, List.set_cons_succ]
  refine wpAnyH_take (i := 10) (v := ?_) rfl (by kernel_rfl) (by kernel_rfl) (by kernel_rfl) (fun _ _ _ h => h) (Or.inl ⟨by kernel_rfl, ?_⟩) (by assumption) ?_
  rotate_left
  · (intro w hSw; (try dsimp only at hSw); go_simp)
    try (with_reducible rfl)
  rotate_left
  try simp (maxSteps := 4000000) only [Act.put, List.setIfInBounds_toArray, List.set_cons_zero, List.set_cons_succ, List.getElem_toArray, List.getElem_cons_zero, List.getElem_cons_succ]
  refine wpAnyH_take (i := 11) (v := ?_) rfl (by kernel_rfl) (by kernel_rfl) (by kernel_rfl) (fun _ _ _ h => h) (Or.inl ⟨by kernel_rfl, ?_⟩) (by assumption) ?_
  rotate_left
  · (intro w hSw; (try dsimp only at hSw); go_simp)
    try (with_reducible rfl)
  rotate_left
  try simp (maxSteps := 4000000) only [Act.put, List.setIfInBounds_toArray, List.set_cons_zero, List.set_cons_succ, List.getElem_toArray, List.getElem_cons_zero, List.getElem_cons_succ]
  refine wpAnyH_done (by kernel_rfl) ?_ _
  go_wp2
  go_ret2
  exact ⟨D, rfl, HF.out.1, HF.out.2.1, HF.out.2.2⟩
end
end Go.Proofs.YtnfcpohbdkionaaGreatDoor
namespace Go.Proofs.YtnfcpohbdkionaaGreatDoor
set_option maxRecDepth 100000
open Go.RowKit Go.ChangeMaps Go.MapKept
set_option linter.unusedVariables false
set_option linter.unusedSimpArgs false
section
variable {B : Nat} {col : Nat → Nat} {M : Nat} {W : World} {σ : MS}
theorem accE_ok {b l c p t : Int} {v : Bool} {n q : Int} (h : accE σ b l c p t v n q = 0) : aliveB σ b l c p t v = true ∧ phasB p q = true ∧ (v && capOkB b l c p t && insideB b l c n) = true ∧ (0 < n → tagdB σ c n t = true) := by
  unfold accE at h
  cases h1 : aliveB σ b l c p t v with
  | false => rw [h1] at h; cases h
  | true =>
    cases h2 : phasB p q with
    | false => rw [h1, h2] at h; cases h
    | true =>
      cases h3 : (v && capOkB b l c p t && insideB b l c n) with
      | false => rw [h1, h2, h3] at h; cases h
      | true =>
        refine ⟨rfl, rfl, rfl, fun hn => ?_⟩
        rw [h1, h2, h3, if_pos rfl, if_pos rfl, if_pos rfl, decide_eq_true hn, Bool.true_and] at h
        cases h4 : tagdB σ c n t with
        | true => rfl
        | false => rw [h4] at h; cases h
theorem tagd_open {c n t : Int} (h : tagdB σ c n t = true) : openB σ.pg c n = true := by
  unfold tagdB at h
  rw [Bool.and_eq_true] at h
  exact h.1
set_option maxHeartbeats 800000 in
theorem ckload_no (r : Int) (b l c p t : Int) (v : Bool) (n : Int) (h : MEM B col M W σ) (hr : accE σ b l c p t v n 1 = r) (h0 : r ≠ 0) :
    Calls Tryz.prog 15 #[.pointer (some ⟨M, 0, none⟩), .agg #[.int .i64 b, .int .i64 l, .int .i64 c, .int .i64 p, .int .i64 t, .bool v], .int .i64 n] W fun e w' => e = .returned (.tuple #[.slice none 0 0, .int .i64 r]) ∧ Below W.heap.size W w' := by
  have H := Lib.hid h
  have HR := Lib.hid hr
  have h5 : (r != 0) = true := by simpa using h0
  have h6 : (r == 0) = false := by simpa using h0
  clear h hr h0
  go_enter Tryz.func15, Tryz.ntmps15
  go_wp2_with fail
  refine (ckaccess r b l c p t v n 1 (H.out.later (alc0 _ _)) HR.out).mono ?_
  rintro e w1 ⟨rfl, hb⟩
  have HB := Lib.hid (thn (alc0 W _) hb)
  clear hb
  go_wp2
  go_ret2
  exact ⟨rfl, HB.out⟩
set_option maxHeartbeats 800000 in
theorem ckload_yes (b l p t : Int) (c n : Nat) (v : Bool) (h : MEM B col M W σ) (hn : 0 < n) (hr : accE σ b l c p t v n 1 = 0) :
    Calls Tryz.prog 15 #[.pointer (some ⟨M, 0, none⟩), .agg #[.int .i64 b, .int .i64 l, .int .i64 c, .int .i64 p, .int .i64 t, .bool v], .int .i64 (n : Int)] W (MReadPost W c n σ.c) := by
  have H := Lib.hid h
  have HR := Lib.hid hr
  have HX := Lib.hid (CapAt.new W b l c p t v 25)
  have HO := Lib.hid (tagd_open ((accE_ok hr).2.2.2 (by omega)))
  have h5 : ((n : Int) == 0) = false := by simp; omega
  clear h hr hn
  go_enter Tryz.func15, Tryz.ntmps15
  go_wp2_with fail
  refine (ckaccess 0 b l c p t v n 1 (H.out.later (alc0 _ _)) HR.out).mono ?_
  rintro e w1 ⟨rfl, hb⟩
  have HB := Lib.hid (thn (alc0 W _) hb)
  obtain ⟨-, c0, c1, c2, c3, c4, c5, -⟩ := HX.out.below hb
  clear hb
  go_wp2_with fail
  refine (mread_ok c n (H.out.later HB.out) HO.out).mono ?_
  rintro e w2 ⟨D, rfl, hD, hP, hb⟩
  have HF := Lib.hid (And.intro hP (And.intro (thn HB.out hb) (Nat.le_trans HB.out.size hD)))
  clear hP hb hD c0 c1 c2 c3 c4 c5
  go_wp2
  go_ret2
  exact ⟨D, rfl, HF.out.2.2, HF.out.1, HF.out.2.1⟩
set_option maxHeartbeats 800000 in
theorem ckstore_no (r : Int) (b l c p t : Int) (v : Bool) (A : Option Addr) (n cb : Nat) (h : MEM B col M W σ) (hr : accE σ b l c p t v n 2 = r) (h0 : r ≠ 0) :
    Calls Tryz.prog 16 #[.pointer (some ⟨M, 0, none⟩), .agg #[.int .i64 b, .int .i64 l, .int .i64 c, .int .i64 p, .int .i64 t, .bool v], .slice A n cb] W fun e w' => e = .returned (.int .i64 r) ∧ Below W.heap.size W w' := by
  have H := Lib.hid h
  have HR := Lib.hid hr
  have h5 : (r != 0) = true := by simpa using h0
  have h6 : (r == 0) = false := by simpa using h0
  clear h hr h0
  go_enter Tryz.func16, Tryz.ntmps16
  go_wp2_with fail
  refine (ckaccess r b l c p t v n 2 (H.out.later (alc0 _ _)) HR.out).mono ?_
  rintro e w1 ⟨rfl, hb⟩
  have HB := Lib.hid (thn (alc0 W _) hb)
  clear hb
  go_wp2
  go_ret
  exact ⟨rfl, HB.out⟩
set_option maxHeartbeats 800000 in
theorem ckstore_yes (b l p t : Int) (c n sb so cb : Nat) (v : Bool) (d : Nat → Nat) (h : MEM B col M W σ) (hn : 0 < n) (hncb : n ≤ cb) (hr : accE σ b l c p t v n 2 = 0)
    (hs : ∀ i, i < n → W.cell? ⟨sb, so + i, none⟩ = some (.int .u8 (d i : Int))) (hd : ∀ i, i < n → d i < 256) (hsb : col sb = 0) :
    Calls Tryz.prog 16 #[.pointer (some ⟨M, 0, none⟩), .agg #[.int .i64 b, .int .i64 l, .int .i64 c, .int .i64 p, .int .i64 t, .bool v], .slice (some ⟨sb, so, none⟩) n cb] W fun e w' => e = .returned (.int .i64 0) ∧ MStep B col M W (wrS σ c n d) w' := by
  have H := Lib.hid h
  have HR := Lib.hid hr
  have HX := Lib.hid (CapAt.new W b l c p t v 25)
  have HO := Lib.hid (tagd_open ((accE_ok hr).2.2.2 (by omega)))
  have h5 : ((n : Int) == 0) = false := by simp; omega
  have hsz : sb < W.heap.size := World.block_lt_of_cell? W _ (hs 0 hn)
  have HS := Lib.hid hs
  have HD := Lib.hid hd
  have HC := Lib.hid hsb
  have HZ := Lib.hid (And.intro hsz hncb)
  clear h hr hn hs hd hsb hsz hncb
  go_enter Tryz.func16, Tryz.ntmps16
  go_wp2_with fail
  refine (ckaccess 0 b l c p t v n 2 (H.out.later (alc0 _ _)) HR.out).mono ?_
  rintro e w1 ⟨rfl, hb⟩
  have HB := Lib.hid (thn (alc0 W _) hb)
  obtain ⟨-, c0, c1, c2, c3, c4, c5, -⟩ := HX.out.below hb
  clear hb
  go_wp2_with fail
  refine (mwrite_ok c n sb so cb d (H.out.later HB.out) HO.out HZ.out.2 (fun i hi => (HB.out.cell (p := ⟨sb, so + i, none⟩) HZ.out.1).trans (HS.out i hi)) HD.out HC.out).mono ?_
  rintro e w2 ⟨rfl, hm⟩
  have HF := Lib.hid (MStep.before H.out.size HB.out hm)
  clear hm c0 c1 c2 c3 c4 c5
  go_wp2
  go_ret
  exact ⟨rfl, HF.out⟩
end
end Go.Proofs.YtnfcpohbdkionaaGreatDoor
