/- Memory: Fill, Write. -/
import Derived.Test.YtljjcomedjdpaaaDoorMmF
import Derived.Deep.RegionHeld3
namespace Go.Proofs.YtljjcomedjdpaaaDoor
set_option maxRecDepth 100000
open Go.RowKit Go.ChangeMaps Go.MapKept
set_option linter.unusedVariables false
set_option linter.unusedSimpArgs false

section
variable {B : Nat} {col : Nat → Nat} {M : Nat} {W : World} {σ : MS}
theorem over_lt {c d : Nat → Nat} {a n : Nat} (hc : ∀ x, c x < 256) (hd : ∀ i, i < n → d i < 256) : ∀ x, over c a n d x < 256 := fun x => by
  unfold over
  split
  · exact hd _ (by omega)
  · exact hc x
theorem sg_is {sg sg' : Nat} (h : W.cell? ⟨M, 1, none⟩ = some (.pointer (some ⟨sg, 0, none⟩))) (h' : W.cell? ⟨M, 1, none⟩ = some (.pointer (some ⟨sg', 0, none⟩))) : sg = sg' := by
  have := h.symm.trans h'
  simpa using this
/-- The store's Fill, as a memory's act. -/
theorem mem_fill (a n x sg : Nat) (h : MEM B col M W σ) (hsg : W.cell? ⟨M, 1, none⟩ = some (.pointer (some ⟨sg, 0, none⟩))) (hn : 0 < n) (ha : a + n ≤ 262144) (hx : x < 256) :
    Calls Tryd.prog 72 #[.pointer (some ⟨sg, 0, none⟩), .int .i64 (a : Int), .int .i64 (n : Int), .int .u8 (x : Int)] W fun e w' => e = .returned (.bool true) ∧ MStep B col M W { σ with c := over σ.c a n (fun _ => x) } w' := by
  obtain ⟨P, sg', t, S, kb, hn'⟩ := h.ex
  obtain rfl : sg' = sg := sg_is hn'.1.2.1 hsg
  obtain ⟨b, l, h1, h2, h3, h4, h5⟩ := hn'.2.2.1
  refine (sfillL B sg' b W l σ.c h1 a n x hn ha).mono ?_
  rintro e w' ⟨⟨he, l', hs, hf⟩, hz, hb⟩
  exact ⟨he, st_lift h hn' h3 h2 h4 hs hf hb (over_lt h5 (fun _ _ => hx))⟩
theorem mfill_no (r : Int) (b l : Int) (x : Nat) (h : MEM B col M W σ) (hr : refE σ.pg b l = r) (h0 : r ≠ 0) :
    Calls Tryd.prog 49 #[.pointer (some ⟨M, 0, none⟩), .agg #[.int .i64 b, .int .i64 l], .int .u8 (x : Int)] W fun e w' => e = .returned (.int .i64 r) ∧ Below W.heap.size W w' := by
  have H := Lib.hid h
  have HR := Lib.hid hr
  have h5 : (r == 0) = false := by simpa using h0
  clear h hr h0
  go_enter Tryd.func49, Tryd.ntmps49
  go_wp2_with fail
  refine (mrefused r b l (H.out.later (alc0 _ _)) HR.out).mono ?_
  rintro e w1 ⟨rfl, hb⟩
  have HB : Hid (Below W.heap.size W w1) := Lib.hid (thn (alc0 W _) hb)
  clear hb
  go_wp2
  go_ret
  exact ⟨rfl, HB.out⟩
/-- What a write of bytes does. -/
def wrS (σ : MS) (a n : Nat) (d : Nat → Nat) : MS := { σ with c := over σ.c a n d, kp := offF σ.kp (grF a) (grN a n) }
set_option maxHeartbeats 3200000 in
theorem mfill_ok (a n x : Nat) (h : MEM B col M W σ) (ho : openB σ.pg a n = true) (hx : x < 256) :
    Calls Tryd.prog 49 #[.pointer (some ⟨M, 0, none⟩), .agg #[.int .i64 (a : Int), .int .i64 (n : Int)], .int .u8 (x : Int)] W fun e w' => e = .returned (.int .i64 0) ∧ MStep B col M W (wrS σ a n (fun _ => x)) w' := by
  have H := Lib.hid h
  have HMB := Lib.hid (openB_may ho)
  have HM := Lib.hid (mayB_iff.1 (openB_may ho))
  have HR : Hid (refE σ.pg a n = 0) := Lib.hid (refE_ok.2 ho)
  have HX := Lib.hid hx
  have HX0 : Hid (col W.heap.size = 0) := Lib.hid (h.old (Nat.le_refl _))
  clear h ho hx
  go_enter Tryd.func49, Tryd.ntmps49
  go_wp2_with fail
  refine (mrefused 0 a n (H.out.later (alc0 _ _)) HR.out).mono ?_
  rintro e w1 ⟨rfl, hb⟩
  have HB : Hid (Below W.heap.size W w1) := Lib.hid (thn (alc0 W _) hb)
  have hz1 : W.heap.size < w1.heap.size := by have := hb.size; simp at this; omega
  have s0 : w1.cell? ⟨W.heap.size, 0, none⟩ = some (.int .i64 (a : Int)) := by rw [(bcell hb).1 _ _ (by simp)]; simp
  have s1 : w1.cell? ⟨W.heap.size, 1, none⟩ = some (.int .i64 (n : Int)) := by rw [(bcell hb).1 _ _ (by simp)]; simp
  have H1 : Hid (MEM B col M w1.drew σ) := Lib.hid (H.out.later HB.out.drew)
  clear hb
  obtain ⟨x4, hx4⟩ : ∃ x4, W.heap.size = x4 := ⟨_, rfl⟩
  have HX4 := Lib.hid hx4
  rw [hx4] at hz1 s0 s1
  try rw [hx4]
  clear hx4
  go_upto_region 3 with (fail)
  refine wp_region_held_drew (S := fun w' => w'.cell? ⟨x4, 0, none⟩ = some (.int .i64 (a : Int)) ∧ w'.cell? ⟨x4, 1, none⟩ = some (.int .i64 (n : Int))) (by kernel_rfl) ?_ (fun hHeld => ?_)
  · exact ⟨s0, s1⟩
  refine wpAnyH_take (i := 0) (v := ?_) rfl (by kernel_rfl) (by kernel_rfl) (by kernel_rfl) (fun _ _ _ h => h) (Or.inl ⟨by kernel_rfl, ?_⟩) (by assumption) ?_
  rotate_left
  · (intro w hSw; (try dsimp only at hSw); go_simp)
    try (with_reducible rfl)
  rotate_left
  try simp (maxSteps := 4000000) only [Act.put, List.setIfInBounds_toArray, List.set_cons_zero, List.set_cons_succ, List.getElem_toArray, List.getElem_cons_zero, List.getElem_cons_succ]
  refine wpAnyH_take (i := 1) (v := ?_) rfl (by kernel_rfl) (by kernel_rfl) (by kernel_rfl) (fun _ _ _ h => h) (Or.inl ⟨by kernel_rfl, ?_⟩) (by assumption) ?_
  rotate_left
  · (intro w hSw; (try dsimp only at hSw); go_simp)
    try (with_reducible rfl)
  rotate_left
  try simp (maxSteps := 4000000) only [Act.put, List.setIfInBounds_toArray, List.set_cons_zero, List.set_cons_succ, List.getElem_toArray, List.getElem_cons_zero, List.getElem_cons_succ]
  refine wpAnyH_take (i := 2) (v := ?_) rfl (by kernel_rfl) (by kernel_rfl) (by kernel_rfl) (fun _ _ _ h => h) (Or.inl ⟨by kernel_rfl, ?_⟩) (by assumption) ?_
  rotate_left
  · (intro w hSw; (try dsimp only at hSw); go_simp)
    try (with_reducible rfl)
  rotate_left
  try simp (maxSteps := 4000000) only [Act.put, List.setIfInBounds_toArray, List.set_cons_zero, List.set_cons_succ, List.getElem_toArray, List.getElem_cons_zero, List.getElem_cons_succ]
  refine wpAnyH_take (i := 3) (v := ?_) rfl (by kernel_rfl) (by kernel_rfl) (by kernel_rfl) (fun _ _ _ h => h) (Or.inl ⟨by kernel_rfl, ?_⟩) (by assumption) ?_
  rotate_left
  · (intro w hSw; (try dsimp only at hSw); go_simp)
    try (with_reducible rfl)
  rotate_left
  try simp (maxSteps := 4000000) only [Act.put, List.setIfInBounds_toArray, List.set_cons_zero, List.set_cons_succ, List.getElem_toArray, List.getElem_cons_zero, List.getElem_cons_succ]
  refine wpAnyH_ready (rs := [4]) (by kernel_rfl) (by simp) ?_
  refine AllReadyH.cons rfl (fun K2 hK2 => ?_) AllReadyH.nil
  go_simp
  with_reducible refine Calls.mono (mforget a n H1.out HMB.out) ?_
  rintro e w2 ⟨rfl, col2, hm2, hc2, ho2, hb2⟩
  have c0 : w2.cell? ⟨x4, 0, none⟩ = some (.int .i64 (a : Int)) := (World.cell?_of_block (ho2 x4 hz1 (by rw [← HX4.out, HX0.out]; decide))).trans s0
  have c1 : w2.cell? ⟨x4, 1, none⟩ = some (.int .i64 (n : Int)) := (World.cell?_of_block (ho2 x4 hz1 (by rw [← HX4.out, HX0.out]; decide))).trans s1
  have hz2 : x4 < w2.heap.size := Nat.lt_of_lt_of_le hz1 hb2.size
  have HX2 : Hid (col2 x4 = 0) := Lib.hid (by rw [hc2 x4 hz1, ← HX4.out]; exact HX0.out)
  have H2 : Hid (MEM B col2 M w2.drew { σ with kp := offF σ.kp (grF a) (grN a n) }) := Lib.hid (hm2.later (Below.refl _ _).drew)
  have HAG : Hid (∀ w3, MStep B col2 M w2.drew (wrS σ a n (fun _ => x)) w3 → MStep B col M W (wrS σ a n (fun _ => x)) w3) := Lib.hid (fun w3 h3 => MStep.before H.out.size HB.out.drew (MStep.join hc2 ho2 hb2 hm2.size (Below.refl _ _).drew h3))
  obtain ⟨P, sg, t, S, kb, ⟨-, k1, -, -, -⟩, -⟩ := hm2.ex
  have hMz := hm2.lo.2
  have k1d : w2.drew.cell? ⟨M, 1, none⟩ = some (.pointer (some ⟨sg, 0, none⟩)) := k1
  clear hm2 hc2 ho2 hb2
  refine hK2.out _ _ ⟨c0, c1⟩ (fun hHeld2 => ?_)
  clear hK2 K2 hHeld
  have hHeld := hHeld2
  clear hHeld2
  try simp (maxSteps := 4000000) only [Act.put, List.setIfInBounds_toArray, List.set_cons_zero, List.set_cons_succ]
  refine wpAnyH_done (by kernel_rfl) ?_ _
  go_upto_region 4 with (fail)
  refine wp_region_held_drew (S := fun w' => w'.cell? ⟨M, 1, none⟩ = some (.pointer (some ⟨sg, 0, none⟩)) ∧ w'.cell? ⟨x4, 0, none⟩ = some (.int .i64 (a : Int)) ∧ w'.cell? ⟨x4, 1, none⟩ = some (.int .i64 (n : Int))) (by kernel_rfl) ?_ (fun hHeld => ?_)
  · exact ⟨k1, c0, c1⟩
  refine wpAnyH_take (i := 0) (v := ?_) rfl (by kernel_rfl) (by kernel_rfl) (by kernel_rfl) (fun _ _ _ h => h) (Or.inl ⟨by kernel_rfl, ?_⟩) (by assumption) ?_
  rotate_left
  · (intro w hSw; (try dsimp only at hSw); go_simp)
    try (with_reducible rfl)
  rotate_left
  try simp (maxSteps := 4000000) only [Act.put, List.setIfInBounds_toArray, List.set_cons_zero, List.set_cons_succ, List.getElem_toArray, List.getElem_cons_zero, List.getElem_cons_succ]
  refine wpAnyH_take (i := 1) (v := ?_) rfl (by kernel_rfl) (by kernel_rfl) (by kernel_rfl) (fun _ _ _ h => h) (Or.inl ⟨by kernel_rfl, ?_⟩) (by assumption) ?_
  rotate_left
  · (intro w hSw; (try dsimp only at hSw); go_simp)
    try (with_reducible rfl)
  rotate_left
  try simp (maxSteps := 4000000) only [Act.put, List.setIfInBounds_toArray, List.set_cons_zero, List.set_cons_succ, List.getElem_toArray, List.getElem_cons_zero, List.getElem_cons_succ]
  refine wpAnyH_take (i := 2) (v := ?_) rfl (by kernel_rfl) (by kernel_rfl) (by kernel_rfl) (fun _ _ _ h => h) (Or.inl ⟨by kernel_rfl, ?_⟩) (by assumption) ?_
  rotate_left
  · (intro w hSw; (try dsimp only at hSw); go_simp)
    try (with_reducible rfl)
  rotate_left
  try simp (maxSteps := 4000000) only [Act.put, List.setIfInBounds_toArray, List.set_cons_zero, List.set_cons_succ, List.getElem_toArray, List.getElem_cons_zero, List.getElem_cons_succ]
  refine wpAnyH_take (i := 3) (v := ?_) rfl (by kernel_rfl) (by kernel_rfl) (by kernel_rfl) (fun _ _ _ h => h) (Or.inl ⟨by kernel_rfl, ?_⟩) (by assumption) ?_
  rotate_left
  · (intro w hSw; (try dsimp only at hSw); go_simp)
    try (with_reducible rfl)
  rotate_left
  try simp (maxSteps := 4000000) only [Act.put, List.setIfInBounds_toArray, List.set_cons_zero, List.set_cons_succ, List.getElem_toArray, List.getElem_cons_zero, List.getElem_cons_succ]
  refine wpAnyH_take (i := 4) (v := ?_) rfl (by kernel_rfl) (by kernel_rfl) (by kernel_rfl) (fun _ _ _ h => h) (Or.inl ⟨by kernel_rfl, ?_⟩) (by assumption) ?_
  rotate_left
  · (intro w hSw; (try dsimp only at hSw); go_simp)
    try (with_reducible rfl)
  rotate_left
  try simp (maxSteps := 4000000) only [Act.put, List.setIfInBounds_toArray, List.set_cons_zero, List.set_cons_succ, List.getElem_toArray, List.getElem_cons_zero, List.getElem_cons_succ]
  refine wpAnyH_take (i := 5) (v := ?_) rfl (by kernel_rfl) (by kernel_rfl) (by kernel_rfl) (fun _ _ _ h => h) (Or.inl ⟨by kernel_rfl, ?_⟩) (by assumption) ?_
  rotate_left
  · (intro w hSw; (try dsimp only at hSw); go_simp)
    try (with_reducible rfl)
  rotate_left
  try simp (maxSteps := 4000000) only [Act.put, List.setIfInBounds_toArray, List.set_cons_zero, List.set_cons_succ, List.getElem_toArray, List.getElem_cons_zero, List.getElem_cons_succ]
  refine wpAnyH_take (i := 6) (v := ?_) rfl (by kernel_rfl) (by kernel_rfl) (by kernel_rfl) (fun _ _ _ h => h) (Or.inl ⟨by kernel_rfl, ?_⟩) (by assumption) ?_
  rotate_left
  · (intro w hSw; (try dsimp only at hSw); go_simp)
    try (with_reducible rfl)
  rotate_left
  try simp (maxSteps := 4000000) only [Act.put, List.setIfInBounds_toArray, List.set_cons_zero, List.set_cons_succ, List.getElem_toArray, List.getElem_cons_zero, List.getElem_cons_succ]
  refine wpAnyH_take (i := 7) (v := ?_) rfl (by kernel_rfl) (by kernel_rfl) (by kernel_rfl) (fun _ _ _ h => h) (Or.inl ⟨by kernel_rfl, ?_⟩) (by assumption) ?_
  rotate_left
  · (intro w hSw; (try dsimp only at hSw); go_simp)
    try (with_reducible rfl)
  rotate_left
  try simp (maxSteps := 4000000) only [Act.put, List.setIfInBounds_toArray, List.set_cons_zero, List.set_cons_succ, List.getElem_toArray, List.getElem_cons_zero, List.getElem_cons_succ]
  refine wpAnyH_take (i := 8) (v := ?_) rfl (by kernel_rfl) (by kernel_rfl) (by kernel_rfl) (fun _ _ _ h => h) (Or.inl ⟨by kernel_rfl, ?_⟩) (by assumption) ?_
  rotate_left
  · (intro w hSw; (try dsimp only at hSw); go_simp)
    try (with_reducible rfl)
  rotate_left
  try simp (maxSteps := 4000000) only [Act.put, List.setIfInBounds_toArray, List.set_cons_zero, List.set_cons_succ, List.getElem_toArray, List.getElem_cons_zero, List.getElem_cons_succ]
  refine wpAnyH_take (i := 9) (v := ?_) rfl (by kernel_rfl) (by kernel_rfl) (by kernel_rfl) (fun _ _ _ h => h) (Or.inl ⟨by kernel_rfl, ?_⟩) (by assumption) ?_
  rotate_left
  · (intro w hSw; (try dsimp only at hSw); go_simp)
    try (with_reducible rfl)
  rotate_left
  try simp (maxSteps := 4000000) only [Act.put, List.setIfInBounds_toArray, List.set_cons_zero, List.set_cons_succ, List.getElem_toArray, List.getElem_cons_zero, List.getElem_cons_succ]
  refine wpAnyH_ready (rs := [10]) (by kernel_rfl) (by simp) ?_
  refine AllReadyH.cons rfl (fun K2 hK2 => ?_) AllReadyH.nil
  go_simp
  with_reducible refine Calls.mono (mem_fill a n x sg H2.out k1d (by have := HM.out; omega) (by have := HM.out; omega) HX.out) ?_
  rintro e w3 ⟨rfl, h3⟩
  have HF := Lib.hid (HAG.out w3 h3)
  obtain ⟨col3, -, -, ho3, hb3⟩ := h3
  have d0 : w3.cell? ⟨x4, 0, none⟩ = some (.int .i64 (a : Int)) := (World.cell?_of_block (ho3 x4 hz2 (by rw [HX2.out]; decide))).trans c0
  have d1 : w3.cell? ⟨x4, 1, none⟩ = some (.int .i64 (n : Int)) := (World.cell?_of_block (ho3 x4 hz2 (by rw [HX2.out]; decide))).trans c1
  have d4 : w3.cell? ⟨M, 1, none⟩ = some (.pointer (some ⟨sg, 0, none⟩)) := (World.cell?_of_block (ho3 M hMz (by rw [H2.out.me]; decide))).trans k1
  clear ho3 hb3 HAG
  refine hK2.out _ _ ⟨d4, d0, d1⟩ (fun hHeld2 => ?_)
  clear hK2 K2 hHeld
  have hHeld := hHeld2
  clear hHeld2
  try simp (maxSteps := 4000000) only [Act.put, List.setIfInBounds_toArray, List.set_cons_zero, List.set_cons_succ]
  refine wpAnyH_done (by kernel_rfl) ?_ _
  go_wp2
  go_ret
  exact ⟨rfl, HF.out⟩

end
end Go.Proofs.YtljjcomedjdpaaaDoor

