/- HdC. -/
import Derived.Test.YtnfcpohbdkionaaGreatDoorZ40
import Derived.Deep.RegionHeld3
namespace Go.Proofs.YtnfcpohbdkionaaGreatDoor
set_option maxRecDepth 100000
open Go.RowKit Go.ChangeMaps Go.MapKept
set_option linter.unusedVariables false
set_option linter.unusedSimpArgs false
section
variable {B : Nat} {col : Nat → Nat} {M : Nat} {W : World} {σ : MS}
theorem RowU.at_ {g K : Nat} {W : World} {f : Nat → Nat} (h : RowU g K W f) (i : Nat) (hi : i < K) : W.cell? ⟨g, 0 + i, none⟩ = some (.int .u8 (f i : Int)) := by rw [Nat.zero_add]; exact (h.2 i hi).1
set_option maxHeartbeats 800000 in
theorem hstore_no (r : Int) (b l c p t : Int) (v : Bool) (b' l' c' p' t' : Int) (v' : Bool) (h : MEM B col M W σ) (hr : slotE σ b l c p t v 8 = r) (h0 : r ≠ 0) :
    Calls Tryz.prog 13 #[.pointer (some ⟨M, 0, none⟩), .agg #[.int .i64 b, .int .i64 l, .int .i64 c, .int .i64 p, .int .i64 t, .bool v], .agg #[.int .i64 b', .int .i64 l', .int .i64 c', .int .i64 p', .int .i64 t', .bool v']] W fun e w' => e = .returned (.int .i64 r) ∧ Below W.heap.size W w' := by
  have H := Lib.hid h
  have HR := Lib.hid hr
  have h5 : (r != 0) = true := by simpa using h0
  clear h hr h0
  go_enter Tryz.func13, Tryz.ntmps13
  go_wp2_with fail
  refine (hrefused r b l c p t v 8 (H.out.later (alc (alc0 _ _) _)) HR.out).mono ?_
  rintro e w1 ⟨rfl, hb⟩
  have HB := Lib.hid (thn (alc (alc0 W _) _) hb)
  clear hb
  go_wp2
  go_ret
  exact ⟨rfl, HB.out⟩
set_option maxHeartbeats 1600000 in
theorem hstore_dead (b l p t : Int) (c : Nat) (v : Bool) (b' l' c' p' t' : Int) (v' : Bool) (h : MEM B col M W σ) (hr : slotE σ b l c p t v 8 = 0) (ha : aliveB σ b' l' c' p' t' v' = false) :
    Calls Tryz.prog 13 #[.pointer (some ⟨M, 0, none⟩), .agg #[.int .i64 b, .int .i64 l, .int .i64 c, .int .i64 p, .int .i64 t, .bool v], .agg #[.int .i64 b', .int .i64 l', .int .i64 c', .int .i64 p', .int .i64 t', .bool v']] W fun e w' => e = .returned (.int .i64 0) ∧ MStep B col M W (wrS σ c 16 (fun _ => 0)) w' := by
  have H := Lib.hid h
  have HR := Lib.hid hr
  have HA := Lib.hid ha
  have HO : Hid (openB σ.pg (c : Int) ((16 : Nat) : Int) = true) := Lib.hid (tagd_open ((accE_ok (slotE_ok hr).1).2.2.2 (by decide)))
  have HY := Lib.hid (CapAt.new2 W (.cells #[.int .i64 b, .int .i64 l, .int .i64 c, .int .i64 p, .int .i64 t, .bool v] 25) b' l' c' p' t' v' 25)
  have HX := Lib.hid (CapAt.new W b l c p t v 25)
  clear h hr ha
  go_enter Tryz.func13, Tryz.ntmps13
  go_wp2_with fail
  refine (hrefused 0 b l c p t v 8 (H.out.later (alc (alc0 _ _) _)) HR.out).mono ?_
  rintro e w1 ⟨rfl, hb⟩
  have HB := Lib.hid (thn (alc (alc0 W _) _) hb)
  have HX1 := Lib.hid ((HX.out.below (alc0 _ _)).below hb)
  have HY1 := Lib.hid (HY.out.below hb)
  clear hb
  obtain ⟨-, y0, y1, y2, y3, y4, y5, -⟩ := HY1.out
  go_wp2_with fail
  refine (ckalive false b' l' c' p' t' v' (H.out.later HB.out) HA.out).mono ?_
  rintro e w2 ⟨rfl, hb⟩
  have HB2 := Lib.hid (thn HB.out hb)
  have HX2 := Lib.hid (HX1.out.below hb)
  clear hb y0 y1 y2 y3 y4 y5
  have hmk := mk16
  have HTAKE := Lib.hid (fun (w' : World) (h : CapAt W.heap.size w' b l c p t v) => h.2)
  go_wp2_with fail
  refine wp_region_held_drew (S := fun w' => CapAt W.heap.size w' b l c p t v) (by kernel_rfl) ?_ (fun hHeld => ?_)
  · exact HX2.out.drew
  refine wpAnyH_take (i := 0) (v := ?_) rfl (by kernel_rfl) (by kernel_rfl) (by kernel_rfl) (fun _ _ _ h => h) (Or.inl ⟨by kernel_rfl, ?_⟩) (by assumption) ?_
  rotate_left
  · (intro w hSw; (try dsimp only at hSw); (try have hTk := Hid.out HTAKE _ hSw); go_simp)
    try (with_reducible rfl)
  rotate_left
  try simp (maxSteps := 4000000) only [Act.put, List.setIfInBounds_toArray, List.set_cons_zero, List.set_cons_succ, List.getElem_toArray, List.getElem_cons_zero, List.getElem_cons_succ]
  refine wpAnyH_take (i := 1) (v := ?_) rfl (by kernel_rfl) (by kernel_rfl) (by kernel_rfl) (fun _ _ _ h => h) (Or.inl ⟨by kernel_rfl, ?_⟩) (by assumption) ?_
  rotate_left
  · (intro w hSw; (try dsimp only at hSw); (try have hTk := Hid.out HTAKE _ hSw); go_simp)
    try (with_reducible rfl)
  rotate_left
  try simp (maxSteps := 4000000) only [Act.put, List.setIfInBounds_toArray, List.set_cons_zero, List.set_cons_succ, List.getElem_toArray, List.getElem_cons_zero, List.getElem_cons_succ]
  refine wpAnyH_take (i := 2) (v := ?_) rfl (by kernel_rfl) (by kernel_rfl) (by kernel_rfl) (fun _ _ _ h => h) (Or.inl ⟨by kernel_rfl, ?_⟩) (by assumption) ?_
  rotate_left
  · (intro w hSw; (try dsimp only at hSw); (try have hTk := Hid.out HTAKE _ hSw); go_simp)
    try (with_reducible rfl)
  rotate_left
  try simp (maxSteps := 4000000) only [Act.put, List.setIfInBounds_toArray, List.set_cons_zero, List.set_cons_succ, List.getElem_toArray, List.getElem_cons_zero, List.getElem_cons_succ]
  refine wpAnyH_ready (rs := [3]) (by kernel_rfl) (by simp) ?_
  refine AllReadyH.cons rfl (fun K2 hK2 => ?_) AllReadyH.nil
  go_simp
  obtain ⟨w3, hw3⟩ : ∃ w3, (w2.alloc (.cells (madeCells #[.int .u8 0] 16) 5)).drew = w3 := ⟨_, rfl⟩
  have hb3 : Below w2.heap.size w2 w3 := by rw [← hw3]; exact (alc0 _ _).drew
  have hrw : RowU w2.heap.size 16 w3 (fun _ => 0) := by rw [← hw3]; exact (row16 w2).below (Below.refl _ _).drew
  rw [hw3]
  have HB3 := Lib.hid (thn HB2.out hb3)
  have HX3 := Lib.hid (HX2.out.below hb3)
  have HRW := Lib.hid hrw
  have HZ := Lib.hid hb3.size
  clear hrw hw3 hmk
  refine hK2.out _ _ (HX3.out) (fun hHeld2 => ?_)
  clear hK2 K2 hHeld
  have hHeld := hHeld2
  clear hHeld2
  try simp (maxSteps := 4000000) only [Act.put, List.setIfInBounds_toArray, List.set_cons_zero, List.set_cons_succ]
  clear hb3
  refine wpAnyH_ready (rs := [4]) (by kernel_rfl) (by simp) ?_
  refine AllReadyH.cons rfl (fun K2 hK2 => ?_) AllReadyH.nil
  go_simp
  with_reducible refine Calls.mono (mwrite_ok c 16 w2.heap.size 0 16 (fun _ => 0) (H.out.later HB3.out) HO.out (by decide) HRW.out.at_ (fun _ _ => by decide) (H.out.old HB2.out.size)) ?_
  rintro e w4 ⟨rfl, hm⟩
  have HM := Lib.hid hm
  have HX4 := Lib.hid (HX3.out.keep hm.choose_spec.2.2.2.size (hm.choose_spec.2.2.1 _ HX3.out.1 (by rw [H.out.old (Nat.le_refl _)]; decide)))
  clear hm
  refine hK2.out _ _ (HX4.out) (fun hHeld2 => ?_)
  clear hK2 K2 hHeld
  have hHeld := hHeld2
  clear hHeld2
  try simp (maxSteps := 4000000) only [Act.put, List.setIfInBounds_toArray, List.set_cons_zero, List.set_cons_succ]
  refine wpAnyH_take (i := 5) (v := ?_) rfl (by kernel_rfl) (by kernel_rfl) (by kernel_rfl) (fun _ _ _ h => h) (Or.inl ⟨by kernel_rfl, ?_⟩) (by assumption) ?_
  rotate_left
  · (intro w hSw; (try dsimp only at hSw); (try have hTk := Hid.out HTAKE _ hSw); go_simp)
    try (with_reducible rfl)
  rotate_left
  try simp (maxSteps := 4000000) only [Act.put, List.setIfInBounds_toArray, List.set_cons_zero, List.set_cons_succ, List.getElem_toArray, List.getElem_cons_zero, List.getElem_cons_succ]
  refine wpAnyH_done (by kernel_rfl) ?_ _
  go_wp2
  go_ret
  exact ⟨rfl, MStep.before H.out.size HB3.out HM.out⟩
set_option maxHeartbeats 1600000 in
theorem hstore_yes (b l p t : Int) (c : Nat) (v : Bool) (L1 L2 LD L4 L5 : Nat) (L3 : Int) (h : MEM B col M W σ) (hr : slotE σ b l c p t v 8 = 0) (ha : aliveB σ L1 L2 L3 L4 L5 true = true) (hD : L3 - L1 + 1048576 = LD) :
    Calls Tryz.prog 13 #[.pointer (some ⟨M, 0, none⟩), .agg #[.int .i64 b, .int .i64 l, .int .i64 c, .int .i64 p, .int .i64 t, .bool v], .agg #[.int .i64 L1, .int .i64 L2, .int .i64 L3, .int .i64 L4, .int .i64 L5, .bool true]] W fun e w' => e = .returned (.int .i64 0) ∧ MStep B col M W (keepS σ c (codeF L1 L2 LD L4 L5)) w' := by
  have H := Lib.hid h
  have HR := Lib.hid hr
  have HA := Lib.hid ha
  have HO : Hid (openB σ.pg (c : Int) 16 = true) := Lib.hid (tagd_open ((accE_ok (slotE_ok hr).1).2.2.2 (by decide)))
  have HC16 : Hid (c % 16 = 0) := Lib.hid (by have := (slotE_ok hr).2; omega)
  have HOK : Hid (capOkB L1 L2 L3 L4 L5 = true) := Lib.hid (by
    unfold aliveB at ha
    rw [Bool.true_and, Bool.and_eq_true] at ha
    exact ha.1)
  have HD := Lib.hid hD
  have HY := Lib.hid (CapAt.new2 W (.cells #[.int .i64 b, .int .i64 l, .int .i64 c, .int .i64 p, .int .i64 t, .bool v] 25) L1 L2 L3 L4 L5 true 25)
  have HX := Lib.hid (CapAt.new W b l c p t v 25)
  clear h hr ha hD
  go_enter Tryz.func13, Tryz.ntmps13
  go_wp2_with fail
  refine (hrefused 0 b l c p t v 8 (H.out.later (alc (alc0 _ _) _)) HR.out).mono ?_
  rintro e w1 ⟨rfl, hb⟩
  have HB := Lib.hid (thn (alc (alc0 W _) _) hb)
  have HX1 := Lib.hid ((HX.out.below (alc0 _ _)).below hb)
  have HY1 := Lib.hid (HY.out.below hb)
  clear hb
  obtain ⟨-, y0, y1, y2, y3, y4, y5, -⟩ := HY1.out
  go_wp2_with fail
  refine (ckalive true L1 L2 L3 L4 L5 true (H.out.later HB.out) HA.out).mono ?_
  rintro e w2 ⟨rfl, hb⟩
  have HB2 := Lib.hid (thn HB.out hb)
  have HX2 := Lib.hid (HX1.out.below hb)
  have HY2 := Lib.hid (HY1.out.below hb)
  clear hb y0 y1 y2 y3 y4 y5
  have HTAKE := Lib.hid (fun (w' : World) (h : CapAt W.heap.size w' b l c p t v ∧ CapAt (W.heap.size + 1) w' L1 L2 L3 L4 L5 true) => And.intro h.1.2 h.2.2)
  go_wp2_with fail
  refine wp_region_held_drew (S := fun w' => CapAt W.heap.size w' b l c p t v ∧ CapAt (W.heap.size + 1) w' L1 L2 L3 L4 L5 true) (by kernel_rfl) ?_ (fun hHeld => ?_)
  · exact ⟨HX2.out.drew, HY2.out.drew⟩
  refine wpAnyH_take (i := 0) (v := ?_) rfl (by kernel_rfl) (by kernel_rfl) (by kernel_rfl) (fun _ _ _ h => h) (Or.inl ⟨by kernel_rfl, ?_⟩) (by assumption) ?_
  rotate_left
  · (intro w hSw; (try dsimp only at hSw); (try have hTk := Hid.out HTAKE _ hSw); go_simp)
    try (with_reducible rfl)
  rotate_left
  try simp (maxSteps := 4000000) only [Act.put, List.setIfInBounds_toArray, List.set_cons_zero, List.set_cons_succ, List.getElem_toArray, List.getElem_cons_zero, List.getElem_cons_succ]
  refine wpAnyH_take (i := 1) (v := ?_) rfl (by kernel_rfl) (by kernel_rfl) (by kernel_rfl) (fun _ _ _ h => h) (Or.inl ⟨by kernel_rfl, ?_⟩) (by assumption) ?_
  rotate_left
  · (intro w hSw; (try dsimp only at hSw); (try have hTk := Hid.out HTAKE _ hSw); go_simp)
    try (with_reducible rfl)
  rotate_left
  try simp (maxSteps := 4000000) only [Act.put, List.setIfInBounds_toArray, List.set_cons_zero, List.set_cons_succ, List.getElem_toArray, List.getElem_cons_zero, List.getElem_cons_succ]
  refine wpAnyH_take (i := 2) (v := ?_) rfl (by kernel_rfl) (by kernel_rfl) (by kernel_rfl) (fun _ _ _ h => h) (Or.inl ⟨by kernel_rfl, ?_⟩) (by assumption) ?_
  rotate_left
  · (intro w hSw; (try dsimp only at hSw); (try have hTk := Hid.out HTAKE _ hSw); go_simp)
    try (with_reducible rfl)
  rotate_left
  try simp (maxSteps := 4000000) only [Act.put, List.setIfInBounds_toArray, List.set_cons_zero, List.set_cons_succ, List.getElem_toArray, List.getElem_cons_zero, List.getElem_cons_succ]
  refine wpAnyH_take (i := 3) (v := ?_) rfl (by kernel_rfl) (by kernel_rfl) (by kernel_rfl) (fun _ _ _ h => h) (Or.inl ⟨by kernel_rfl, ?_⟩) (by assumption) ?_
  rotate_left
  · (intro w hSw; (try dsimp only at hSw); (try have hTk := Hid.out HTAKE _ hSw); go_simp)
    try (with_reducible rfl)
  rotate_left
  try simp (maxSteps := 4000000) only [Act.put, List.setIfInBounds_toArray, List.set_cons_zero, List.set_cons_succ, List.getElem_toArray, List.getElem_cons_zero, List.getElem_cons_succ]
  refine wpAnyH_ready (rs := [4]) (by kernel_rfl) (by simp) ?_
  refine AllReadyH.cons rfl (fun K2 hK2 => ?_) AllReadyH.nil
  go_simp
  with_reducible refine Calls.mono (cbytes_yes L1 L2 LD L4 L5 L3 w2.drew HOK.out HD.out) ?_
  rintro e w3 ⟨D, rfl, hD, hrw, hb⟩
  have hb3 : Below w2.heap.size w2 w3 := thn (Below.refl _ _).drew hb
  have HB3 := Lib.hid (thn HB2.out hb3)
  have HX3 := Lib.hid (HX2.out.below hb3)
  have HY3 := Lib.hid (HY2.out.below hb3)
  have HRW := Lib.hid hrw
  have HZ : Hid (W.heap.size ≤ D) := Lib.hid (Nat.le_trans HB2.out.size hD)
  clear hrw hb hD
  refine hK2.out _ _ (⟨HX3.out, HY3.out⟩) (fun hHeld2 => ?_)
  clear hK2 K2 hHeld
  have hHeld := hHeld2
  clear hHeld2
  try simp (maxSteps := 4000000) only [Act.put, List.setIfInBounds_toArray, List.set_cons_zero, List.set_cons_succ]
  clear hb3
  refine wpAnyH_ready (rs := [5]) (by kernel_rfl) (by simp) ?_
  refine AllReadyH.cons rfl (fun K2 hK2 => ?_) AllReadyH.nil
  go_simp
  with_reducible refine Calls.mono (mkeep_ok c D 0 16 (codeF L1 L2 LD L4 L5) (H.out.later HB3.out) HC16.out HO.out HRW.out.at_ (H.out.old HZ.out)) ?_
  rintro e w4 ⟨rfl, hm⟩
  have HM := Lib.hid hm
  have HX4 := Lib.hid (HX3.out.keep hm.choose_spec.2.2.2.size (hm.choose_spec.2.2.1 _ HX3.out.1 (by rw [H.out.old (Nat.le_refl _)]; decide)))
  have HY4 := Lib.hid (HY3.out.keep hm.choose_spec.2.2.2.size (hm.choose_spec.2.2.1 _ HY3.out.1 (by rw [H.out.old (Nat.le_succ _)]; decide)))
  clear hm
  refine hK2.out _ _ (⟨HX4.out, HY4.out⟩) (fun hHeld2 => ?_)
  clear hK2 K2 hHeld
  have hHeld := hHeld2
  clear hHeld2
  try simp (maxSteps := 4000000) only [Act.put, List.setIfInBounds_toArray, List.set_cons_zero, List.set_cons_succ]
  refine wpAnyH_take (i := 6) (v := ?_) rfl (by kernel_rfl) (by kernel_rfl) (by kernel_rfl) (fun _ _ _ h => h) (Or.inl ⟨by kernel_rfl, ?_⟩) (by assumption) ?_
  rotate_left
  · (intro w hSw; (try dsimp only at hSw); (try have hTk := Hid.out HTAKE _ hSw); go_simp)
    try (with_reducible rfl)
  rotate_left
  try simp (maxSteps := 4000000) only [Act.put, List.setIfInBounds_toArray, List.set_cons_zero, List.set_cons_succ, List.getElem_toArray, List.getElem_cons_zero, List.getElem_cons_succ]
  refine wpAnyH_done (by kernel_rfl) ?_ _
  go_wp2
  go_ret
  exact ⟨rfl, MStep.before H.out.size HB3.out HM.out⟩
end
end Go.Proofs.YtnfcpohbdkionaaGreatDoor
