/- Contracts of package gaps: Take, Give. -/
import Derived.Test.YtjblgamngnnccaaDoorGapA
import Derived.Deep.RegionHeld3
import Derived.Deep.DeepCutAuto
namespace Go.Proofs.YtjblgamngnnccaaDoor
open Go.RowKit
set_option linter.unusedVariables false
set_option linter.unusedSimpArgs false

theorem ngtake (f n : Int) (W : World) : Calls Tryd.prog 19 #[.pointer none, .int .i64 f, .int .i64 n] W fun e w' => e = .returned (.int .i64 1) ∧ ∃ q, w' = W.drewN q := by
  go_enter Tryd.func19, Tryd.ntmps19
  go_wp2_with fail
  refine (ngthere f n _).mono ?_
  rintro e w' ⟨rfl, q, rfl⟩
  go_wp2
  go_ret
  exact ⟨rfl, _, rfl⟩
theorem nggive (f n : Int) (W : World) : Calls Tryd.prog 20 #[.pointer none, .int .i64 f, .int .i64 n] W fun e w' => e = .returned (.int .i64 1) ∧ ∃ q, w' = W.drewN q := by
  go_enter Tryd.func20, Tryd.ntmps20
  go_wp2_with fail
  refine (ngthere f n _).mono ?_
  rintro e w' ⟨rfl, q, rfl⟩
  go_wp2
  go_ret
  exact ⟨rfl, _, rfl⟩
theorem gtake_out (lo hi s g : Nat) (W : World) (F P c f n : Int) (ws : List Nat) (h : GpAt lo hi s g W F P c ws) (hn : ¬ InG F P f n) :
    Calls Tryd.prog 19 #[.pointer (some ⟨g, 0, none⟩), .int .i64 f, .int .i64 n] W fun e w' => e = .returned (.int .i64 1) ∧ ∃ q, w' = W.drewN q := by
  have H := Lib.hid h
  clear h
  go_enter Tryd.func19, Tryd.ntmps19
  go_wp2_with fail
  refine (gthere false lo hi s g _ F P c f n ws H.out (by simpa using hn)).mono ?_
  rintro e w' ⟨rfl, q, rfl⟩
  go_wp2
  go_ret
  exact ⟨rfl, _, rfl⟩
theorem ggive_out (lo hi s g : Nat) (W : World) (F P c f n : Int) (ws : List Nat) (h : GpAt lo hi s g W F P c ws) (hn : ¬ InG F P f n) :
    Calls Tryd.prog 20 #[.pointer (some ⟨g, 0, none⟩), .int .i64 f, .int .i64 n] W fun e w' => e = .returned (.int .i64 1) ∧ ∃ q, w' = W.drewN q := by
  have H := Lib.hid h
  clear h
  go_enter Tryd.func20, Tryd.ntmps20
  go_wp2_with fail
  refine (gthere false lo hi s g _ F P c f n ws H.out (by simpa using hn)).mono ?_
  rintro e w' ⟨rfl, q, rfl⟩
  go_wp2
  go_ret
  exact ⟨rfl, _, rfl⟩
theorem sJ_is {P x n : Int} (h0 : 0 ≤ x) (h1 : 1 ≤ n) (h2 : x + n ≤ P) : sJ P x n = n.toNat := by
  unfold sJ sendI
  rw [if_pos ⟨h0, by omega, h1⟩]
  omega
set_option maxHeartbeats 16000000 in
theorem gtake_in (lo hi s g : Nat) (W : World) (F P c f n : Int) (ws : List Nat) (h : GpAt lo hi s g W F P c ws) (hn : InG F P f n) (hwh : wholeB ws (f - F).toNat n.toNat = true) (hc : (dropN ws (f - F).toNat n.toNat).2 ≤ c) :
    Calls Tryd.prog 19 #[.pointer (some ⟨g, 0, none⟩), .int .i64 f, .int .i64 n] W fun e w' => e = .returned (.int .i64 0) ∧ GpAt lo hi s g w' F P (c - (dropN ws (f - F).toNat n.toNat).2) (dropN ws (f - F).toNat n.toNat).1 ∧ Only lo hi W w' := by
  have H := Lib.hid h
  have HI := Lib.hid hn
  obtain ⟨i1, i2, i3, i4⟩ := hn
  obtain ⟨h1, h2, h3, h4, h5, h6, ⟨h7, h8, h9⟩, h10, h11⟩ := h
  have HS := Lib.hid h6
  have hw : IntKind.i64.wrap (f - F) = f - F := by rw [IntKind.wrap_i64]; omega
  obtain ⟨x, hx⟩ : ∃ x, f - F = x := ⟨_, rfl⟩
  rw [hx] at hwh hc hw ⊢
  have hx0 : 0 ≤ x := by omega
  have hxn : x + n ≤ P := by omega
  have HJ := Lib.hid (sJ_is hx0 i3 hxn)
  have HR : Hid ((decide (0 ≤ x ∧ 0 ≤ n ∧ n ≤ P ∧ x ≤ P - n) && wholeB ws x.toNat n.toNat) = true) := Lib.hid (by rw [hwh]; simp; omega)
  have hbd := dropN_bd ws x.toNat n.toNat
  have HBD := Lib.hid hbd
  have HC := Lib.hid hc
  have HC2 : Hid (c ≤ 900000) := Lib.hid (by omega)
  have HC3 : Hid (0 ≤ c ∧ c ≤ 1024) := Lib.hid ⟨h10, h11⟩
  clear h6 hwh hbd hc hxn
  go_enter Tryd.func19, Tryd.ntmps19
  go_wp2_with fail
  refine (gthere true lo hi s g _ F P c f n ws H.out (decide_eq_true HI.out)).mono ?_
  rintro e w' ⟨rfl, q, rfl⟩
  obtain ⟨W5, hW5⟩ : ∃ W5, W.drewN q = W5 := ⟨_, rfl⟩
  have H5 : Hid (GpAt lo hi s g W5 F P c ws) := Lib.hid (by rw [← hW5]; exact H.out.drw q)
  have HO5 : Hid (Only lo hi W W5) := Lib.hid (by rw [← hW5]; exact only_drw lo hi W q)
  rw [hW5]
  obtain ⟨_, _, g3, g4, g5, g6, _⟩ := H5.out
  have HS5 := Lib.hid g6
  have HWh := Lib.hid (fun k => swhole_is true lo hi s (W5.drewN k) P c x n ws (HS5.out.keep (Nat.le_refl _) (fun _ _ _ => rfl)) HR.out)
  clear hW5 h1 h2 h3 h4 h5 HS g6
  go_wp2_with fail
  go_quiet (exact Calls.quiet_of_same ((HWh.out _).mono fun _ _ ⟨he, hm⟩ => ⟨he, hm.symm⟩))
  go_upto_region 5 with (fail)
  clear HWh
  have HG5 := H5
  refine wp_region_held_drew (S := fun w' => w'.cell? ⟨g, 0, none⟩ = some (.int .i64 F) ∧ w'.cell? ⟨g, 2, none⟩ = some (.pointer (some ⟨s, 0, none⟩))) (by kernel_rfl) ?_ (fun hHeld => ?_)
  · exact ⟨g3, g5⟩
  refine wpAnyH_take (i := 0) (v := ?_) rfl (by kernel_rfl) (by kernel_rfl) (by kernel_rfl) (fun _ _ _ h => h) (Or.inl ⟨by kernel_rfl, ?_⟩) (by assumption) ?_
  rotate_left
  · (intro w hSw; (try dsimp only at hSw); go_simp)
    try (with_reducible rfl)
  rotate_left
  try simp (maxSteps := 4000000) only [Act.put, List.setIfInBounds_toArray, List.set_cons_zero, List.set_cons_succ, List.getElem_toArray, List.getElem_cons_zero, List.getElem_cons_succ]
  refine wpAnyH_take (i := 1) (v := ?_) rfl (by kernel_rfl) (by kernel_rfl) (by kernel_rfl) (fun _ _ _ h => h) (Or.inl ⟨by kernel_rfl, ?_⟩) (by assumption) ?_
  rotate_left
  · (intro w hSw; (try dsimp only at hSw); go_simp)
    try (with_reducible rfl)
  rotate_left
  try simp (maxSteps := 4000000) only [Act.put, List.setIfInBounds_toArray, List.set_cons_zero, List.set_cons_succ, List.getElem_toArray, List.getElem_cons_zero, List.getElem_cons_succ]
  refine wpAnyH_take (i := 2) (v := ?_) rfl (by kernel_rfl) (by kernel_rfl) (by kernel_rfl) (fun _ _ _ h => h) (Or.inl ⟨by kernel_rfl, ?_⟩) (by assumption) ?_
  rotate_left
  · (intro w hSw; (try dsimp only at hSw); go_simp)
    try (with_reducible rfl)
  rotate_left
  try simp (maxSteps := 4000000) only [Act.put, List.setIfInBounds_toArray, List.set_cons_zero, List.set_cons_succ, List.getElem_toArray, List.getElem_cons_zero, List.getElem_cons_succ]
  refine wpAnyH_take (i := 3) (v := ?_) rfl (by kernel_rfl) (by kernel_rfl) (by kernel_rfl) (fun _ _ _ h => h) (Or.inl ⟨by kernel_rfl, ?_⟩) (by assumption) ?_
  rotate_left
  · (intro w hSw; (try dsimp only at hSw); go_simp)
    try (with_reducible rfl)
  rotate_left
  try simp (maxSteps := 4000000) only [Act.put, List.setIfInBounds_toArray, List.set_cons_zero, List.set_cons_succ, List.getElem_toArray, List.getElem_cons_zero, List.getElem_cons_succ]
  refine wpAnyH_take (i := 4) (v := ?_) rfl (by kernel_rfl) (by kernel_rfl) (by kernel_rfl) (fun _ _ _ h => h) (Or.inl ⟨by kernel_rfl, ?_⟩) (by assumption) ?_
  rotate_left
  · (intro w hSw; (try dsimp only at hSw); go_simp)
    try (with_reducible rfl)
  rotate_left
  try simp (maxSteps := 4000000) only [Act.put, List.setIfInBounds_toArray, List.set_cons_zero, List.set_cons_succ, List.getElem_toArray, List.getElem_cons_zero, List.getElem_cons_succ]
  refine wpAnyH_take (i := 5) (v := ?_) rfl (by kernel_rfl) (by kernel_rfl) (by kernel_rfl) (fun _ _ _ h => h) (Or.inl ⟨by kernel_rfl, ?_⟩) (by assumption) ?_
  rotate_left
  · (intro w hSw; (try dsimp only at hSw); go_simp)
    try (with_reducible rfl)
  rotate_left
  try simp (maxSteps := 4000000) only [Act.put, List.setIfInBounds_toArray, List.set_cons_zero, List.set_cons_succ, List.getElem_toArray, List.getElem_cons_zero, List.getElem_cons_succ]
  refine wpAnyH_take (i := 6) (v := ?_) rfl (by kernel_rfl) (by kernel_rfl) (by kernel_rfl) (fun _ _ _ h => h) (Or.inl ⟨by kernel_rfl, ?_⟩) (by assumption) ?_
  rotate_left
  · (intro w hSw; (try dsimp only at hSw); go_simp)
    try (with_reducible rfl)
  rotate_left
  try simp (maxSteps := 4000000) only [Act.put, List.setIfInBounds_toArray, List.set_cons_zero, List.set_cons_succ, List.getElem_toArray, List.getElem_cons_zero, List.getElem_cons_succ]
  refine wpAnyH_take (i := 7) (v := ?_) rfl (by kernel_rfl) (by kernel_rfl) (by kernel_rfl) (fun _ _ _ h => h) (Or.inl ⟨by kernel_rfl, ?_⟩) (by assumption) ?_
  rotate_left
  · (intro w hSw; (try dsimp only at hSw); go_simp)
    try (with_reducible rfl)
  rotate_left
  try simp (maxSteps := 4000000) only [Act.put, List.setIfInBounds_toArray, List.set_cons_zero, List.set_cons_succ, List.getElem_toArray, List.getElem_cons_zero, List.getElem_cons_succ]
  refine wpAnyH_take (i := 8) (v := ?_) rfl (by kernel_rfl) (by kernel_rfl) (by kernel_rfl) (fun _ _ _ h => h) (Or.inl ⟨by kernel_rfl, ?_⟩) (by assumption) ?_
  rotate_left
  · (intro w hSw; (try dsimp only at hSw); go_simp)
    try (with_reducible rfl)
  rotate_left
  try simp (maxSteps := 4000000) only [Act.put, List.setIfInBounds_toArray, List.set_cons_zero, List.set_cons_succ, List.getElem_toArray, List.getElem_cons_zero, List.getElem_cons_succ]
  refine wpAnyH_take (i := 9) (v := ?_) rfl (by kernel_rfl) (by kernel_rfl) (by kernel_rfl) (fun _ _ _ h => h) (Or.inl ⟨by kernel_rfl, ?_⟩) (by assumption) ?_
  rotate_left
  · (intro w hSw; (try dsimp only at hSw); go_simp)
    try (with_reducible rfl)
  rotate_left
  try simp (maxSteps := 4000000) only [Act.put, List.setIfInBounds_toArray, List.set_cons_zero, List.set_cons_succ, List.getElem_toArray, List.getElem_cons_zero, List.getElem_cons_succ]
  refine wpAnyH_take (i := 10) (v := ?_) rfl (by kernel_rfl) (by kernel_rfl) (by kernel_rfl) (fun _ _ _ h => h) (Or.inl ⟨by kernel_rfl, ?_⟩) (by assumption) ?_
  rotate_left
  · (intro w hSw; (try dsimp only at hSw); go_simp)
    try (with_reducible rfl)
  rotate_left
  try simp (maxSteps := 4000000) only [Act.put, List.setIfInBounds_toArray, List.set_cons_zero, List.set_cons_succ, List.getElem_toArray, List.getElem_cons_zero, List.getElem_cons_succ]
  refine wpAnyH_take (i := 11) (v := ?_) rfl (by kernel_rfl) (by kernel_rfl) (by kernel_rfl) (fun _ _ _ h => h) (Or.inl ⟨by kernel_rfl, ?_⟩) (by assumption) ?_
  rotate_left
  · (intro w hSw; (try dsimp only at hSw); go_simp)
    try (with_reducible rfl)
  rotate_left
  try simp (maxSteps := 4000000) only [Act.put, List.setIfInBounds_toArray, List.set_cons_zero, List.set_cons_succ, List.getElem_toArray, List.getElem_cons_zero, List.getElem_cons_succ]
  refine wpAnyH_ready (rs := [12]) (by kernel_rfl) (by simp) ?_
  refine AllReadyH.cons rfl (fun K2 hK2 => ?_) AllReadyH.nil
  go_simp
  with_reducible refine Calls.mono (sdropall lo hi s _ P c x n ws (by exact HS5.out.keep (Nat.le_refl _) (fun _ _ _ => rfl)) (by rw [HJ.out]; exact ⟨HC.out, HC2.out⟩)) ?_
  rintro e w2 ⟨rfl, hs2, ho2⟩
  rw [HJ.out] at hs2
  have ho9 : Hid (Only lo hi W5 w2) := Lib.hid ((show Only lo hi W5 _ from ⟨below_drewN (Below.refl _ _) _, rfl, fun _ _ => rfl⟩).trans ho2)
  have HO : Hid (Only lo hi W w2) := Lib.hid (HO5.out.trans ho9.out)
  have HG : Hid (GpAt lo hi s g w2 F P (c - (dropN ws x.toNat n.toNat).2) (dropN ws x.toNat n.toNat).1) := Lib.hid (H.out.only HO.out hs2 (by have := HBD.out; have := HC.out; have := HC3.out; omega))
  clear hs2 ho2
  refine hK2.out _ _ ?_ (fun hHeld2 => ?_)
  · have hgg : w2.heap[g]? = W5.heap[g]? := by
      have h9 := HG5.out.2.1
      have h8 := ho9.out
      rcases h9 with h7 | h7
      · exact h8.1.block g h7
      · exact h8.2.2 g h7
    exact ⟨(World.cell?_of_block hgg).trans g3, (World.cell?_of_block hgg).trans g5⟩
  clear hK2 K2 hHeld
  have hHeld := hHeld2
  clear hHeld2
  try simp (maxSteps := 4000000) only [Act.put, List.setIfInBounds_toArray, List.set_cons_zero, List.set_cons_succ]
  refine wpAnyH_done (by kernel_rfl) ?_ _
  go_wp2
  go_ret
  exact ⟨rfl, HG.out, HO.out⟩
set_option maxHeartbeats 16000000 in
theorem ggive_in (lo hi s g : Nat) (W : World) (F P c f n : Int) (ws : List Nat) (h : GpAt lo hi s g W F P c ws) (hn : InG F P f n) (ht : TzTab W) (h0 : ∀ y : Nat, f - F ≤ y → (y : Int) < f - F + n → bitB ws y = false) (hc : c + (putN ws (f - F).toNat n.toNat).2 ≤ 1024) :
    Calls Tryd.prog 20 #[.pointer (some ⟨g, 0, none⟩), .int .i64 f, .int .i64 n] W fun e w' => e = .returned (.int .i64 0) ∧ GpAt lo hi s g w' F P (c + (putN ws (f - F).toNat n.toNat).2) (putN ws (f - F).toNat n.toNat).1 ∧ Only lo hi W w' := by
  have H := Lib.hid h
  have HI := Lib.hid hn
  obtain ⟨i1, i2, i3, i4⟩ := hn
  obtain ⟨h1, h2, h3, h4, h5, h6, ⟨h7, h8, h9⟩, h10, h11⟩ := h
  have hw : IntKind.i64.wrap (f - F) = f - F := by rw [IntKind.wrap_i64]; omega
  obtain ⟨x, hx⟩ : ∃ x, f - F = x := ⟨_, rfl⟩
  rw [hx] at h0 hc hw ⊢
  have hx0 : 0 ≤ x := by omega
  have hxn : x + n ≤ P := by omega
  have HJ := Lib.hid (sJ_is hx0 i3 hxn)
  have HR : Hid (¬ (0 ≤ x ∧ ∃ y : Nat, x ≤ y ∧ (y : Int) < sendI P x n ∧ bitB ws y = true)) := Lib.hid (by
    rintro ⟨_, y, y1, y2, y3⟩
    have : sendI P x n = x + n := by unfold sendI; rw [if_pos ⟨hx0, by omega, i3⟩]; omega
    rw [this] at y2
    rw [h0 y y1 y2] at y3
    cases y3)
  have hbd := putN_bd ws x.toNat n.toNat
  have HBD := Lib.hid hbd
  have HC := Lib.hid hc
  have HC2 : Hid (0 ≤ c ∧ c ≤ 900000) := Lib.hid (by omega)
  have HC3 : Hid (0 ≤ c ∧ c ≤ 1024) := Lib.hid ⟨h10, h11⟩
  have T := Lib.hid ht
  clear h6 h0 hbd hc hxn ht
  go_enter Tryd.func20, Tryd.ntmps20
  go_wp2_with fail
  refine (gthere true lo hi s g _ F P c f n ws H.out (decide_eq_true HI.out)).mono ?_
  rintro e w' ⟨rfl, q, rfl⟩
  obtain ⟨W5, hW5⟩ : ∃ W5, W.drewN q = W5 := ⟨_, rfl⟩
  have H5 : Hid (GpAt lo hi s g W5 F P c ws) := Lib.hid (by rw [← hW5]; exact H.out.drw q)
  have HO5 : Hid (Only lo hi W W5) := Lib.hid (by rw [← hW5]; exact only_drw lo hi W q)
  have T5 : Hid (TzTab W5) := Lib.hid (T.out.later (by rw [← hW5]; exact below_drewN (Below.refl _ _) q))
  rw [hW5]
  obtain ⟨_, _, g3, g4, g5, g6, _⟩ := H5.out
  have HS5 := Lib.hid g6
  have HWh : Hid (∀ k, Calls Tryd.prog 34 #[.pointer (some ⟨s, 0, none⟩), .int .i64 x, .int .i64 n] (W5.drewN k) fun e w' => e = .returned (.bool false) ∧ W5.drewN k = w') := Lib.hid (fun k => (ssome_any lo hi s (W5.drewN k) P c x n ws (HS5.out.keep (Nat.le_refl _) (fun _ _ _ => rfl)) (T5.out.later (below_drewN (Below.refl _ _) k))).mono (fun e w' => by
    rintro ⟨hww, r, rfl, hr⟩
    have : r = false := by
      cases r
      · rfl
      · exact absurd (hr.1 rfl) HR.out
    subst this
    exact ⟨rfl, hww⟩))
  clear hW5 h1 h2 h3 h4 h5 g6
  go_wp2_with fail
  go_quiet (exact Calls.quiet_of_same ((HWh.out _).mono fun _ _ ⟨he, hm⟩ => ⟨he, hm.symm⟩))
  go_upto_region 5 with (fail)
  clear HWh
  have HG5 := H5
  refine wp_region_held_drew (S := fun w' => w'.cell? ⟨g, 0, none⟩ = some (.int .i64 F) ∧ w'.cell? ⟨g, 2, none⟩ = some (.pointer (some ⟨s, 0, none⟩))) (by kernel_rfl) ?_ (fun hHeld => ?_)
  · exact ⟨g3, g5⟩
  refine wpAnyH_take (i := 0) (v := ?_) rfl (by kernel_rfl) (by kernel_rfl) (by kernel_rfl) (fun _ _ _ h => h) (Or.inl ⟨by kernel_rfl, ?_⟩) (by assumption) ?_
  rotate_left
  · (intro w hSw; (try dsimp only at hSw); go_simp)
    try (with_reducible rfl)
  rotate_left
  try simp (maxSteps := 4000000) only [Act.put, List.setIfInBounds_toArray, List.set_cons_zero, List.set_cons_succ, List.getElem_toArray, List.getElem_cons_zero, List.getElem_cons_succ]
  refine wpAnyH_take (i := 1) (v := ?_) rfl (by kernel_rfl) (by kernel_rfl) (by kernel_rfl) (fun _ _ _ h => h) (Or.inl ⟨by kernel_rfl, ?_⟩) (by assumption) ?_
  rotate_left
  · (intro w hSw; (try dsimp only at hSw); go_simp)
    try (with_reducible rfl)
  rotate_left
  try simp (maxSteps := 4000000) only [Act.put, List.setIfInBounds_toArray, List.set_cons_zero, List.set_cons_succ, List.getElem_toArray, List.getElem_cons_zero, List.getElem_cons_succ]
  refine wpAnyH_take (i := 2) (v := ?_) rfl (by kernel_rfl) (by kernel_rfl) (by kernel_rfl) (fun _ _ _ h => h) (Or.inl ⟨by kernel_rfl, ?_⟩) (by assumption) ?_
  rotate_left
  · (intro w hSw; (try dsimp only at hSw); go_simp)
    try (with_reducible rfl)
  rotate_left
  try simp (maxSteps := 4000000) only [Act.put, List.setIfInBounds_toArray, List.set_cons_zero, List.set_cons_succ, List.getElem_toArray, List.getElem_cons_zero, List.getElem_cons_succ]
  refine wpAnyH_take (i := 3) (v := ?_) rfl (by kernel_rfl) (by kernel_rfl) (by kernel_rfl) (fun _ _ _ h => h) (Or.inl ⟨by kernel_rfl, ?_⟩) (by assumption) ?_
  rotate_left
  · (intro w hSw; (try dsimp only at hSw); go_simp)
    try (with_reducible rfl)
  rotate_left
  try simp (maxSteps := 4000000) only [Act.put, List.setIfInBounds_toArray, List.set_cons_zero, List.set_cons_succ, List.getElem_toArray, List.getElem_cons_zero, List.getElem_cons_succ]
  refine wpAnyH_take (i := 4) (v := ?_) rfl (by kernel_rfl) (by kernel_rfl) (by kernel_rfl) (fun _ _ _ h => h) (Or.inl ⟨by kernel_rfl, ?_⟩) (by assumption) ?_
  rotate_left
  · (intro w hSw; (try dsimp only at hSw); go_simp)
    try (with_reducible rfl)
  rotate_left
  try simp (maxSteps := 4000000) only [Act.put, List.setIfInBounds_toArray, List.set_cons_zero, List.set_cons_succ, List.getElem_toArray, List.getElem_cons_zero, List.getElem_cons_succ]
  refine wpAnyH_take (i := 5) (v := ?_) rfl (by kernel_rfl) (by kernel_rfl) (by kernel_rfl) (fun _ _ _ h => h) (Or.inl ⟨by kernel_rfl, ?_⟩) (by assumption) ?_
  rotate_left
  · (intro w hSw; (try dsimp only at hSw); go_simp)
    try (with_reducible rfl)
  rotate_left
  try simp (maxSteps := 4000000) only [Act.put, List.setIfInBounds_toArray, List.set_cons_zero, List.set_cons_succ, List.getElem_toArray, List.getElem_cons_zero, List.getElem_cons_succ]
  refine wpAnyH_take (i := 6) (v := ?_) rfl (by kernel_rfl) (by kernel_rfl) (by kernel_rfl) (fun _ _ _ h => h) (Or.inl ⟨by kernel_rfl, ?_⟩) (by assumption) ?_
  rotate_left
  · (intro w hSw; (try dsimp only at hSw); go_simp)
    try (with_reducible rfl)
  rotate_left
  try simp (maxSteps := 4000000) only [Act.put, List.setIfInBounds_toArray, List.set_cons_zero, List.set_cons_succ, List.getElem_toArray, List.getElem_cons_zero, List.getElem_cons_succ]
  refine wpAnyH_take (i := 7) (v := ?_) rfl (by kernel_rfl) (by kernel_rfl) (by kernel_rfl) (fun _ _ _ h => h) (Or.inl ⟨by kernel_rfl, ?_⟩) (by assumption) ?_
  rotate_left
  · (intro w hSw; (try dsimp only at hSw); go_simp)
    try (with_reducible rfl)
  rotate_left
  try simp (maxSteps := 4000000) only [Act.put, List.setIfInBounds_toArray, List.set_cons_zero, List.set_cons_succ, List.getElem_toArray, List.getElem_cons_zero, List.getElem_cons_succ]
  refine wpAnyH_take (i := 8) (v := ?_) rfl (by kernel_rfl) (by kernel_rfl) (by kernel_rfl) (fun _ _ _ h => h) (Or.inl ⟨by kernel_rfl, ?_⟩) (by assumption) ?_
  rotate_left
  · (intro w hSw; (try dsimp only at hSw); go_simp)
    try (with_reducible rfl)
  rotate_left
  try simp (maxSteps := 4000000) only [Act.put, List.setIfInBounds_toArray, List.set_cons_zero, List.set_cons_succ, List.getElem_toArray, List.getElem_cons_zero, List.getElem_cons_succ]
  refine wpAnyH_take (i := 9) (v := ?_) rfl (by kernel_rfl) (by kernel_rfl) (by kernel_rfl) (fun _ _ _ h => h) (Or.inl ⟨by kernel_rfl, ?_⟩) (by assumption) ?_
  rotate_left
  · (intro w hSw; (try dsimp only at hSw); go_simp)
    try (with_reducible rfl)
  rotate_left
  try simp (maxSteps := 4000000) only [Act.put, List.setIfInBounds_toArray, List.set_cons_zero, List.set_cons_succ, List.getElem_toArray, List.getElem_cons_zero, List.getElem_cons_succ]
  refine wpAnyH_take (i := 10) (v := ?_) rfl (by kernel_rfl) (by kernel_rfl) (by kernel_rfl) (fun _ _ _ h => h) (Or.inl ⟨by kernel_rfl, ?_⟩) (by assumption) ?_
  rotate_left
  · (intro w hSw; (try dsimp only at hSw); go_simp)
    try (with_reducible rfl)
  rotate_left
  try simp (maxSteps := 4000000) only [Act.put, List.setIfInBounds_toArray, List.set_cons_zero, List.set_cons_succ, List.getElem_toArray, List.getElem_cons_zero, List.getElem_cons_succ]
  refine wpAnyH_take (i := 11) (v := ?_) rfl (by kernel_rfl) (by kernel_rfl) (by kernel_rfl) (fun _ _ _ h => h) (Or.inl ⟨by kernel_rfl, ?_⟩) (by assumption) ?_
  rotate_left
  · (intro w hSw; (try dsimp only at hSw); go_simp)
    try (with_reducible rfl)
  rotate_left
  try simp (maxSteps := 4000000) only [Act.put, List.setIfInBounds_toArray, List.set_cons_zero, List.set_cons_succ, List.getElem_toArray, List.getElem_cons_zero, List.getElem_cons_succ]
  refine wpAnyH_ready (rs := [12]) (by kernel_rfl) (by simp) ?_
  refine AllReadyH.cons rfl (fun K2 hK2 => ?_) AllReadyH.nil
  go_simp
  with_reducible refine Calls.mono (sputall lo hi s _ P c x n ws (by exact HS5.out.keep (Nat.le_refl _) (fun _ _ _ => rfl)) HC2.out) ?_
  rintro e w2 ⟨rfl, hs2, ho2⟩
  rw [HJ.out] at hs2
  have ho9 : Hid (Only lo hi W5 w2) := Lib.hid ((show Only lo hi W5 _ from ⟨below_drewN (Below.refl _ _) _, rfl, fun _ _ => rfl⟩).trans ho2)
  have HO : Hid (Only lo hi W w2) := Lib.hid (HO5.out.trans ho9.out)
  have HG : Hid (GpAt lo hi s g w2 F P (c + (putN ws x.toNat n.toNat).2) (putN ws x.toNat n.toNat).1) := Lib.hid (H.out.only HO.out hs2 (by have := HBD.out; have := HC.out; have := HC3.out; omega))
  clear hs2 ho2
  refine hK2.out _ _ ?_ (fun hHeld2 => ?_)
  · have hgg : w2.heap[g]? = W5.heap[g]? := by
      have h9 := HG5.out.2.1
      have h8 := ho9.out
      rcases h9 with h7 | h7
      · exact h8.1.block g h7
      · exact h8.2.2 g h7
    exact ⟨(World.cell?_of_block hgg).trans g3, (World.cell?_of_block hgg).trans g5⟩
  clear hK2 K2 hHeld
  have hHeld := hHeld2
  clear hHeld2
  try simp (maxSteps := 4000000) only [Act.put, List.setIfInBounds_toArray, List.set_cons_zero, List.set_cons_succ]
  refine wpAnyH_done (by kernel_rfl) ?_ _
  go_wp2
  go_ret
  exact ⟨rfl, HG.out, HO.out⟩
end Go.Proofs.YtjblgamngnnccaaDoor
