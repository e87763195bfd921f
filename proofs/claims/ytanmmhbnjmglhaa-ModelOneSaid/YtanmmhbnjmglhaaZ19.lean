/- MoM. -/
import Derived.Test.YtanmmhbnjmglhaaZ18
import Derived.Deep.RegionHeld3
namespace Go.Proofs.Ytanmmhbnjmglhaa
set_option maxRecDepth 100000
open Go.RowKit Go.ChangeMaps Go.MapKept
set_option linter.unusedVariables false
set_option linter.unusedSimpArgs false
section
variable {m mb r : Nat} {C : Cf} {md : Nat} {rs : List Rf} {W : World}
set_option maxHeartbeats 1000000 in
theorem mdo_refused (k : Int) (t a b v n mm : Int) (P : Option Addr) (ln cp : Nat) (full : Bool) (E : Int) (hE : E ≠ 0) (HK : ∀ W : World, Calls Try.prog 20 #[opv k t a b v n mm P ln cp, .int .i64 (rs.length : Int)] W fun e w' => e = .returned (.int .i64 E) ∧ Below W.heap.size W w') (h : MO m mb r C md [] rs W) : Calls Try.prog 10 #[.pointer (some ⟨m, 0, none⟩), opv k t a b v n mm P ln cp, .bool full] W fun e w' => e = .returned (.agg #[rE E, .int .i64 0, .slice none 0 0]) ∧ Below W.heap.size W w' := by
  have hmm := h.mp.lt
  have hr := h.lt.2.1
  have H := Lib.hid h
  have hm := h.lt.1
  clear h
  have HKR := Lib.hid HK
  clear HK
  go_enter Try.func10, Try.ntmps10
  go_upto_region 3 with (fail)
  obtain ⟨wa, hwa⟩ : ∃ wa, (W.alloc (.cells #[.int .i64 k, .int .i64 t, .int .i64 a, .int .i64 b, .int .i64 v, .int .i64 n, .int .i64 mm, .slice P ln cp] 41)).alloc (.cells #[.int .i64 0, .int .i64 0, .slice none 0 0] 39) = wa := ⟨_, rfl⟩
  have hba : Below W.heap.size W wa := by rw [← hwa]; exact alc (alc0 _ _) _
  have hoc : OC W.heap.size k t a b v n mm P ln cp wa := by rw [← hwa]; exact (oc_new W _).block ((alc0 _ _).block _ (by simp))
  have hrc : RC (W.heap.size + 1) wa := by
    rw [← hwa]
    have h9 := rc_new (W.alloc (.cells #[.int .i64 k, .int .i64 t, .int .i64 a, .int .i64 b, .int .i64 v, .int .i64 n, .int .i64 mm, .slice P ln cp] 41)) 39
    rwa [World.size_alloc] at h9
  have hsa : wa.heap.size = W.heap.size + 2 := by rw [← hwa]; simp
  rw [hwa]
  clear hwa
  obtain ⟨x0, x1, x2, x3, x4, x5, x6, x7⟩ := hoc
  have HRC := Lib.hid hrc
  have HBA := Lib.hid hba
  have HMA := Lib.hid (H.out.below hba)
  clear hrc hba
  refine wp_region_held_drew (S := fun w' => w'.cell? ⟨W.heap.size, 0, none⟩ = some (.int .i64 k) ∧ w'.cell? ⟨W.heap.size, 1, none⟩ = some (.int .i64 t) ∧ w'.cell? ⟨W.heap.size, 2, none⟩ = some (.int .i64 a) ∧ w'.cell? ⟨W.heap.size, 3, none⟩ = some (.int .i64 b) ∧ w'.cell? ⟨W.heap.size, 4, none⟩ = some (.int .i64 v) ∧ w'.cell? ⟨W.heap.size, 5, none⟩ = some (.int .i64 n) ∧ w'.cell? ⟨W.heap.size, 6, none⟩ = some (.int .i64 mm) ∧ w'.cell? ⟨W.heap.size, 7, none⟩ = some (.slice P ln cp)) (by kernel_rfl) ?_ (fun hHeld => ?_)
  · exact ⟨x0, x1, x2, x3, x4, x5, x6, x7⟩
  refine wpAnyH_take (i := 0) (v := ?_) rfl (by kernel_rfl) (by kernel_rfl) (by kernel_rfl) (fun _ _ _ h => h) (Or.inl ⟨by kernel_rfl, ?_⟩) (by assumption) ?_
  rotate_left
  · (intro w hSw; (try dsimp only at hSw); go_simp)
    try (with_reducible rfl)
  rotate_left
  try simp (maxSteps := 4000000) only [Act.put, List.setIfInBounds_toArray, List.set_cons_zero, List.set_cons_succ, List.getElem_toArray, List.getElem_cons_zero, List.getElem_cons_succ]
  refine wpAnyH_take (i := 1) (v := ?_) rfl (by kernel_rfl) (by kernel_rfl) (by kernel_rfl) (fun _ _ _ h => h) (Or.inl ⟨by kernel_rfl, ?_⟩) (by assumption) ?_
  rotate_left
  · (intro w hSw; (try dsimp only at hSw); go_simp)
    try (with_reducible rfl)
  rotate_left
  try simp (maxSteps := 4000000) only [Act.put, List.setIfInBounds_toArray, List.set_cons_zero, List.set_cons_succ, List.getElem_toArray, List.getElem_cons_zero, List.getElem_cons_succ]
  refine wpAnyH_ready (rs := [2]) (by kernel_rfl) (by simp) ?_
  refine AllReadyH.cons rfl (fun K2 hK2 => ?_) AllReadyH.nil
  go_simp
  with_reducible refine Calls.mono (mregs (HMA.out.below (Below.refl _ wa).drew)) ?_
  rintro e w3 ⟨rfl, hw3⟩
  have hk9 : ∀ q : Nat, q < wa.heap.size → w3.heap[q]? = wa.heap[q]? := fun q hq => by rw [← hw3]; exact (Below.refl _ wa).drew.block q hq
  have hs3 : w3.heap.size = wa.heap.size := by rw [← hw3]; rfl
  have HB3 := Lib.hid (show Below W.heap.size W w3 from by rw [← hw3]; exact HBA.out.drew)
  have HR3 := Lib.hid (HRC.out.block (hk9 (W.heap.size + 1) (by omega)))
  have s1 : w3.cell? ⟨W.heap.size, 0, none⟩ = some (.int .i64 k) ∧ w3.cell? ⟨W.heap.size, 1, none⟩ = some (.int .i64 t) ∧ w3.cell? ⟨W.heap.size, 2, none⟩ = some (.int .i64 a) ∧ w3.cell? ⟨W.heap.size, 3, none⟩ = some (.int .i64 b) ∧ w3.cell? ⟨W.heap.size, 4, none⟩ = some (.int .i64 v) ∧ w3.cell? ⟨W.heap.size, 5, none⟩ = some (.int .i64 n) ∧ w3.cell? ⟨W.heap.size, 6, none⟩ = some (.int .i64 mm) ∧ w3.cell? ⟨W.heap.size, 7, none⟩ = some (.slice P ln cp) := ⟨(World.cell?_of_block (hk9 W.heap.size (by omega))).trans x0, (World.cell?_of_block (hk9 W.heap.size (by omega))).trans x1, (World.cell?_of_block (hk9 W.heap.size (by omega))).trans x2, (World.cell?_of_block (hk9 W.heap.size (by omega))).trans x3, (World.cell?_of_block (hk9 W.heap.size (by omega))).trans x4, (World.cell?_of_block (hk9 W.heap.size (by omega))).trans x5, (World.cell?_of_block (hk9 W.heap.size (by omega))).trans x6, (World.cell?_of_block (hk9 W.heap.size (by omega))).trans x7⟩
  clear hk9 hw3
  refine hK2.out _ _ (s1) (fun hHeld2 => ?_)
  clear hK2 K2 hHeld
  have hHeld := hHeld2
  clear hHeld2
  try simp (maxSteps := 4000000) only [Act.put, List.setIfInBounds_toArray, List.set_cons_zero, List.set_cons_succ]
  refine wpAnyH_ready (rs := [3]) (by kernel_rfl) (by simp) ?_
  refine AllReadyH.cons rfl (fun K2 hK2 => ?_) AllReadyH.nil
  go_simp
  with_reducible refine Calls.mono (HKR.out _) ?_
  rintro e w4 ⟨rfl, hb4⟩
  have hs4 : w3.heap.size ≤ w4.heap.size := hb4.size
  have s4 : w4.cell? ⟨W.heap.size, 0, none⟩ = some (.int .i64 k) ∧ w4.cell? ⟨W.heap.size, 1, none⟩ = some (.int .i64 t) ∧ w4.cell? ⟨W.heap.size, 2, none⟩ = some (.int .i64 a) ∧ w4.cell? ⟨W.heap.size, 3, none⟩ = some (.int .i64 b) ∧ w4.cell? ⟨W.heap.size, 4, none⟩ = some (.int .i64 v) ∧ w4.cell? ⟨W.heap.size, 5, none⟩ = some (.int .i64 n) ∧ w4.cell? ⟨W.heap.size, 6, none⟩ = some (.int .i64 mm) ∧ w4.cell? ⟨W.heap.size, 7, none⟩ = some (.slice P ln cp) := ⟨(World.cell?_of_block (hb4.block W.heap.size (by omega))).trans s1.1, (World.cell?_of_block (hb4.block W.heap.size (by omega))).trans s1.2.1, (World.cell?_of_block (hb4.block W.heap.size (by omega))).trans s1.2.2.1, (World.cell?_of_block (hb4.block W.heap.size (by omega))).trans s1.2.2.2.1, (World.cell?_of_block (hb4.block W.heap.size (by omega))).trans s1.2.2.2.2.1, (World.cell?_of_block (hb4.block W.heap.size (by omega))).trans s1.2.2.2.2.2.1, (World.cell?_of_block (hb4.block W.heap.size (by omega))).trans s1.2.2.2.2.2.2.1, (World.cell?_of_block (hb4.block W.heap.size (by omega))).trans s1.2.2.2.2.2.2.2⟩
  have HR4 := Lib.hid (HR3.out.block (hb4.block (W.heap.size + 1) (by omega)))
  have HB4 := Lib.hid (thn HB3.out hb4)
  clear hb4 x0 x1 x2 x3 x4 x5 x6 x7
  refine hK2.out _ _ (s4) (fun hHeld2 => ?_)
  clear hK2 K2 hHeld
  have hHeld := hHeld2
  clear hHeld2
  try simp (maxSteps := 4000000) only [Act.put, List.setIfInBounds_toArray, List.set_cons_zero, List.set_cons_succ]
  clear s1
  refine wpAnyH_take (i := 4) (v := ?_) rfl (by kernel_rfl) (by kernel_rfl) (by kernel_rfl) (fun _ _ _ h => h) (Or.inl ⟨by kernel_rfl, ?_⟩) (by assumption) ?_
  rotate_left
  · (intro w hSw; (try dsimp only at hSw); go_simp)
    try (with_reducible rfl)
  rotate_left
  try simp (maxSteps := 4000000) only [Act.put, List.setIfInBounds_toArray, List.set_cons_zero, List.set_cons_succ, List.getElem_toArray, List.getElem_cons_zero, List.getElem_cons_succ]
  refine wpAnyH_done (by kernel_rfl) ?_ _
  obtain ⟨⟨u0, u1, u2⟩, u3, u4, u5⟩ := HR4.out
  go_wp2_with fail
  refine bodyPost_ret (v := .agg #[rE E, .int .i64 0, .slice none 0 0]) (by simp [results, Try.results10, go_sem, u0, u1, u2]) rfl ⟨rfl, ?_⟩
  exact HB4.out |>.setCell (p := ⟨W.heap.size + 1, 0, none⟩) (show W.heap.size ≤ W.heap.size + 1 by omega) _ |>.setCell (p := ⟨W.heap.size + 1, 1, none⟩) (show W.heap.size ≤ W.heap.size + 1 by omega) _ |>.setCell (p := ⟨W.heap.size + 1, 2, none⟩) (show W.heap.size ≤ W.heap.size + 1 by omega) _
set_option maxHeartbeats 1000000 in
theorem mdo_quiet (k : Int) (t a b v n mm : Int) (P : Option Addr) (ln cp : Nat) (full : Bool) (HK : ∀ W : World, Calls Try.prog 20 #[opv k t a b v n mm P ln cp, .int .i64 (rs.length : Int)] W fun e w' => e = .returned (.int .i64 0) ∧ Below W.heap.size W w') (HQ : ∀ W : World, Calls Try.prog 21 #[opv k t a b v n mm P ln cp] W fun e w' => e = .returned (.bool true) ∧ Below W.heap.size W w') (h : MO m mb r C md [] rs W) : Calls Try.prog 10 #[.pointer (some ⟨m, 0, none⟩), opv k t a b v n mm P ln cp, .bool full] W fun e w' => e = .returned (.agg #[rE 0, .int .i64 0, .slice none 0 0]) ∧ Below W.heap.size W w' := by
  have hmm := h.mp.lt
  have hr := h.lt.2.1
  have H := Lib.hid h
  have hm := h.lt.1
  clear h
  have HKR := Lib.hid HK
  clear HK
  have HQR := Lib.hid HQ
  clear HQ
  go_enter Try.func10, Try.ntmps10
  go_upto_region 3 with (fail)
  obtain ⟨wa, hwa⟩ : ∃ wa, (W.alloc (.cells #[.int .i64 k, .int .i64 t, .int .i64 a, .int .i64 b, .int .i64 v, .int .i64 n, .int .i64 mm, .slice P ln cp] 41)).alloc (.cells #[.int .i64 0, .int .i64 0, .slice none 0 0] 39) = wa := ⟨_, rfl⟩
  have hba : Below W.heap.size W wa := by rw [← hwa]; exact alc (alc0 _ _) _
  have hoc : OC W.heap.size k t a b v n mm P ln cp wa := by rw [← hwa]; exact (oc_new W _).block ((alc0 _ _).block _ (by simp))
  have hrc : RC (W.heap.size + 1) wa := by
    rw [← hwa]
    have h9 := rc_new (W.alloc (.cells #[.int .i64 k, .int .i64 t, .int .i64 a, .int .i64 b, .int .i64 v, .int .i64 n, .int .i64 mm, .slice P ln cp] 41)) 39
    rwa [World.size_alloc] at h9
  have hsa : wa.heap.size = W.heap.size + 2 := by rw [← hwa]; simp
  rw [hwa]
  clear hwa
  obtain ⟨x0, x1, x2, x3, x4, x5, x6, x7⟩ := hoc
  have HRC := Lib.hid hrc
  have HBA := Lib.hid hba
  have HMA := Lib.hid (H.out.below hba)
  clear hrc hba
  refine wp_region_held_drew (S := fun w' => w'.cell? ⟨W.heap.size, 0, none⟩ = some (.int .i64 k) ∧ w'.cell? ⟨W.heap.size, 1, none⟩ = some (.int .i64 t) ∧ w'.cell? ⟨W.heap.size, 2, none⟩ = some (.int .i64 a) ∧ w'.cell? ⟨W.heap.size, 3, none⟩ = some (.int .i64 b) ∧ w'.cell? ⟨W.heap.size, 4, none⟩ = some (.int .i64 v) ∧ w'.cell? ⟨W.heap.size, 5, none⟩ = some (.int .i64 n) ∧ w'.cell? ⟨W.heap.size, 6, none⟩ = some (.int .i64 mm) ∧ w'.cell? ⟨W.heap.size, 7, none⟩ = some (.slice P ln cp)) (by kernel_rfl) ?_ (fun hHeld => ?_)
  · exact ⟨x0, x1, x2, x3, x4, x5, x6, x7⟩
  refine wpAnyH_take (i := 0) (v := ?_) rfl (by kernel_rfl) (by kernel_rfl) (by kernel_rfl) (fun _ _ _ h => h) (Or.inl ⟨by kernel_rfl, ?_⟩) (by assumption) ?_
  rotate_left
  · (intro w hSw; (try dsimp only at hSw); go_simp)
    try (with_reducible rfl)
  rotate_left
  try simp (maxSteps := 4000000) only [Act.put, List.setIfInBounds_toArray, List.set_cons_zero, List.set_cons_succ, List.getElem_toArray, List.getElem_cons_zero, List.getElem_cons_succ]
  refine wpAnyH_take (i := 1) (v := ?_) rfl (by kernel_rfl) (by kernel_rfl) (by kernel_rfl) (fun _ _ _ h => h) (Or.inl ⟨by kernel_rfl, ?_⟩) (by assumption) ?_
  rotate_left
  · (intro w hSw; (try dsimp only at hSw); go_simp)
    try (with_reducible rfl)
  rotate_left
  try simp (maxSteps := 4000000) only [Act.put, List.setIfInBounds_toArray, List.set_cons_zero, List.set_cons_succ, List.getElem_toArray, List.getElem_cons_zero, List.getElem_cons_succ]
  refine wpAnyH_ready (rs := [2]) (by kernel_rfl) (by simp) ?_
  refine AllReadyH.cons rfl (fun K2 hK2 => ?_) AllReadyH.nil
  go_simp
  with_reducible refine Calls.mono (mregs (HMA.out.below (Below.refl _ wa).drew)) ?_
  rintro e w3 ⟨rfl, hw3⟩
  have hk9 : ∀ q : Nat, q < wa.heap.size → w3.heap[q]? = wa.heap[q]? := fun q hq => by rw [← hw3]; exact (Below.refl _ wa).drew.block q hq
  have hs3 : w3.heap.size = wa.heap.size := by rw [← hw3]; rfl
  have HB3 := Lib.hid (show Below W.heap.size W w3 from by rw [← hw3]; exact HBA.out.drew)
  have HR3 := Lib.hid (HRC.out.block (hk9 (W.heap.size + 1) (by omega)))
  have s1 : w3.cell? ⟨W.heap.size, 0, none⟩ = some (.int .i64 k) ∧ w3.cell? ⟨W.heap.size, 1, none⟩ = some (.int .i64 t) ∧ w3.cell? ⟨W.heap.size, 2, none⟩ = some (.int .i64 a) ∧ w3.cell? ⟨W.heap.size, 3, none⟩ = some (.int .i64 b) ∧ w3.cell? ⟨W.heap.size, 4, none⟩ = some (.int .i64 v) ∧ w3.cell? ⟨W.heap.size, 5, none⟩ = some (.int .i64 n) ∧ w3.cell? ⟨W.heap.size, 6, none⟩ = some (.int .i64 mm) ∧ w3.cell? ⟨W.heap.size, 7, none⟩ = some (.slice P ln cp) := ⟨(World.cell?_of_block (hk9 W.heap.size (by omega))).trans x0, (World.cell?_of_block (hk9 W.heap.size (by omega))).trans x1, (World.cell?_of_block (hk9 W.heap.size (by omega))).trans x2, (World.cell?_of_block (hk9 W.heap.size (by omega))).trans x3, (World.cell?_of_block (hk9 W.heap.size (by omega))).trans x4, (World.cell?_of_block (hk9 W.heap.size (by omega))).trans x5, (World.cell?_of_block (hk9 W.heap.size (by omega))).trans x6, (World.cell?_of_block (hk9 W.heap.size (by omega))).trans x7⟩
  clear hk9 hw3
  refine hK2.out _ _ (s1) (fun hHeld2 => ?_)
  clear hK2 K2 hHeld
  have hHeld := hHeld2
  clear hHeld2
  try simp (maxSteps := 4000000) only [Act.put, List.setIfInBounds_toArray, List.set_cons_zero, List.set_cons_succ]
  refine wpAnyH_ready (rs := [3]) (by kernel_rfl) (by simp) ?_
  refine AllReadyH.cons rfl (fun K2 hK2 => ?_) AllReadyH.nil
  go_simp
  with_reducible refine Calls.mono (HKR.out _) ?_
  rintro e w4 ⟨rfl, hb4⟩
  have hs4 : w3.heap.size ≤ w4.heap.size := hb4.size
  have s4 : w4.cell? ⟨W.heap.size, 0, none⟩ = some (.int .i64 k) ∧ w4.cell? ⟨W.heap.size, 1, none⟩ = some (.int .i64 t) ∧ w4.cell? ⟨W.heap.size, 2, none⟩ = some (.int .i64 a) ∧ w4.cell? ⟨W.heap.size, 3, none⟩ = some (.int .i64 b) ∧ w4.cell? ⟨W.heap.size, 4, none⟩ = some (.int .i64 v) ∧ w4.cell? ⟨W.heap.size, 5, none⟩ = some (.int .i64 n) ∧ w4.cell? ⟨W.heap.size, 6, none⟩ = some (.int .i64 mm) ∧ w4.cell? ⟨W.heap.size, 7, none⟩ = some (.slice P ln cp) := ⟨(World.cell?_of_block (hb4.block W.heap.size (by omega))).trans s1.1, (World.cell?_of_block (hb4.block W.heap.size (by omega))).trans s1.2.1, (World.cell?_of_block (hb4.block W.heap.size (by omega))).trans s1.2.2.1, (World.cell?_of_block (hb4.block W.heap.size (by omega))).trans s1.2.2.2.1, (World.cell?_of_block (hb4.block W.heap.size (by omega))).trans s1.2.2.2.2.1, (World.cell?_of_block (hb4.block W.heap.size (by omega))).trans s1.2.2.2.2.2.1, (World.cell?_of_block (hb4.block W.heap.size (by omega))).trans s1.2.2.2.2.2.2.1, (World.cell?_of_block (hb4.block W.heap.size (by omega))).trans s1.2.2.2.2.2.2.2⟩
  have HR4 := Lib.hid (HR3.out.block (hb4.block (W.heap.size + 1) (by omega)))
  have HB4 := Lib.hid (thn HB3.out hb4)
  clear hb4 x0 x1 x2 x3 x4 x5 x6 x7
  refine hK2.out _ _ (s4) (fun hHeld2 => ?_)
  clear hK2 K2 hHeld
  have hHeld := hHeld2
  clear hHeld2
  try simp (maxSteps := 4000000) only [Act.put, List.setIfInBounds_toArray, List.set_cons_zero, List.set_cons_succ]
  clear s1
  refine wpAnyH_take (i := 4) (v := ?_) rfl (by kernel_rfl) (by kernel_rfl) (by kernel_rfl) (fun _ _ _ h => h) (Or.inl ⟨by kernel_rfl, ?_⟩) (by assumption) ?_
  rotate_left
  · (intro w hSw; (try dsimp only at hSw); go_simp)
    try (with_reducible rfl)
  rotate_left
  try simp (maxSteps := 4000000) only [Act.put, List.setIfInBounds_toArray, List.set_cons_zero, List.set_cons_succ, List.getElem_toArray, List.getElem_cons_zero, List.getElem_cons_succ]
  refine wpAnyH_done (by kernel_rfl) ?_ _
  obtain ⟨x0, x1, x2, x3, x4, x5, x6, x7⟩ := s4
  go_wp2_with fail
  refine (HQR.out _).mono ?_
  rintro e w5 ⟨rfl, hb5⟩
  have hs5 : w4.heap.size ≤ w5.heap.size := hb5.size
  have hx5 : OC W.heap.size k t a b v n mm P ln cp w5 := OC.block (W := w4) ⟨x0, x1, x2, x3, x4, x5, x6, x7⟩ (hb5.block W.heap.size (by omega))
  clear x0 x1 x2 x3 x4 x5 x6 x7
  obtain ⟨x0, x1, x2, x3, x4, x5, x6, x7⟩ := hx5
  have HR5 := Lib.hid (HR4.out.block (hb5.block (W.heap.size + 1) (by omega)))
  have HB5 := Lib.hid (thn HB4.out hb5)
  clear hb5
  obtain ⟨⟨u0, u1, u2⟩, u3, u4, u5⟩ := HR5.out
  go_wp2_with fail
  refine bodyPost_ret (v := .agg #[rE 0, .int .i64 0, .slice none 0 0]) (by simp [results, Try.results10, go_sem, u0, u1, u2]) rfl ⟨rfl, ?_⟩
  exact HB5.out |>.setCell (p := ⟨W.heap.size + 1, 0, none⟩) (show W.heap.size ≤ W.heap.size + 1 by omega) _ |>.setCell (p := ⟨W.heap.size + 1, 1, none⟩) (show W.heap.size ≤ W.heap.size + 1 by omega) _ |>.setCell (p := ⟨W.heap.size + 1, 2, none⟩) (show W.heap.size ≤ W.heap.size + 1 by omega) _
set_option maxHeartbeats 1000000 in
theorem mdo_tell (k : Int) (t a b v n mm : Int) (P : Option Addr) (ln cp : Nat) (full : Bool) (E : Int) (HK : ∀ W : World, Calls Try.prog 20 #[opv k t a b v n mm P ln cp, .int .i64 (rs.length : Int)] W fun e w' => e = .returned (.int .i64 0) ∧ Below W.heap.size W w') (HQ : ∀ W : World, Calls Try.prog 21 #[opv k t a b v n mm P ln cp] W fun e w' => e = .returned (.bool false) ∧ Below W.heap.size W w') (HC : ∀ W : World, Calls Try.prog 22 #[opv k t a b v n mm P ln cp] W fun e w' => e = .returned (.bool false) ∧ Below W.heap.size W w') (HT : ∀ W : World, MO m mb r C md [] rs W → Calls Try.prog 23 #[.pointer (some ⟨m, 0, none⟩), opv k t a b v n mm P ln cp] W fun e w' => e = .returned (.agg #[rE E, .int .i64 0, .slice none 0 0]) ∧ Below W.heap.size W w') (h : MO m mb r C md [] rs W) : Calls Try.prog 10 #[.pointer (some ⟨m, 0, none⟩), opv k t a b v n mm P ln cp, .bool full] W fun e w' => e = .returned (.agg #[rE E, .int .i64 0, .slice none 0 0]) ∧ Below W.heap.size W w' := by
  have hmm := h.mp.lt
  have hr := h.lt.2.1
  have H := Lib.hid h
  have hm := h.lt.1
  clear h
  have HKR := Lib.hid HK
  clear HK
  have HQR := Lib.hid HQ
  clear HQ
  have HCR := Lib.hid HC
  clear HC
  have HTR := Lib.hid HT
  clear HT
  go_enter Try.func10, Try.ntmps10
  go_upto_region 3 with (fail)
  obtain ⟨wa, hwa⟩ : ∃ wa, (W.alloc (.cells #[.int .i64 k, .int .i64 t, .int .i64 a, .int .i64 b, .int .i64 v, .int .i64 n, .int .i64 mm, .slice P ln cp] 41)).alloc (.cells #[.int .i64 0, .int .i64 0, .slice none 0 0] 39) = wa := ⟨_, rfl⟩
  have hba : Below W.heap.size W wa := by rw [← hwa]; exact alc (alc0 _ _) _
  have hoc : OC W.heap.size k t a b v n mm P ln cp wa := by rw [← hwa]; exact (oc_new W _).block ((alc0 _ _).block _ (by simp))
  have hrc : RC (W.heap.size + 1) wa := by
    rw [← hwa]
    have h9 := rc_new (W.alloc (.cells #[.int .i64 k, .int .i64 t, .int .i64 a, .int .i64 b, .int .i64 v, .int .i64 n, .int .i64 mm, .slice P ln cp] 41)) 39
    rwa [World.size_alloc] at h9
  have hsa : wa.heap.size = W.heap.size + 2 := by rw [← hwa]; simp
  rw [hwa]
  clear hwa
  obtain ⟨x0, x1, x2, x3, x4, x5, x6, x7⟩ := hoc
  have HRC := Lib.hid hrc
  have HBA := Lib.hid hba
  have HMA := Lib.hid (H.out.below hba)
  clear hrc hba
  refine wp_region_held_drew (S := fun w' => w'.cell? ⟨W.heap.size, 0, none⟩ = some (.int .i64 k) ∧ w'.cell? ⟨W.heap.size, 1, none⟩ = some (.int .i64 t) ∧ w'.cell? ⟨W.heap.size, 2, none⟩ = some (.int .i64 a) ∧ w'.cell? ⟨W.heap.size, 3, none⟩ = some (.int .i64 b) ∧ w'.cell? ⟨W.heap.size, 4, none⟩ = some (.int .i64 v) ∧ w'.cell? ⟨W.heap.size, 5, none⟩ = some (.int .i64 n) ∧ w'.cell? ⟨W.heap.size, 6, none⟩ = some (.int .i64 mm) ∧ w'.cell? ⟨W.heap.size, 7, none⟩ = some (.slice P ln cp)) (by kernel_rfl) ?_ (fun hHeld => ?_)
  · exact ⟨x0, x1, x2, x3, x4, x5, x6, x7⟩
  refine wpAnyH_take (i := 0) (v := ?_) rfl (by kernel_rfl) (by kernel_rfl) (by kernel_rfl) (fun _ _ _ h => h) (Or.inl ⟨by kernel_rfl, ?_⟩) (by assumption) ?_
  rotate_left
  · (intro w hSw; (try dsimp only at hSw); go_simp)
    try (with_reducible rfl)
  rotate_left
  try simp (maxSteps := 4000000) only [Act.put, List.setIfInBounds_toArray, List.set_cons_zero, List.set_cons_succ, List.getElem_toArray, List.getElem_cons_zero, List.getElem_cons_succ]
  refine wpAnyH_take (i := 1) (v := ?_) rfl (by kernel_rfl) (by kernel_rfl) (by kernel_rfl) (fun _ _ _ h => h) (Or.inl ⟨by kernel_rfl, ?_⟩) (by assumption) ?_
  rotate_left
  · (intro w hSw; (try dsimp only at hSw); go_simp)
    try (with_reducible rfl)
  rotate_left
  try simp (maxSteps := 4000000) only [Act.put, List.setIfInBounds_toArray, List.set_cons_zero, List.set_cons_succ, List.getElem_toArray, List.getElem_cons_zero, List.getElem_cons_succ]
  refine wpAnyH_ready (rs := [2]) (by kernel_rfl) (by simp) ?_
  refine AllReadyH.cons rfl (fun K2 hK2 => ?_) AllReadyH.nil
  go_simp
  with_reducible refine Calls.mono (mregs (HMA.out.below (Below.refl _ wa).drew)) ?_
  rintro e w3 ⟨rfl, hw3⟩
  have hk9 : ∀ q : Nat, q < wa.heap.size → w3.heap[q]? = wa.heap[q]? := fun q hq => by rw [← hw3]; exact (Below.refl _ wa).drew.block q hq
  have hs3 : w3.heap.size = wa.heap.size := by rw [← hw3]; rfl
  have HB3 := Lib.hid (show Below W.heap.size W w3 from by rw [← hw3]; exact HBA.out.drew)
  have HR3 := Lib.hid (HRC.out.block (hk9 (W.heap.size + 1) (by omega)))
  have s1 : w3.cell? ⟨W.heap.size, 0, none⟩ = some (.int .i64 k) ∧ w3.cell? ⟨W.heap.size, 1, none⟩ = some (.int .i64 t) ∧ w3.cell? ⟨W.heap.size, 2, none⟩ = some (.int .i64 a) ∧ w3.cell? ⟨W.heap.size, 3, none⟩ = some (.int .i64 b) ∧ w3.cell? ⟨W.heap.size, 4, none⟩ = some (.int .i64 v) ∧ w3.cell? ⟨W.heap.size, 5, none⟩ = some (.int .i64 n) ∧ w3.cell? ⟨W.heap.size, 6, none⟩ = some (.int .i64 mm) ∧ w3.cell? ⟨W.heap.size, 7, none⟩ = some (.slice P ln cp) := ⟨(World.cell?_of_block (hk9 W.heap.size (by omega))).trans x0, (World.cell?_of_block (hk9 W.heap.size (by omega))).trans x1, (World.cell?_of_block (hk9 W.heap.size (by omega))).trans x2, (World.cell?_of_block (hk9 W.heap.size (by omega))).trans x3, (World.cell?_of_block (hk9 W.heap.size (by omega))).trans x4, (World.cell?_of_block (hk9 W.heap.size (by omega))).trans x5, (World.cell?_of_block (hk9 W.heap.size (by omega))).trans x6, (World.cell?_of_block (hk9 W.heap.size (by omega))).trans x7⟩
  clear hk9 hw3
  refine hK2.out _ _ (s1) (fun hHeld2 => ?_)
  clear hK2 K2 hHeld
  have hHeld := hHeld2
  clear hHeld2
  try simp (maxSteps := 4000000) only [Act.put, List.setIfInBounds_toArray, List.set_cons_zero, List.set_cons_succ]
  refine wpAnyH_ready (rs := [3]) (by kernel_rfl) (by simp) ?_
  refine AllReadyH.cons rfl (fun K2 hK2 => ?_) AllReadyH.nil
  go_simp
  with_reducible refine Calls.mono (HKR.out _) ?_
  rintro e w4 ⟨rfl, hb4⟩
  have hs4 : w3.heap.size ≤ w4.heap.size := hb4.size
  have s4 : w4.cell? ⟨W.heap.size, 0, none⟩ = some (.int .i64 k) ∧ w4.cell? ⟨W.heap.size, 1, none⟩ = some (.int .i64 t) ∧ w4.cell? ⟨W.heap.size, 2, none⟩ = some (.int .i64 a) ∧ w4.cell? ⟨W.heap.size, 3, none⟩ = some (.int .i64 b) ∧ w4.cell? ⟨W.heap.size, 4, none⟩ = some (.int .i64 v) ∧ w4.cell? ⟨W.heap.size, 5, none⟩ = some (.int .i64 n) ∧ w4.cell? ⟨W.heap.size, 6, none⟩ = some (.int .i64 mm) ∧ w4.cell? ⟨W.heap.size, 7, none⟩ = some (.slice P ln cp) := ⟨(World.cell?_of_block (hb4.block W.heap.size (by omega))).trans s1.1, (World.cell?_of_block (hb4.block W.heap.size (by omega))).trans s1.2.1, (World.cell?_of_block (hb4.block W.heap.size (by omega))).trans s1.2.2.1, (World.cell?_of_block (hb4.block W.heap.size (by omega))).trans s1.2.2.2.1, (World.cell?_of_block (hb4.block W.heap.size (by omega))).trans s1.2.2.2.2.1, (World.cell?_of_block (hb4.block W.heap.size (by omega))).trans s1.2.2.2.2.2.1, (World.cell?_of_block (hb4.block W.heap.size (by omega))).trans s1.2.2.2.2.2.2.1, (World.cell?_of_block (hb4.block W.heap.size (by omega))).trans s1.2.2.2.2.2.2.2⟩
  have HR4 := Lib.hid (HR3.out.block (hb4.block (W.heap.size + 1) (by omega)))
  have HB4 := Lib.hid (thn HB3.out hb4)
  clear hb4 x0 x1 x2 x3 x4 x5 x6 x7
  refine hK2.out _ _ (s4) (fun hHeld2 => ?_)
  clear hK2 K2 hHeld
  have hHeld := hHeld2
  clear hHeld2
  try simp (maxSteps := 4000000) only [Act.put, List.setIfInBounds_toArray, List.set_cons_zero, List.set_cons_succ]
  clear s1
  refine wpAnyH_take (i := 4) (v := ?_) rfl (by kernel_rfl) (by kernel_rfl) (by kernel_rfl) (fun _ _ _ h => h) (Or.inl ⟨by kernel_rfl, ?_⟩) (by assumption) ?_
  rotate_left
  · (intro w hSw; (try dsimp only at hSw); go_simp)
    try (with_reducible rfl)
  rotate_left
  try simp (maxSteps := 4000000) only [Act.put, List.setIfInBounds_toArray, List.set_cons_zero, List.set_cons_succ, List.getElem_toArray, List.getElem_cons_zero, List.getElem_cons_succ]
  refine wpAnyH_done (by kernel_rfl) ?_ _
  obtain ⟨x0, x1, x2, x3, x4, x5, x6, x7⟩ := s4
  go_wp2_with fail
  refine (HQR.out _).mono ?_
  rintro e w5 ⟨rfl, hb5⟩
  have hs5 : w4.heap.size ≤ w5.heap.size := hb5.size
  have hx5 : OC W.heap.size k t a b v n mm P ln cp w5 := OC.block (W := w4) ⟨x0, x1, x2, x3, x4, x5, x6, x7⟩ (hb5.block W.heap.size (by omega))
  clear x0 x1 x2 x3 x4 x5 x6 x7
  obtain ⟨x0, x1, x2, x3, x4, x5, x6, x7⟩ := hx5
  have HR5 := Lib.hid (HR4.out.block (hb5.block (W.heap.size + 1) (by omega)))
  have HB5 := Lib.hid (thn HB4.out hb5)
  clear hb5
  go_wp2_with fail
  refine (HCR.out _).mono ?_
  rintro e w6 ⟨rfl, hb6⟩
  have hs6 : w5.heap.size ≤ w6.heap.size := hb6.size
  have hx6 : OC W.heap.size k t a b v n mm P ln cp w6 := OC.block (W := w5) ⟨x0, x1, x2, x3, x4, x5, x6, x7⟩ (hb6.block W.heap.size (by omega))
  clear x0 x1 x2 x3 x4 x5 x6 x7
  obtain ⟨x0, x1, x2, x3, x4, x5, x6, x7⟩ := hx6
  have HR6 := Lib.hid (HR5.out.block (hb6.block (W.heap.size + 1) (by omega)))
  have HB6 := Lib.hid (thn HB5.out hb6)
  clear hb6
  go_wp2_with fail
  refine (HTR.out _ (H.out.below HB6.out)).mono ?_
  rintro e w7 ⟨rfl, hb7⟩
  have hs7 : w6.heap.size ≤ w7.heap.size := hb7.size
  have hx7 : OC W.heap.size k t a b v n mm P ln cp w7 := OC.block (W := w6) ⟨x0, x1, x2, x3, x4, x5, x6, x7⟩ (hb7.block W.heap.size (by omega))
  clear x0 x1 x2 x3 x4 x5 x6 x7
  obtain ⟨x0, x1, x2, x3, x4, x5, x6, x7⟩ := hx7
  have HR7 := Lib.hid (HR6.out.block (hb7.block (W.heap.size + 1) (by omega)))
  have HB7 := Lib.hid (thn HB6.out hb7)
  clear hb7
  obtain ⟨⟨u0, u1, u2⟩, u3, u4, u5⟩ := HR7.out
  go_wp2_with fail
  refine bodyPost_ret (v := .agg #[rE E, .int .i64 0, .slice none 0 0]) (by simp [results, Try.results10, go_sem, u0, u1, u2]) rfl ⟨rfl, ?_⟩
  exact HB7.out |>.setCell (p := ⟨W.heap.size + 1, 0, none⟩) (show W.heap.size ≤ W.heap.size + 1 by omega) _ |>.setCell (p := ⟨W.heap.size + 1, 1, none⟩) (show W.heap.size ≤ W.heap.size + 1 by omega) _ |>.setCell (p := ⟨W.heap.size + 1, 2, none⟩) (show W.heap.size ≤ W.heap.size + 1 by omega) _
set_option maxHeartbeats 1000000 in
theorem mdo_err (k : Int) (t a b v n mm : Int) (P : Option Addr) (ln cp : Nat) (full : Bool) (E : Int) (hE : E ≠ 0) (HK : ∀ W : World, Calls Try.prog 20 #[opv k t a b v n mm P ln cp, .int .i64 (rs.length : Int)] W fun e w' => e = .returned (.int .i64 0) ∧ Below W.heap.size W w') (HQ : ∀ W : World, Calls Try.prog 21 #[opv k t a b v n mm P ln cp] W fun e w' => e = .returned (.bool false) ∧ Below W.heap.size W w') (HC : ∀ W : World, Calls Try.prog 22 #[opv k t a b v n mm P ln cp] W fun e w' => e = .returned (.bool true) ∧ Below W.heap.size W w') (HT : ∀ W : World, MO m mb r C md [] rs W → Calls Try.prog 24 #[.pointer (some ⟨m, 0, none⟩), opv k t a b v n mm P ln cp, .bool full] W fun e w' => e = .returned (.tuple #[z5, rE E]) ∧ Below W.heap.size W w') (h : MO m mb r C md [] rs W) : Calls Try.prog 10 #[.pointer (some ⟨m, 0, none⟩), opv k t a b v n mm P ln cp, .bool full] W fun e w' => e = .returned (.agg #[rE E, .int .i64 0, .slice none 0 0]) ∧ Below W.heap.size W w' := by
  have hmm := h.mp.lt
  have hr := h.lt.2.1
  have H := Lib.hid h
  have hm := h.lt.1
  clear h
  have HKR := Lib.hid HK
  clear HK
  have HQR := Lib.hid HQ
  clear HQ
  have HCR := Lib.hid HC
  clear HC
  have HTR := Lib.hid HT
  clear HT
  go_enter Try.func10, Try.ntmps10
  go_upto_region 3 with (fail)
  obtain ⟨wa, hwa⟩ : ∃ wa, (W.alloc (.cells #[.int .i64 k, .int .i64 t, .int .i64 a, .int .i64 b, .int .i64 v, .int .i64 n, .int .i64 mm, .slice P ln cp] 41)).alloc (.cells #[.int .i64 0, .int .i64 0, .slice none 0 0] 39) = wa := ⟨_, rfl⟩
  have hba : Below W.heap.size W wa := by rw [← hwa]; exact alc (alc0 _ _) _
  have hoc : OC W.heap.size k t a b v n mm P ln cp wa := by rw [← hwa]; exact (oc_new W _).block ((alc0 _ _).block _ (by simp))
  have hrc : RC (W.heap.size + 1) wa := by
    rw [← hwa]
    have h9 := rc_new (W.alloc (.cells #[.int .i64 k, .int .i64 t, .int .i64 a, .int .i64 b, .int .i64 v, .int .i64 n, .int .i64 mm, .slice P ln cp] 41)) 39
    rwa [World.size_alloc] at h9
  have hsa : wa.heap.size = W.heap.size + 2 := by rw [← hwa]; simp
  rw [hwa]
  clear hwa
  obtain ⟨x0, x1, x2, x3, x4, x5, x6, x7⟩ := hoc
  have HRC := Lib.hid hrc
  have HBA := Lib.hid hba
  have HMA := Lib.hid (H.out.below hba)
  clear hrc hba
  refine wp_region_held_drew (S := fun w' => w'.cell? ⟨W.heap.size, 0, none⟩ = some (.int .i64 k) ∧ w'.cell? ⟨W.heap.size, 1, none⟩ = some (.int .i64 t) ∧ w'.cell? ⟨W.heap.size, 2, none⟩ = some (.int .i64 a) ∧ w'.cell? ⟨W.heap.size, 3, none⟩ = some (.int .i64 b) ∧ w'.cell? ⟨W.heap.size, 4, none⟩ = some (.int .i64 v) ∧ w'.cell? ⟨W.heap.size, 5, none⟩ = some (.int .i64 n) ∧ w'.cell? ⟨W.heap.size, 6, none⟩ = some (.int .i64 mm) ∧ w'.cell? ⟨W.heap.size, 7, none⟩ = some (.slice P ln cp)) (by kernel_rfl) ?_ (fun hHeld => ?_)
  · exact ⟨x0, x1, x2, x3, x4, x5, x6, x7⟩
  refine wpAnyH_take (i := 0) (v := ?_) rfl (by kernel_rfl) (by kernel_rfl) (by kernel_rfl) (fun _ _ _ h => h) (Or.inl ⟨by kernel_rfl, ?_⟩) (by assumption) ?_
  rotate_left
  · (intro w hSw; (try dsimp only at hSw); go_simp)
    try (with_reducible rfl)
  rotate_left
  try simp (maxSteps := 4000000) only [Act.put, List.setIfInBounds_toArray, List.set_cons_zero, List.set_cons_succ, List.getElem_toArray, List.getElem_cons_zero, List.getElem_cons_succ]
  refine wpAnyH_take (i := 1) (v := ?_) rfl (by kernel_rfl) (by kernel_rfl) (by kernel_rfl) (fun _ _ _ h => h) (Or.inl ⟨by kernel_rfl, ?_⟩) (by assumption) ?_
  rotate_left
  · (intro w hSw; (try dsimp only at hSw); go_simp)
    try (with_reducible rfl)
  rotate_left
  try simp (maxSteps := 4000000) only [Act.put, List.setIfInBounds_toArray, List.set_cons_zero, List.set_cons_succ, List.getElem_toArray, List.getElem_cons_zero, List.getElem_cons_succ]
  refine wpAnyH_ready (rs := [2]) (by kernel_rfl) (by simp) ?_
  refine AllReadyH.cons rfl (fun K2 hK2 => ?_) AllReadyH.nil
  go_simp
  with_reducible refine Calls.mono (mregs (HMA.out.below (Below.refl _ wa).drew)) ?_
  rintro e w3 ⟨rfl, hw3⟩
  have hk9 : ∀ q : Nat, q < wa.heap.size → w3.heap[q]? = wa.heap[q]? := fun q hq => by rw [← hw3]; exact (Below.refl _ wa).drew.block q hq
  have hs3 : w3.heap.size = wa.heap.size := by rw [← hw3]; rfl
  have HB3 := Lib.hid (show Below W.heap.size W w3 from by rw [← hw3]; exact HBA.out.drew)
  have HR3 := Lib.hid (HRC.out.block (hk9 (W.heap.size + 1) (by omega)))
  have s1 : w3.cell? ⟨W.heap.size, 0, none⟩ = some (.int .i64 k) ∧ w3.cell? ⟨W.heap.size, 1, none⟩ = some (.int .i64 t) ∧ w3.cell? ⟨W.heap.size, 2, none⟩ = some (.int .i64 a) ∧ w3.cell? ⟨W.heap.size, 3, none⟩ = some (.int .i64 b) ∧ w3.cell? ⟨W.heap.size, 4, none⟩ = some (.int .i64 v) ∧ w3.cell? ⟨W.heap.size, 5, none⟩ = some (.int .i64 n) ∧ w3.cell? ⟨W.heap.size, 6, none⟩ = some (.int .i64 mm) ∧ w3.cell? ⟨W.heap.size, 7, none⟩ = some (.slice P ln cp) := ⟨(World.cell?_of_block (hk9 W.heap.size (by omega))).trans x0, (World.cell?_of_block (hk9 W.heap.size (by omega))).trans x1, (World.cell?_of_block (hk9 W.heap.size (by omega))).trans x2, (World.cell?_of_block (hk9 W.heap.size (by omega))).trans x3, (World.cell?_of_block (hk9 W.heap.size (by omega))).trans x4, (World.cell?_of_block (hk9 W.heap.size (by omega))).trans x5, (World.cell?_of_block (hk9 W.heap.size (by omega))).trans x6, (World.cell?_of_block (hk9 W.heap.size (by omega))).trans x7⟩
  clear hk9 hw3
  refine hK2.out _ _ (s1) (fun hHeld2 => ?_)
  clear hK2 K2 hHeld
  have hHeld := hHeld2
  clear hHeld2
  try simp (maxSteps := 4000000) only [Act.put, List.setIfInBounds_toArray, List.set_cons_zero, List.set_cons_succ]
  refine wpAnyH_ready (rs := [3]) (by kernel_rfl) (by simp) ?_
  refine AllReadyH.cons rfl (fun K2 hK2 => ?_) AllReadyH.nil
  go_simp
  with_reducible refine Calls.mono (HKR.out _) ?_
  rintro e w4 ⟨rfl, hb4⟩
  have hs4 : w3.heap.size ≤ w4.heap.size := hb4.size
  have s4 : w4.cell? ⟨W.heap.size, 0, none⟩ = some (.int .i64 k) ∧ w4.cell? ⟨W.heap.size, 1, none⟩ = some (.int .i64 t) ∧ w4.cell? ⟨W.heap.size, 2, none⟩ = some (.int .i64 a) ∧ w4.cell? ⟨W.heap.size, 3, none⟩ = some (.int .i64 b) ∧ w4.cell? ⟨W.heap.size, 4, none⟩ = some (.int .i64 v) ∧ w4.cell? ⟨W.heap.size, 5, none⟩ = some (.int .i64 n) ∧ w4.cell? ⟨W.heap.size, 6, none⟩ = some (.int .i64 mm) ∧ w4.cell? ⟨W.heap.size, 7, none⟩ = some (.slice P ln cp) := ⟨(World.cell?_of_block (hb4.block W.heap.size (by omega))).trans s1.1, (World.cell?_of_block (hb4.block W.heap.size (by omega))).trans s1.2.1, (World.cell?_of_block (hb4.block W.heap.size (by omega))).trans s1.2.2.1, (World.cell?_of_block (hb4.block W.heap.size (by omega))).trans s1.2.2.2.1, (World.cell?_of_block (hb4.block W.heap.size (by omega))).trans s1.2.2.2.2.1, (World.cell?_of_block (hb4.block W.heap.size (by omega))).trans s1.2.2.2.2.2.1, (World.cell?_of_block (hb4.block W.heap.size (by omega))).trans s1.2.2.2.2.2.2.1, (World.cell?_of_block (hb4.block W.heap.size (by omega))).trans s1.2.2.2.2.2.2.2⟩
  have HR4 := Lib.hid (HR3.out.block (hb4.block (W.heap.size + 1) (by omega)))
  have HB4 := Lib.hid (thn HB3.out hb4)
  clear hb4 x0 x1 x2 x3 x4 x5 x6 x7
  refine hK2.out _ _ (s4) (fun hHeld2 => ?_)
  clear hK2 K2 hHeld
  have hHeld := hHeld2
  clear hHeld2
  try simp (maxSteps := 4000000) only [Act.put, List.setIfInBounds_toArray, List.set_cons_zero, List.set_cons_succ]
  clear s1
  refine wpAnyH_take (i := 4) (v := ?_) rfl (by kernel_rfl) (by kernel_rfl) (by kernel_rfl) (fun _ _ _ h => h) (Or.inl ⟨by kernel_rfl, ?_⟩) (by assumption) ?_
  rotate_left
  · (intro w hSw; (try dsimp only at hSw); go_simp)
    try (with_reducible rfl)
  rotate_left
  try simp (maxSteps := 4000000) only [Act.put, List.setIfInBounds_toArray, List.set_cons_zero, List.set_cons_succ, List.getElem_toArray, List.getElem_cons_zero, List.getElem_cons_succ]
  refine wpAnyH_done (by kernel_rfl) ?_ _
  obtain ⟨x0, x1, x2, x3, x4, x5, x6, x7⟩ := s4
  go_wp2_with fail
  refine (HQR.out _).mono ?_
  rintro e w5 ⟨rfl, hb5⟩
  have hs5 : w4.heap.size ≤ w5.heap.size := hb5.size
  have hx5 : OC W.heap.size k t a b v n mm P ln cp w5 := OC.block (W := w4) ⟨x0, x1, x2, x3, x4, x5, x6, x7⟩ (hb5.block W.heap.size (by omega))
  clear x0 x1 x2 x3 x4 x5 x6 x7
  obtain ⟨x0, x1, x2, x3, x4, x5, x6, x7⟩ := hx5
  have HR5 := Lib.hid (HR4.out.block (hb5.block (W.heap.size + 1) (by omega)))
  have HB5 := Lib.hid (thn HB4.out hb5)
  clear hb5
  go_wp2_with fail
  refine (HCR.out _).mono ?_
  rintro e w6 ⟨rfl, hb6⟩
  have hs6 : w5.heap.size ≤ w6.heap.size := hb6.size
  have hx6 : OC W.heap.size k t a b v n mm P ln cp w6 := OC.block (W := w5) ⟨x0, x1, x2, x3, x4, x5, x6, x7⟩ (hb6.block W.heap.size (by omega))
  clear x0 x1 x2 x3 x4 x5 x6 x7
  obtain ⟨x0, x1, x2, x3, x4, x5, x6, x7⟩ := hx6
  have HR6 := Lib.hid (HR5.out.block (hb6.block (W.heap.size + 1) (by omega)))
  have HB6 := Lib.hid (thn HB5.out hb6)
  clear hb6
  go_wp2_with fail
  refine (HTR.out _ (H.out.below HB6.out)).mono ?_
  rintro e w7 ⟨rfl, hb7⟩
  have hs7 : w6.heap.size ≤ w7.heap.size := hb7.size
  have hx7 : OC W.heap.size k t a b v n mm P ln cp w7 := OC.block (W := w6) ⟨x0, x1, x2, x3, x4, x5, x6, x7⟩ (hb7.block W.heap.size (by omega))
  clear x0 x1 x2 x3 x4 x5 x6 x7
  obtain ⟨x0, x1, x2, x3, x4, x5, x6, x7⟩ := hx7
  have HR7 := Lib.hid (HR6.out.block (hb7.block (W.heap.size + 1) (by omega)))
  have HB7 := Lib.hid (thn HB6.out hb7)
  clear hb7
  go_upto_region 11 with (fail)
  obtain ⟨wb, hwb⟩ : ∃ wb, w7.alloc (.cells #[.int .i64 0, .int .i64 0, .int .i64 0, .int .i64 0, .int .i64 0] 52) = wb := ⟨_, rfl⟩
  have hb8 : Below w7.heap.size w7 wb := by rw [← hwb]; exact alc0 _ _
  rw [hwb]
  have HR8 := Lib.hid (HR7.out.block (hb8.block (W.heap.size + 1) (by omega)))
  have HB8 := Lib.hid (thn HB7.out hb8)
  clear hb8 hwb
  obtain ⟨⟨u0, u1, u2⟩, u3, u4, u5⟩ := HR8.out
  go_wp2_with fail
  refine bodyPost_ret (v := .agg #[rE E, .int .i64 0, .slice none 0 0]) (by simp [results, Try.results10, go_sem, u0, u1, u2]) rfl ⟨rfl, ?_⟩
  exact HB8.out |>.setCell (p := ⟨W.heap.size + 1, 0, none⟩) (show W.heap.size ≤ W.heap.size + 1 by omega) _ |>.setCell (p := ⟨W.heap.size + 1, 1, none⟩) (show W.heap.size ≤ W.heap.size + 1 by omega) _ |>.setCell (p := ⟨W.heap.size + 1, 2, none⟩) (show W.heap.size ≤ W.heap.size + 1 by omega) _
end
end Go.Proofs.Ytanmmhbnjmglhaa
