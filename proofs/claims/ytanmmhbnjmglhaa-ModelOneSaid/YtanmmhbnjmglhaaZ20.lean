/- MoN. -/
import Derived.Test.YtanmmhbnjmglhaaZ19
import Derived.Deep.RegionHeld3
namespace Go.Proofs.Ytanmmhbnjmglhaa
set_option maxRecDepth 100000
open Go.RowKit Go.ChangeMaps Go.MapKept
set_option linter.unusedVariables false
set_option linter.unusedSimpArgs false
section
variable {m mb r : Nat} {C : Cf} {md : Nat} {ch : List (Int × Nat)} {rs : List Rf} {W : World}
theorem MO.reg (h : MO m mb r C md ch rs W) (a : Nat) (ha : a < rs.length) (q : Rf) (hq : I64 q.c) (w' : World) (hw : w' = ((((W.setCell ⟨r, a * 5, none⟩ (.int .i64 q.c)).setCell ⟨r, a * 5 + 1, none⟩ (.int .i64 q.o)).setCell ⟨r, a * 5 + 2, none⟩ (.int .i64 q.l)).setCell ⟨r, a * 5 + 3, none⟩ (.int .i64 q.u)).setCell ⟨r, a * 5 + 4, none⟩ (.int .i64 q.p)) :
    MO m mb r C md ch (rs.set a q) w' ∧ w'.heap.size = W.heap.size ∧ (∀ i, i ≠ r → w'.heap[i]? = W.heap[i]?) ∧ ∀ L, L ≤ r → Below L W w' := by
  have hsz : w'.heap.size = W.heap.size := by rw [hw]; simp only [size_set]
  have hk : ∀ i, i ≠ r → w'.heap[i]? = W.heap[i]? := fun i hi => by rw [hw]; simp only [heap_other _ _ _ _ _ hi]
  have hout : ∀ o, (o < a * 5 ∨ a * 5 + 5 ≤ o) → w'.cell? ⟨r, o, none⟩ = W.cell? ⟨r, o, none⟩ := fun o ho => by
    rw [hw, World.cell?_setCell_other _ _ _ _ (by intro e; injection e with _ e2 _; omega), World.cell?_setCell_other _ _ _ _ (by intro e; injection e with _ e2 _; omega), World.cell?_setCell_other _ _ _ _ (by intro e; injection e with _ e2 _; omega), World.cell?_setCell_other _ _ _ _ (by intro e; injection e with _ e2 _; omega), World.cell?_setCell_other _ _ _ _ (by intro e; injection e with _ e2 _; omega)]
  have hfz : ∀ p, w'.frozen? p = W.frozen? p := fun p => by rw [hw]; simp only [World.frozen?_setCell]
  obtain ⟨q0, hq0⟩ : ∃ q0, rs[a]? = some q0 := ⟨rs[a], List.getElem?_eq_getElem ha⟩
  obtain ⟨g0, g1, g2, g3, g4⟩ := h.rg a q0 hq0
  refine ⟨⟨by rw [hsz]; exact h.lt, h.cf.keep (hk m h.lt.2.2.2.1), (World.cell?_of_block (hk m h.lt.2.2.2.1)).trans h.c11, (World.cell?_of_block (hk m h.lt.2.2.2.1)).trans h.c12, ?_, fun o => ⟨(hfz _).trans (h.fz o).1, (hfz _).trans (h.fz o).2⟩, h.mp.keep (hk mb h.lt.2.2.2.2), fun i qi hi => ?_, ?_, fun q' hq' => ?_⟩, hsz, hk, fun L hL => ?_⟩
  · rw [List.length_set]; exact (World.cell?_of_block (hk m h.lt.2.2.2.1)).trans h.c13
  · by_cases hia : i = a
    · subst hia
      have : qi = q := by rw [List.getElem?_set_self ha] at hi; exact (Option.some.inj hi).symm
      subst this
      rw [hw]
      refine ⟨?_, ?_, ?_, ?_, ?_⟩ <;> simp [go_sem, g0, g1, g2, g3, g4]
    · rw [List.getElem?_set_ne (by omega)] at hi
      obtain ⟨f0, f1, f2, f3, f4⟩ := h.rg i qi hi
      have : i < a ∨ a < i := by omega
      exact ⟨(hout _ (by omega)).trans f0, (hout _ (by omega)).trans f1, (hout _ (by omega)).trans f2, (hout _ (by omega)).trans f3, (hout _ (by omega)).trans f4⟩
  · rw [List.length_set]; exact h.ok
  · rcases List.mem_or_eq_of_mem_set hq' with h9 | h9
    · exact h.i64 q' h9
    · rw [h9]; exact hq
  · rw [hw]
    exact (Below.refl L W).setCell (p := ⟨r, a * 5, none⟩) hL _ |>.setCell (p := ⟨r, a * 5 + 1, none⟩) hL _ |>.setCell (p := ⟨r, a * 5 + 2, none⟩) hL _ |>.setCell (p := ⟨r, a * 5 + 3, none⟩) hL _ |>.setCell (p := ⟨r, a * 5 + 4, none⟩) hL _
theorem CkAt.keep {q d kb n : Nat} {f : Int} {W W' : World} (h : CkAt q d kb n f W) (h1 : W'.heap[q]? = W.heap[q]?) (h2 : W'.heap[d]? = W.heap[d]?) : CkAt q d kb n f W' := by
  obtain ⟨⟨R, a, b, c⟩, e⟩ := h
  exact ⟨⟨R, (World.cell?_of_block h1).trans a, (World.cell?_of_block h1).trans b, (World.cell?_of_block h1).trans c⟩, fun i hi => (World.cell?_of_block h2).trans (e i hi)⟩
end
theorem set3 (w : World) (B : Nat) (a b c : Value) : ∀ w'' : World, w'' = ((w.setCell ⟨B, 0, none⟩ a).setCell ⟨B, 1, none⟩ b).setCell ⟨B, 2, none⟩ c → w''.heap.size = w.heap.size ∧ (∀ i, i ≠ B → w''.heap[i]? = w.heap[i]?) ∧ ∀ L, L ≤ B → Below L w w'' := by
  rintro w'' rfl
  refine ⟨by simp only [size_set], fun i hi => by simp only [heap_other _ _ _ _ _ hi], fun L hL => (Below.refl L w).setCell (p := ⟨B, 0, none⟩) hL _ |>.setCell (p := ⟨B, 1, none⟩) hL _ |>.setCell (p := ⟨B, 2, none⟩) hL _⟩
/-- What Do has done where a capability came: of a new chunk, or none. -/
def DG (m mb r : Nat) (C : Cf) (md : Nat) (rs : List Rf) (aN p : Nat) (f : Int) (W w' : World) : Prop :=
  (∃ q d kb, MO m mb r C (md + 1) [((md : Int) + 1, q)] (rs.set aN ⟨(md : Int) + 1, 0, (p : Int), 0, 31⟩) w' ∧ CkAt q d kb p f w' ∧ W.heap.size ≤ q ∧ W.heap.size ≤ d ∧ q < w'.heap.size ∧ d < w'.heap.size) ∧ W.heap.size ≤ w'.heap.size ∧ (∀ i, i < W.heap.size → i ≠ m → i ≠ mb → i ≠ r → w'.heap[i]? = W.heap[i]?) ∧ ∀ L, L ≤ m → L ≤ mb → L ≤ r → L ≤ W.heap.size → Below L W w'
def D0 (m mb r : Nat) (C : Cf) (md : Nat) (rs : List Rf) (aN : Nat) (W w' : World) : Prop :=
  MO m mb r C md [] (rs.set aN ⟨0, 0, 0, 0, 0⟩) w' ∧ W.heap.size ≤ w'.heap.size ∧ (∀ i, i < W.heap.size → i ≠ m → i ≠ mb → i ≠ r → w'.heap[i]? = W.heap[i]?) ∧ ∀ L, L ≤ m → L ≤ mb → L ≤ r → L ≤ W.heap.size → Below L W w'
section
variable {m mb r : Nat} {C : Cf} {md : Nat} {rs : List Rf} {W : World}
set_option maxHeartbeats 1000000 in
theorem mdo_ok (k : Int) (t a b v n mm : Int) (P : Option Addr) (ln cp : Nat) (full : Bool) (p : Nat) (f : Int) (aN : Nat) (hmd9 : md < 1000) (hA : a = (aN : Int)) (ha : aN < rs.length) (HK : ∀ W : World, Calls Try.prog 20 #[opv k t a b v n mm P ln cp, .int .i64 (rs.length : Int)] W fun e w' => e = .returned (.int .i64 0) ∧ Below W.heap.size W w') (HQ : ∀ W : World, Calls Try.prog 21 #[opv k t a b v n mm P ln cp] W fun e w' => e = .returned (.bool false) ∧ Below W.heap.size W w') (HC : ∀ W : World, Calls Try.prog 22 #[opv k t a b v n mm P ln cp] W fun e w' => e = .returned (.bool true) ∧ Below W.heap.size W w') (HT : ∀ W : World, MO m mb r C md [] rs W → Calls Try.prog 24 #[.pointer (some ⟨m, 0, none⟩), opv k t a b v n mm P ln cp, .bool full] W fun e w' => e = .returned (.tuple #[.agg #[.int .i64 ((md : Int) + 1), .int .i64 0, .int .i64 ((p : Int)), .int .i64 0, .int .i64 31], rE 0]) ∧ GP m mb r C md [] rs p f W w') (h : MO m mb r C md [] rs W) : Calls Try.prog 10 #[.pointer (some ⟨m, 0, none⟩), opv k t a b v n mm P ln cp, .bool full] W fun e w' => e = .returned (.agg #[rE 0, .int .i64 0, .slice none 0 0]) ∧ DG m mb r C md rs aN p f W w' := by
  subst hA
  obtain ⟨N, hN⟩ : ∃ N, rs.length = N := ⟨_, rfl⟩
  have HN := Lib.hid hN
  have ha2 : aN < N := by omega
  have HA := Lib.hid ha
  clear hN ha
  have hmm := h.mp.lt
  have hr := h.lt.2.1
  have H := Lib.hid h
  have hm := h.lt.1
  clear h
  have HKR := Lib.hid HK
  clear HK
  have HQR := Lib.hid HQ
  clear HQ
  have HCR := Lib.hid HC
  clear HC
  have HTR := Lib.hid HT
  clear HT
  go_enter Try.func10, Try.ntmps10
  go_upto_region 3 with (fail)
  obtain ⟨wa, hwa⟩ : ∃ wa, (W.alloc (.cells #[.int .i64 k, .int .i64 t, .int .i64 (aN : Int), .int .i64 b, .int .i64 v, .int .i64 n, .int .i64 mm, .slice P ln cp] 41)).alloc (.cells #[.int .i64 0, .int .i64 0, .slice none 0 0] 39) = wa := ⟨_, rfl⟩
  have hba : Below W.heap.size W wa := by rw [← hwa]; exact alc (alc0 _ _) _
  have hoc : OC W.heap.size k t (aN : Int) b v n mm P ln cp wa := by rw [← hwa]; exact (oc_new W _).block ((alc0 _ _).block _ (by simp))
  have hrc : RC (W.heap.size + 1) wa := by
    rw [← hwa]
    have h9 := rc_new (W.alloc (.cells #[.int .i64 k, .int .i64 t, .int .i64 (aN : Int), .int .i64 b, .int .i64 v, .int .i64 n, .int .i64 mm, .slice P ln cp] 41)) 39
    rwa [World.size_alloc] at h9
  have hsa : wa.heap.size = W.heap.size + 2 := by rw [← hwa]; simp
  rw [hwa]
  clear hwa
  obtain ⟨x0, x1, x2, x3, x4, x5, x6, x7⟩ := hoc
  have HRC := Lib.hid hrc
  have HBA := Lib.hid hba
  have HMA := Lib.hid (H.out.below hba)
  clear hrc hba
  refine wp_region_held_drew (S := fun w' => w'.cell? ⟨W.heap.size, 0, none⟩ = some (.int .i64 k) ∧ w'.cell? ⟨W.heap.size, 1, none⟩ = some (.int .i64 t) ∧ w'.cell? ⟨W.heap.size, 2, none⟩ = some (.int .i64 (aN : Int)) ∧ w'.cell? ⟨W.heap.size, 3, none⟩ = some (.int .i64 b) ∧ w'.cell? ⟨W.heap.size, 4, none⟩ = some (.int .i64 v) ∧ w'.cell? ⟨W.heap.size, 5, none⟩ = some (.int .i64 n) ∧ w'.cell? ⟨W.heap.size, 6, none⟩ = some (.int .i64 mm) ∧ w'.cell? ⟨W.heap.size, 7, none⟩ = some (.slice P ln cp)) (by kernel_rfl) ?_ (fun hHeld => ?_)
  · exact ⟨x0, x1, x2, x3, x4, x5, x6, x7⟩
  refine wpAnyH_take (i := 0) (v := ?_) rfl (by kernel_rfl) (by kernel_rfl) (by kernel_rfl) (fun _ _ _ h => h) (Or.inl ⟨by kernel_rfl, ?_⟩) (by assumption) ?_
  rotate_left
  · (intro w hSw; (try dsimp only at hSw); go_simp)
    try (with_reducible rfl)
  rotate_left
  try simp (maxSteps := 4000000) only [Act.put, List.setIfInBounds_toArray, List.set_cons_zero, List.set_cons_succ, List.getElem_toArray, List.getElem_cons_zero, List.getElem_cons_succ]
  refine wpAnyH_take (i := 1) (v := ?_) rfl (by kernel_rfl) (by kernel_rfl) (by kernel_rfl) (fun _ _ _ h => h) (Or.inl ⟨by kernel_rfl, ?_⟩) (by assumption) ?_
  rotate_left
  · (intro w hSw; (try dsimp only at hSw); go_simp)
    try (with_reducible rfl)
  rotate_left
  try simp (maxSteps := 4000000) only [Act.put, List.setIfInBounds_toArray, List.set_cons_zero, List.set_cons_succ, List.getElem_toArray, List.getElem_cons_zero, List.getElem_cons_succ]
  refine wpAnyH_ready (rs := [2]) (by kernel_rfl) (by simp) ?_
  refine AllReadyH.cons rfl (fun K2 hK2 => ?_) AllReadyH.nil
  go_simp
  with_reducible refine Calls.mono (mregs (HMA.out.below (Below.refl _ wa).drew)) ?_
  rintro e w3 ⟨rfl, hw3⟩
  have hk9 : ∀ q : Nat, q < wa.heap.size → w3.heap[q]? = wa.heap[q]? := fun q hq => by rw [← hw3]; exact (Below.refl _ wa).drew.block q hq
  have hs3 : w3.heap.size = wa.heap.size := by rw [← hw3]; rfl
  have HB3 := Lib.hid (show Below W.heap.size W w3 from by rw [← hw3]; exact HBA.out.drew)
  have HR3 := Lib.hid (HRC.out.block (hk9 (W.heap.size + 1) (by omega)))
  have s1 : w3.cell? ⟨W.heap.size, 0, none⟩ = some (.int .i64 k) ∧ w3.cell? ⟨W.heap.size, 1, none⟩ = some (.int .i64 t) ∧ w3.cell? ⟨W.heap.size, 2, none⟩ = some (.int .i64 (aN : Int)) ∧ w3.cell? ⟨W.heap.size, 3, none⟩ = some (.int .i64 b) ∧ w3.cell? ⟨W.heap.size, 4, none⟩ = some (.int .i64 v) ∧ w3.cell? ⟨W.heap.size, 5, none⟩ = some (.int .i64 n) ∧ w3.cell? ⟨W.heap.size, 6, none⟩ = some (.int .i64 mm) ∧ w3.cell? ⟨W.heap.size, 7, none⟩ = some (.slice P ln cp) := ⟨(World.cell?_of_block (hk9 W.heap.size (by omega))).trans x0, (World.cell?_of_block (hk9 W.heap.size (by omega))).trans x1, (World.cell?_of_block (hk9 W.heap.size (by omega))).trans x2, (World.cell?_of_block (hk9 W.heap.size (by omega))).trans x3, (World.cell?_of_block (hk9 W.heap.size (by omega))).trans x4, (World.cell?_of_block (hk9 W.heap.size (by omega))).trans x5, (World.cell?_of_block (hk9 W.heap.size (by omega))).trans x6, (World.cell?_of_block (hk9 W.heap.size (by omega))).trans x7⟩
  clear hk9 hw3
  refine hK2.out _ _ (s1) (fun hHeld2 => ?_)
  clear hK2 K2 hHeld
  have hHeld := hHeld2
  clear hHeld2
  try simp (maxSteps := 4000000) only [Act.put, List.setIfInBounds_toArray, List.set_cons_zero, List.set_cons_succ]
  refine wpAnyH_ready (rs := [3]) (by kernel_rfl) (by simp) ?_
  refine AllReadyH.cons rfl (fun K2 hK2 => ?_) AllReadyH.nil
  go_simp
  with_reducible refine Calls.mono (HKR.out _) ?_
  rintro e w4 ⟨rfl, hb4⟩
  have hs4 : w3.heap.size ≤ w4.heap.size := hb4.size
  have s4 : w4.cell? ⟨W.heap.size, 0, none⟩ = some (.int .i64 k) ∧ w4.cell? ⟨W.heap.size, 1, none⟩ = some (.int .i64 t) ∧ w4.cell? ⟨W.heap.size, 2, none⟩ = some (.int .i64 (aN : Int)) ∧ w4.cell? ⟨W.heap.size, 3, none⟩ = some (.int .i64 b) ∧ w4.cell? ⟨W.heap.size, 4, none⟩ = some (.int .i64 v) ∧ w4.cell? ⟨W.heap.size, 5, none⟩ = some (.int .i64 n) ∧ w4.cell? ⟨W.heap.size, 6, none⟩ = some (.int .i64 mm) ∧ w4.cell? ⟨W.heap.size, 7, none⟩ = some (.slice P ln cp) := ⟨(World.cell?_of_block (hb4.block W.heap.size (by omega))).trans s1.1, (World.cell?_of_block (hb4.block W.heap.size (by omega))).trans s1.2.1, (World.cell?_of_block (hb4.block W.heap.size (by omega))).trans s1.2.2.1, (World.cell?_of_block (hb4.block W.heap.size (by omega))).trans s1.2.2.2.1, (World.cell?_of_block (hb4.block W.heap.size (by omega))).trans s1.2.2.2.2.1, (World.cell?_of_block (hb4.block W.heap.size (by omega))).trans s1.2.2.2.2.2.1, (World.cell?_of_block (hb4.block W.heap.size (by omega))).trans s1.2.2.2.2.2.2.1, (World.cell?_of_block (hb4.block W.heap.size (by omega))).trans s1.2.2.2.2.2.2.2⟩
  have HR4 := Lib.hid (HR3.out.block (hb4.block (W.heap.size + 1) (by omega)))
  have HB4 := Lib.hid (thn HB3.out hb4)
  clear hb4 x0 x1 x2 x3 x4 x5 x6 x7
  refine hK2.out _ _ (s4) (fun hHeld2 => ?_)
  clear hK2 K2 hHeld
  have hHeld := hHeld2
  clear hHeld2
  try simp (maxSteps := 4000000) only [Act.put, List.setIfInBounds_toArray, List.set_cons_zero, List.set_cons_succ]
  clear s1
  refine wpAnyH_take (i := 4) (v := ?_) rfl (by kernel_rfl) (by kernel_rfl) (by kernel_rfl) (fun _ _ _ h => h) (Or.inl ⟨by kernel_rfl, ?_⟩) (by assumption) ?_
  rotate_left
  · (intro w hSw; (try dsimp only at hSw); go_simp)
    try (with_reducible rfl)
  rotate_left
  try simp (maxSteps := 4000000) only [Act.put, List.setIfInBounds_toArray, List.set_cons_zero, List.set_cons_succ, List.getElem_toArray, List.getElem_cons_zero, List.getElem_cons_succ]
  refine wpAnyH_done (by kernel_rfl) ?_ _
  obtain ⟨x0, x1, x2, x3, x4, x5, x6, x7⟩ := s4
  go_wp2_with fail
  refine (HQR.out _).mono ?_
  rintro e w5 ⟨rfl, hb5⟩
  have hs5 : w4.heap.size ≤ w5.heap.size := hb5.size
  have hx5 : OC W.heap.size k t (aN : Int) b v n mm P ln cp w5 := OC.block (W := w4) ⟨x0, x1, x2, x3, x4, x5, x6, x7⟩ (hb5.block W.heap.size (by omega))
  clear x0 x1 x2 x3 x4 x5 x6 x7
  obtain ⟨x0, x1, x2, x3, x4, x5, x6, x7⟩ := hx5
  have HR5 := Lib.hid (HR4.out.block (hb5.block (W.heap.size + 1) (by omega)))
  have HB5 := Lib.hid (thn HB4.out hb5)
  clear hb5
  go_wp2_with fail
  refine (HCR.out _).mono ?_
  rintro e w6 ⟨rfl, hb6⟩
  have hs6 : w5.heap.size ≤ w6.heap.size := hb6.size
  have hx6 : OC W.heap.size k t (aN : Int) b v n mm P ln cp w6 := OC.block (W := w5) ⟨x0, x1, x2, x3, x4, x5, x6, x7⟩ (hb6.block W.heap.size (by omega))
  clear x0 x1 x2 x3 x4 x5 x6 x7
  obtain ⟨x0, x1, x2, x3, x4, x5, x6, x7⟩ := hx6
  have HR6 := Lib.hid (HR5.out.block (hb6.block (W.heap.size + 1) (by omega)))
  have HB6 := Lib.hid (thn HB5.out hb6)
  clear hb6
  go_wp2_with fail
  refine (HTR.out _ (H.out.below HB6.out)).mono ?_
  rintro e w7 ⟨rfl, ⟨q, d, kb, hM7, hck, hq1, hd1, hq2, hd2⟩, hs7, hk7, hL7⟩
  have hk67 : ∀ i : Nat, i < w6.heap.size → i ≠ m → i ≠ mb → w7.heap[i]? = w6.heap[i]? := hk7
  have hx7 := OC.block (W := w6) (W' := w7) (B := W.heap.size) (k := k) (t := t) (a := (aN : Int)) (b := b) (v := v) (n := n) (mm := mm) (P := P) (ln := ln) (cp := cp) ⟨x0, x1, x2, x3, x4, x5, x6, x7⟩ (hk67 W.heap.size (by omega) (by omega) (by omega))
  clear x0 x1 x2 x3 x4 x5 x6 x7
  have HR7 := Lib.hid (HR6.out.block (hk67 (W.heap.size + 1) (by omega) (by omega) (by omega)))
  have HK7 := Lib.hid (⟨hk67, hL7⟩ : _ ∧ _)
  have HM7 := Lib.hid hM7
  have HCK := Lib.hid (⟨hck, hq1, hd1, hq2, hd2⟩ : _ ∧ _ ∧ _ ∧ _ ∧ _)
  have HX7 := Lib.hid hx7
  clear hk67 hL7 hM7 hx7 hck hq1 hd1 hq2 hd2 hk7
  go_upto_region 12 with (fail)
  obtain ⟨wb, hwb⟩ : ∃ wb, w7.alloc (.cells #[.int .i64 ((md : Int) + 1), .int .i64 0, .int .i64 ((p : Int)), .int .i64 0, .int .i64 31] 52) = wb := ⟨_, rfl⟩
  have hb8 : Below w7.heap.size w7 wb := by rw [← hwb]; exact alc0 _ _
  have j0 : wb.cell? ⟨w7.heap.size, 0, none⟩ = some (.int .i64 ((md : Int) + 1)) := by rw [← hwb]; simp
  have j1 : wb.cell? ⟨w7.heap.size, 1, none⟩ = some (.int .i64 0) := by rw [← hwb]; simp
  have j2 : wb.cell? ⟨w7.heap.size, 2, none⟩ = some (.int .i64 ((p : Int))) := by rw [← hwb]; simp
  have j3 : wb.cell? ⟨w7.heap.size, 3, none⟩ = some (.int .i64 0) := by rw [← hwb]; simp
  have j4 : wb.cell? ⟨w7.heap.size, 4, none⟩ = some (.int .i64 31) := by rw [← hwb]; simp
  rw [hwb]
  have hs8 : wb.heap.size = w7.heap.size + 1 := by rw [← hwb]; exact World.size_alloc _ _
  clear hwb
  have HM8 := Lib.hid (HM7.out.below hb8)
  have HR8 := Lib.hid (HR7.out.block (hb8.block (W.heap.size + 1) (by omega)))
  obtain ⟨-, -, x2, -⟩ := HX7.out.block (hb8.block W.heap.size (by omega))
  have HB8 := Lib.hid hb8
  clear hb8
  have c13 : wb.cell? ⟨m, 13, none⟩ = some (.slice (some ⟨r, 0, none⟩) N N) := by have := HM8.out.c13; rwa [HN.out] at this
  obtain ⟨q0, hq0⟩ : ∃ q0, rs[aN]? = some q0 := ⟨rs[aN]'HA.out, List.getElem?_eq_getElem HA.out⟩
  obtain ⟨g0, g1, g2, g3, g4⟩ := HM8.out.rg aN q0 hq0
  clear hq0
  have z0 := fun o => (HM8.out.fz o).2
  have h2 : (aN : Int) < (N : Int) := by omega
  have h3 : (0 : Int) ≤ (aN : Int) := by omega
  have h4 : ¬ (aN : Int) < 0 := by omega
  refine wp_region_held_drew (S := fun w' => w'.cell? ⟨m, 13, none⟩ = some (.slice (some ⟨r, 0, none⟩) N N) ∧ w'.cell? ⟨W.heap.size, 2, none⟩ = some (.int .i64 (aN : Int)) ∧ w'.cell? ⟨w7.heap.size, 0, none⟩ = some (.int .i64 ((md : Int) + 1)) ∧ w'.cell? ⟨w7.heap.size, 1, none⟩ = some (.int .i64 0) ∧ w'.cell? ⟨w7.heap.size, 2, none⟩ = some (.int .i64 ((p : Int))) ∧ w'.cell? ⟨w7.heap.size, 3, none⟩ = some (.int .i64 0) ∧ w'.cell? ⟨w7.heap.size, 4, none⟩ = some (.int .i64 31)) (by kernel_rfl) ?_ (fun hHeld => ?_)
  · exact ⟨c13, x2, j0, j1, j2, j3, j4⟩
  refine wpAnyH_take (i := 0) (v := ?_) rfl (by kernel_rfl) (by kernel_rfl) (by kernel_rfl) (fun _ _ _ h => h) (Or.inl ⟨by kernel_rfl, ?_⟩) (by assumption) ?_
  rotate_left
  · (intro w hSw; (try dsimp only at hSw); go_simp)
    try (with_reducible rfl)
  rotate_left
  try simp (maxSteps := 4000000) only [Act.put, List.setIfInBounds_toArray, List.set_cons_zero, List.set_cons_succ, List.getElem_toArray, List.getElem_cons_zero, List.getElem_cons_succ]
  refine wpAnyH_take (i := 1) (v := ?_) rfl (by kernel_rfl) (by kernel_rfl) (by kernel_rfl) (fun _ _ _ h => h) (Or.inl ⟨by kernel_rfl, ?_⟩) (by assumption) ?_
  rotate_left
  · (intro w hSw; (try dsimp only at hSw); go_simp)
    try (with_reducible rfl)
  rotate_left
  try simp (maxSteps := 4000000) only [Act.put, List.setIfInBounds_toArray, List.set_cons_zero, List.set_cons_succ, List.getElem_toArray, List.getElem_cons_zero, List.getElem_cons_succ]
  refine wpAnyH_take (i := 2) (v := ?_) rfl (by kernel_rfl) (by kernel_rfl) (by kernel_rfl) (fun _ _ _ h => h) (Or.inl ⟨by kernel_rfl, ?_⟩) (by assumption) ?_
  rotate_left
  · (intro w hSw; (try dsimp only at hSw); go_simp)
    try (with_reducible rfl)
  rotate_left
  try simp (maxSteps := 4000000) only [Act.put, List.setIfInBounds_toArray, List.set_cons_zero, List.set_cons_succ, List.getElem_toArray, List.getElem_cons_zero, List.getElem_cons_succ]
  refine wpAnyH_take (i := 3) (v := ?_) rfl (by kernel_rfl) (by kernel_rfl) (by kernel_rfl) (fun _ _ _ h => h) (Or.inl ⟨by kernel_rfl, ?_⟩) (by assumption) ?_
  rotate_left
  · (intro w hSw; (try dsimp only at hSw); go_simp)
    try (with_reducible rfl)
  rotate_left
  try simp (maxSteps := 4000000) only [Act.put, List.setIfInBounds_toArray, List.set_cons_zero, List.set_cons_succ, List.getElem_toArray, List.getElem_cons_zero, List.getElem_cons_succ]
  refine wpAnyH_take (i := 4) (v := ?_) rfl (by kernel_rfl) (by kernel_rfl) (by kernel_rfl) (fun _ _ _ h => h) (Or.inl ⟨by kernel_rfl, ?_⟩) (by assumption) ?_
  rotate_left
  · (intro w hSw; (try dsimp only at hSw); go_simp)
    try (with_reducible rfl)
  rotate_left
  try simp (maxSteps := 4000000) only [Act.put, List.setIfInBounds_toArray, List.set_cons_zero, List.set_cons_succ, List.getElem_toArray, List.getElem_cons_zero, List.getElem_cons_succ]
  refine wpAnyH_take (i := 5) (v := ?_) rfl (by kernel_rfl) (by kernel_rfl) (by kernel_rfl) (fun _ _ _ h => h) (Or.inl ⟨by kernel_rfl, ?_⟩) (by assumption) ?_
  rotate_left
  · (intro w hSw; (try dsimp only at hSw); go_simp)
    try (with_reducible rfl)
  rotate_left
  try simp (maxSteps := 4000000) only [Act.put, List.setIfInBounds_toArray, List.set_cons_zero, List.set_cons_succ, List.getElem_toArray, List.getElem_cons_zero, List.getElem_cons_succ]
  refine wpAnyH_take (i := 6) (v := ?_) rfl (by kernel_rfl) (by kernel_rfl) (by kernel_rfl) (fun _ _ _ h => h) (Or.inl ⟨by kernel_rfl, ?_⟩) (by assumption) ?_
  rotate_left
  · (intro w hSw; (try dsimp only at hSw); go_simp)
    try (with_reducible rfl)
  rotate_left
  try simp (maxSteps := 4000000) only [Act.put, List.setIfInBounds_toArray, List.set_cons_zero, List.set_cons_succ, List.getElem_toArray, List.getElem_cons_zero, List.getElem_cons_succ]
  refine wpAnyH_take (i := 7) (v := ?_) rfl (by kernel_rfl) (by kernel_rfl) (by kernel_rfl) (fun _ _ _ h => h) (Or.inl ⟨by kernel_rfl, ?_⟩) (by assumption) ?_
  rotate_left
  · (intro w hSw; (try dsimp only at hSw); go_simp)
    try (with_reducible rfl)
  rotate_left
  try simp (maxSteps := 4000000) only [Act.put, List.setIfInBounds_toArray, List.set_cons_zero, List.set_cons_succ, List.getElem_toArray, List.getElem_cons_zero, List.getElem_cons_succ]
  refine wpAnyH_ready (rs := [8]) (by kernel_rfl) (by simp) ?_
  refine AllReadyH.cons rfl (fun K2 hK2 => ?_) AllReadyH.nil
  go_simp
  obtain ⟨w8, hw8⟩ : ∃ w8, w8 = (((((wb.setCell ⟨r, aN * 5, none⟩ (.int .i64 ((md : Int) + 1))).setCell ⟨r, aN * 5 + 1, none⟩ (.int .i64 0)).setCell ⟨r, aN * 5 + 2, none⟩ (.int .i64 ((p : Int)))).setCell ⟨r, aN * 5 + 3, none⟩ (.int .i64 0)).setCell ⟨r, aN * 5 + 4, none⟩ (.int .i64 31)) := ⟨_, rfl⟩
  rw [← hw8]
  obtain ⟨hM8, hs9, hk9, hL9⟩ := HM8.out.reg aN HA.out ⟨(md : Int) + 1, 0, (p : Int), 0, 31⟩ (show I64 ((md : Int) + 1) from by unfold I64; omega) w8 hw8
  clear hw8
  obtain ⟨w9, hw9⟩ : ∃ w9, w8.drew = w9 := ⟨_, rfl⟩
  rw [hw9]
  have hd9 : Below w8.heap.size w8 w9 := by rw [← hw9]; exact (Below.refl _ w8).drew
  have hsd : w9.heap.size = w8.heap.size := by rw [← hw9]; rfl
  clear hw9
  have hkd : ∀ i : Nat, i < wb.heap.size → i ≠ r → w9.heap[i]? = wb.heap[i]? := fun i hi hn => (hd9.block i (by omega)).trans (hk9 i hn)
  have hmr : m ≠ r := HM8.out.lt.2.2.2.1
  have s9 : w9.cell? ⟨m, 13, none⟩ = some (.slice (some ⟨r, 0, none⟩) N N) ∧ w9.cell? ⟨W.heap.size, 2, none⟩ = some (.int .i64 (aN : Int)) ∧ w9.cell? ⟨w7.heap.size, 0, none⟩ = some (.int .i64 ((md : Int) + 1)) ∧ w9.cell? ⟨w7.heap.size, 1, none⟩ = some (.int .i64 0) ∧ w9.cell? ⟨w7.heap.size, 2, none⟩ = some (.int .i64 ((p : Int))) ∧ w9.cell? ⟨w7.heap.size, 3, none⟩ = some (.int .i64 0) ∧ w9.cell? ⟨w7.heap.size, 4, none⟩ = some (.int .i64 31) := ⟨(World.cell?_of_block (hkd m (by omega) hmr)).trans c13, (World.cell?_of_block (hkd W.heap.size (by omega) (by omega))).trans x2, (World.cell?_of_block (hkd w7.heap.size (by omega) (by omega))).trans j0, (World.cell?_of_block (hkd w7.heap.size (by omega) (by omega))).trans j1, (World.cell?_of_block (hkd w7.heap.size (by omega) (by omega))).trans j2, (World.cell?_of_block (hkd w7.heap.size (by omega) (by omega))).trans j3, (World.cell?_of_block (hkd w7.heap.size (by omega) (by omega))).trans j4⟩
  have HM9 := Lib.hid (hM8.below hd9)
  have HR9 := Lib.hid (HR8.out.block (hkd (W.heap.size + 1) (by omega) (by omega)))
  have HKD := Lib.hid hkd
  have HL9 := Lib.hid (fun L (h1 : L ≤ r) => (hL9 L h1).trans (hd9.mono (by omega)))
  clear hM8 hk9 hL9 hd9 hkd c13 x2 j0 j1 j2 j3 j4 g0 g1 g2 g3 g4 z0
  refine hK2.out _ _ (s9) (fun hHeld2 => ?_)
  clear hK2 K2 hHeld
  have hHeld := hHeld2
  clear hHeld2
  try simp (maxSteps := 4000000) only [Act.put, List.setIfInBounds_toArray, List.set_cons_zero, List.set_cons_succ]
  clear s9
  refine wpAnyH_done (by kernel_rfl) ?_ _
  obtain ⟨⟨u0, u1, u2⟩, u3, u4, u5⟩ := HR9.out
  go_wp2_with fail
  obtain ⟨w10, hw10⟩ : ∃ w10, w10 = ((w9.setCell ⟨W.heap.size + 1, 0, none⟩ (.int .i64 0)).setCell ⟨W.heap.size + 1, 1, none⟩ (.int .i64 0)).setCell ⟨W.heap.size + 1, 2, none⟩ (.slice none 0 0) := ⟨_, rfl⟩
  rw [← hw10]
  obtain ⟨g1, g2, g3⟩ := set3 w9 (W.heap.size + 1) (.int .i64 0) (.int .i64 0) (.slice none 0 0) w10 hw10
  have q0 : w10.cell? ⟨W.heap.size + 1, 0, none⟩ = some (.int .i64 0) := by rw [hw10]; simp [go_sem, u0, u1, u2]
  have q1 : w10.cell? ⟨W.heap.size + 1, 1, none⟩ = some (.int .i64 0) := by rw [hw10]; simp [go_sem, u0, u1, u2]
  have q2 : w10.cell? ⟨W.heap.size + 1, 2, none⟩ = some (.slice none 0 0) := by rw [hw10]; simp [go_sem, u0, u1, u2]
  clear hw10
  refine bodyPost_ret (v := .agg #[rE 0, .int .i64 0, .slice none 0 0]) (by simp [results, Try.results10, go_sem, q0, q1, q2]) rfl ⟨rfl, ?_⟩
  have hM10 := HM9.out.keep (W' := w10) (by omega) (g2 m (by omega)) (g2 mb (by omega)) (g2 r (by omega))
  refine ⟨?_, by omega, fun i hi n1 n2 n3 => (g2 i (by omega)).trans ((HKD.out i (by omega) n3).trans ((HB8.out.block i (by omega)).trans ((HK7.out.1 i (by omega) n1 n2).trans (HB6.out.block i hi)))), fun L n1 n2 n3 n4 => ((((HB6.out.mono n4).trans (HK7.out.2 L n1 n2 (by omega))).trans (HB8.out.mono (by omega))).trans (HL9.out L n3)).trans (g3 L (by omega))⟩
  obtain ⟨e1, e2, e3, e4, e5⟩ := HCK.out
  refine ⟨q, d, kb, hM10, (e1.keep (HB8.out.block q e4) (HB8.out.block d e5)).keep ((g2 q (by omega)).trans (HKD.out q (by omega) (by omega))) ((g2 d (by omega)).trans (HKD.out d (by omega) (by omega))), by omega, by omega, by omega, by omega⟩
set_option maxHeartbeats 1000000 in
theorem mdo_ok0 (k : Int) (t a b v n mm : Int) (P : Option Addr) (ln cp : Nat) (full : Bool) (aN : Nat) (hmd9 : md < 1000) (hA : a = (aN : Int)) (ha : aN < rs.length) (HK : ∀ W : World, Calls Try.prog 20 #[opv k t a b v n mm P ln cp, .int .i64 (rs.length : Int)] W fun e w' => e = .returned (.int .i64 0) ∧ Below W.heap.size W w') (HQ : ∀ W : World, Calls Try.prog 21 #[opv k t a b v n mm P ln cp] W fun e w' => e = .returned (.bool false) ∧ Below W.heap.size W w') (HC : ∀ W : World, Calls Try.prog 22 #[opv k t a b v n mm P ln cp] W fun e w' => e = .returned (.bool true) ∧ Below W.heap.size W w') (HT : ∀ W : World, MO m mb r C md [] rs W → Calls Try.prog 24 #[.pointer (some ⟨m, 0, none⟩), opv k t a b v n mm P ln cp, .bool full] W fun e w' => e = .returned (.tuple #[.agg #[.int .i64 0, .int .i64 0, .int .i64 0, .int .i64 0, .int .i64 0], rE 0]) ∧ Below W.heap.size W w') (h : MO m mb r C md [] rs W) : Calls Try.prog 10 #[.pointer (some ⟨m, 0, none⟩), opv k t a b v n mm P ln cp, .bool full] W fun e w' => e = .returned (.agg #[rE 0, .int .i64 0, .slice none 0 0]) ∧ D0 m mb r C md rs aN W w' := by
  subst hA
  obtain ⟨N, hN⟩ : ∃ N, rs.length = N := ⟨_, rfl⟩
  have HN := Lib.hid hN
  have ha2 : aN < N := by omega
  have HA := Lib.hid ha
  clear hN ha
  have hmm := h.mp.lt
  have hr := h.lt.2.1
  have H := Lib.hid h
  have hm := h.lt.1
  clear h
  have HKR := Lib.hid HK
  clear HK
  have HQR := Lib.hid HQ
  clear HQ
  have HCR := Lib.hid HC
  clear HC
  have HTR := Lib.hid HT
  clear HT
  go_enter Try.func10, Try.ntmps10
  go_upto_region 3 with (fail)
  obtain ⟨wa, hwa⟩ : ∃ wa, (W.alloc (.cells #[.int .i64 k, .int .i64 t, .int .i64 (aN : Int), .int .i64 b, .int .i64 v, .int .i64 n, .int .i64 mm, .slice P ln cp] 41)).alloc (.cells #[.int .i64 0, .int .i64 0, .slice none 0 0] 39) = wa := ⟨_, rfl⟩
  have hba : Below W.heap.size W wa := by rw [← hwa]; exact alc (alc0 _ _) _
  have hoc : OC W.heap.size k t (aN : Int) b v n mm P ln cp wa := by rw [← hwa]; exact (oc_new W _).block ((alc0 _ _).block _ (by simp))
  have hrc : RC (W.heap.size + 1) wa := by
    rw [← hwa]
    have h9 := rc_new (W.alloc (.cells #[.int .i64 k, .int .i64 t, .int .i64 (aN : Int), .int .i64 b, .int .i64 v, .int .i64 n, .int .i64 mm, .slice P ln cp] 41)) 39
    rwa [World.size_alloc] at h9
  have hsa : wa.heap.size = W.heap.size + 2 := by rw [← hwa]; simp
  rw [hwa]
  clear hwa
  obtain ⟨x0, x1, x2, x3, x4, x5, x6, x7⟩ := hoc
  have HRC := Lib.hid hrc
  have HBA := Lib.hid hba
  have HMA := Lib.hid (H.out.below hba)
  clear hrc hba
  refine wp_region_held_drew (S := fun w' => w'.cell? ⟨W.heap.size, 0, none⟩ = some (.int .i64 k) ∧ w'.cell? ⟨W.heap.size, 1, none⟩ = some (.int .i64 t) ∧ w'.cell? ⟨W.heap.size, 2, none⟩ = some (.int .i64 (aN : Int)) ∧ w'.cell? ⟨W.heap.size, 3, none⟩ = some (.int .i64 b) ∧ w'.cell? ⟨W.heap.size, 4, none⟩ = some (.int .i64 v) ∧ w'.cell? ⟨W.heap.size, 5, none⟩ = some (.int .i64 n) ∧ w'.cell? ⟨W.heap.size, 6, none⟩ = some (.int .i64 mm) ∧ w'.cell? ⟨W.heap.size, 7, none⟩ = some (.slice P ln cp)) (by kernel_rfl) ?_ (fun hHeld => ?_)
  · exact ⟨x0, x1, x2, x3, x4, x5, x6, x7⟩
  refine wpAnyH_take (i := 0) (v := ?_) rfl (by kernel_rfl) (by kernel_rfl) (by kernel_rfl) (fun _ _ _ h => h) (Or.inl ⟨by kernel_rfl, ?_⟩) (by assumption) ?_
  rotate_left
  · (intro w hSw; (try dsimp only at hSw); go_simp)
    try (with_reducible rfl)
  rotate_left
  try simp (maxSteps := 4000000) only [Act.put, List.setIfInBounds_toArray, List.set_cons_zero, List.set_cons_succ, List.getElem_toArray, List.getElem_cons_zero, List.getElem_cons_succ]
  refine wpAnyH_take (i := 1) (v := ?_) rfl (by kernel_rfl) (by kernel_rfl) (by kernel_rfl) (fun _ _ _ h => h) (Or.inl ⟨by kernel_rfl, ?_⟩) (by assumption) ?_
  rotate_left
  · (intro w hSw; (try dsimp only at hSw); go_simp)
    try (with_reducible rfl)
  rotate_left
  try simp (maxSteps := 4000000) only [Act.put, List.setIfInBounds_toArray, List.set_cons_zero, List.set_cons_succ, List.getElem_toArray, List.getElem_cons_zero, List.getElem_cons_succ]
  refine wpAnyH_ready (rs := [2]) (by kernel_rfl) (by simp) ?_
  refine AllReadyH.cons rfl (fun K2 hK2 => ?_) AllReadyH.nil
  go_simp
  with_reducible refine Calls.mono (mregs (HMA.out.below (Below.refl _ wa).drew)) ?_
  rintro e w3 ⟨rfl, hw3⟩
  have hk9 : ∀ q : Nat, q < wa.heap.size → w3.heap[q]? = wa.heap[q]? := fun q hq => by rw [← hw3]; exact (Below.refl _ wa).drew.block q hq
  have hs3 : w3.heap.size = wa.heap.size := by rw [← hw3]; rfl
  have HB3 := Lib.hid (show Below W.heap.size W w3 from by rw [← hw3]; exact HBA.out.drew)
  have HR3 := Lib.hid (HRC.out.block (hk9 (W.heap.size + 1) (by omega)))
  have s1 : w3.cell? ⟨W.heap.size, 0, none⟩ = some (.int .i64 k) ∧ w3.cell? ⟨W.heap.size, 1, none⟩ = some (.int .i64 t) ∧ w3.cell? ⟨W.heap.size, 2, none⟩ = some (.int .i64 (aN : Int)) ∧ w3.cell? ⟨W.heap.size, 3, none⟩ = some (.int .i64 b) ∧ w3.cell? ⟨W.heap.size, 4, none⟩ = some (.int .i64 v) ∧ w3.cell? ⟨W.heap.size, 5, none⟩ = some (.int .i64 n) ∧ w3.cell? ⟨W.heap.size, 6, none⟩ = some (.int .i64 mm) ∧ w3.cell? ⟨W.heap.size, 7, none⟩ = some (.slice P ln cp) := ⟨(World.cell?_of_block (hk9 W.heap.size (by omega))).trans x0, (World.cell?_of_block (hk9 W.heap.size (by omega))).trans x1, (World.cell?_of_block (hk9 W.heap.size (by omega))).trans x2, (World.cell?_of_block (hk9 W.heap.size (by omega))).trans x3, (World.cell?_of_block (hk9 W.heap.size (by omega))).trans x4, (World.cell?_of_block (hk9 W.heap.size (by omega))).trans x5, (World.cell?_of_block (hk9 W.heap.size (by omega))).trans x6, (World.cell?_of_block (hk9 W.heap.size (by omega))).trans x7⟩
  clear hk9 hw3
  refine hK2.out _ _ (s1) (fun hHeld2 => ?_)
  clear hK2 K2 hHeld
  have hHeld := hHeld2
  clear hHeld2
  try simp (maxSteps := 4000000) only [Act.put, List.setIfInBounds_toArray, List.set_cons_zero, List.set_cons_succ]
  refine wpAnyH_ready (rs := [3]) (by kernel_rfl) (by simp) ?_
  refine AllReadyH.cons rfl (fun K2 hK2 => ?_) AllReadyH.nil
  go_simp
  with_reducible refine Calls.mono (HKR.out _) ?_
  rintro e w4 ⟨rfl, hb4⟩
  have hs4 : w3.heap.size ≤ w4.heap.size := hb4.size
  have s4 : w4.cell? ⟨W.heap.size, 0, none⟩ = some (.int .i64 k) ∧ w4.cell? ⟨W.heap.size, 1, none⟩ = some (.int .i64 t) ∧ w4.cell? ⟨W.heap.size, 2, none⟩ = some (.int .i64 (aN : Int)) ∧ w4.cell? ⟨W.heap.size, 3, none⟩ = some (.int .i64 b) ∧ w4.cell? ⟨W.heap.size, 4, none⟩ = some (.int .i64 v) ∧ w4.cell? ⟨W.heap.size, 5, none⟩ = some (.int .i64 n) ∧ w4.cell? ⟨W.heap.size, 6, none⟩ = some (.int .i64 mm) ∧ w4.cell? ⟨W.heap.size, 7, none⟩ = some (.slice P ln cp) := ⟨(World.cell?_of_block (hb4.block W.heap.size (by omega))).trans s1.1, (World.cell?_of_block (hb4.block W.heap.size (by omega))).trans s1.2.1, (World.cell?_of_block (hb4.block W.heap.size (by omega))).trans s1.2.2.1, (World.cell?_of_block (hb4.block W.heap.size (by omega))).trans s1.2.2.2.1, (World.cell?_of_block (hb4.block W.heap.size (by omega))).trans s1.2.2.2.2.1, (World.cell?_of_block (hb4.block W.heap.size (by omega))).trans s1.2.2.2.2.2.1, (World.cell?_of_block (hb4.block W.heap.size (by omega))).trans s1.2.2.2.2.2.2.1, (World.cell?_of_block (hb4.block W.heap.size (by omega))).trans s1.2.2.2.2.2.2.2⟩
  have HR4 := Lib.hid (HR3.out.block (hb4.block (W.heap.size + 1) (by omega)))
  have HB4 := Lib.hid (thn HB3.out hb4)
  clear hb4 x0 x1 x2 x3 x4 x5 x6 x7
  refine hK2.out _ _ (s4) (fun hHeld2 => ?_)
  clear hK2 K2 hHeld
  have hHeld := hHeld2
  clear hHeld2
  try simp (maxSteps := 4000000) only [Act.put, List.setIfInBounds_toArray, List.set_cons_zero, List.set_cons_succ]
  clear s1
  refine wpAnyH_take (i := 4) (v := ?_) rfl (by kernel_rfl) (by kernel_rfl) (by kernel_rfl) (fun _ _ _ h => h) (Or.inl ⟨by kernel_rfl, ?_⟩) (by assumption) ?_
  rotate_left
  · (intro w hSw; (try dsimp only at hSw); go_simp)
    try (with_reducible rfl)
  rotate_left
  try simp (maxSteps := 4000000) only [Act.put, List.setIfInBounds_toArray, List.set_cons_zero, List.set_cons_succ, List.getElem_toArray, List.getElem_cons_zero, List.getElem_cons_succ]
  refine wpAnyH_done (by kernel_rfl) ?_ _
  obtain ⟨x0, x1, x2, x3, x4, x5, x6, x7⟩ := s4
  go_wp2_with fail
  refine (HQR.out _).mono ?_
  rintro e w5 ⟨rfl, hb5⟩
  have hs5 : w4.heap.size ≤ w5.heap.size := hb5.size
  have hx5 : OC W.heap.size k t (aN : Int) b v n mm P ln cp w5 := OC.block (W := w4) ⟨x0, x1, x2, x3, x4, x5, x6, x7⟩ (hb5.block W.heap.size (by omega))
  clear x0 x1 x2 x3 x4 x5 x6 x7
  obtain ⟨x0, x1, x2, x3, x4, x5, x6, x7⟩ := hx5
  have HR5 := Lib.hid (HR4.out.block (hb5.block (W.heap.size + 1) (by omega)))
  have HB5 := Lib.hid (thn HB4.out hb5)
  clear hb5
  go_wp2_with fail
  refine (HCR.out _).mono ?_
  rintro e w6 ⟨rfl, hb6⟩
  have hs6 : w5.heap.size ≤ w6.heap.size := hb6.size
  have hx6 : OC W.heap.size k t (aN : Int) b v n mm P ln cp w6 := OC.block (W := w5) ⟨x0, x1, x2, x3, x4, x5, x6, x7⟩ (hb6.block W.heap.size (by omega))
  clear x0 x1 x2 x3 x4 x5 x6 x7
  obtain ⟨x0, x1, x2, x3, x4, x5, x6, x7⟩ := hx6
  have HR6 := Lib.hid (HR5.out.block (hb6.block (W.heap.size + 1) (by omega)))
  have HB6 := Lib.hid (thn HB5.out hb6)
  clear hb6
  go_wp2_with fail
  refine (HTR.out _ (H.out.below HB6.out)).mono ?_
  rintro e w7 ⟨rfl, hb7⟩
  have hs7 := hb7.size
  have hk67 : ∀ i : Nat, i < w6.heap.size → i ≠ m → i ≠ mb → w7.heap[i]? = w6.heap[i]? := fun i hi _ _ => hb7.block i hi
  have hL7 : ∀ L, L ≤ m → L ≤ mb → L ≤ w6.heap.size → Below L w6 w7 := fun L _ _ h3 => hb7.mono h3
  have hM7 := (H.out.below HB6.out).below hb7
  have hx7 := OC.block (W := w6) (W' := w7) (B := W.heap.size) (k := k) (t := t) (a := (aN : Int)) (b := b) (v := v) (n := n) (mm := mm) (P := P) (ln := ln) (cp := cp) ⟨x0, x1, x2, x3, x4, x5, x6, x7⟩ (hk67 W.heap.size (by omega) (by omega) (by omega))
  clear x0 x1 x2 x3 x4 x5 x6 x7
  have HR7 := Lib.hid (HR6.out.block (hk67 (W.heap.size + 1) (by omega) (by omega) (by omega)))
  have HK7 := Lib.hid (⟨hk67, hL7⟩ : _ ∧ _)
  have HM7 := Lib.hid hM7
  clear hb7
  have HX7 := Lib.hid hx7
  clear hk67 hL7 hM7 hx7
  go_upto_region 12 with (fail)
  obtain ⟨wb, hwb⟩ : ∃ wb, w7.alloc (.cells #[.int .i64 0, .int .i64 0, .int .i64 0, .int .i64 0, .int .i64 0] 52) = wb := ⟨_, rfl⟩
  have hb8 : Below w7.heap.size w7 wb := by rw [← hwb]; exact alc0 _ _
  have j0 : wb.cell? ⟨w7.heap.size, 0, none⟩ = some (.int .i64 0) := by rw [← hwb]; simp
  have j1 : wb.cell? ⟨w7.heap.size, 1, none⟩ = some (.int .i64 0) := by rw [← hwb]; simp
  have j2 : wb.cell? ⟨w7.heap.size, 2, none⟩ = some (.int .i64 0) := by rw [← hwb]; simp
  have j3 : wb.cell? ⟨w7.heap.size, 3, none⟩ = some (.int .i64 0) := by rw [← hwb]; simp
  have j4 : wb.cell? ⟨w7.heap.size, 4, none⟩ = some (.int .i64 0) := by rw [← hwb]; simp
  rw [hwb]
  have hs8 : wb.heap.size = w7.heap.size + 1 := by rw [← hwb]; exact World.size_alloc _ _
  clear hwb
  have HM8 := Lib.hid (HM7.out.below hb8)
  have HR8 := Lib.hid (HR7.out.block (hb8.block (W.heap.size + 1) (by omega)))
  obtain ⟨-, -, x2, -⟩ := HX7.out.block (hb8.block W.heap.size (by omega))
  have HB8 := Lib.hid hb8
  clear hb8
  have c13 : wb.cell? ⟨m, 13, none⟩ = some (.slice (some ⟨r, 0, none⟩) N N) := by have := HM8.out.c13; rwa [HN.out] at this
  obtain ⟨q0, hq0⟩ : ∃ q0, rs[aN]? = some q0 := ⟨rs[aN]'HA.out, List.getElem?_eq_getElem HA.out⟩
  obtain ⟨g0, g1, g2, g3, g4⟩ := HM8.out.rg aN q0 hq0
  clear hq0
  have z0 := fun o => (HM8.out.fz o).2
  have h2 : (aN : Int) < (N : Int) := by omega
  have h3 : (0 : Int) ≤ (aN : Int) := by omega
  have h4 : ¬ (aN : Int) < 0 := by omega
  refine wp_region_held_drew (S := fun w' => w'.cell? ⟨m, 13, none⟩ = some (.slice (some ⟨r, 0, none⟩) N N) ∧ w'.cell? ⟨W.heap.size, 2, none⟩ = some (.int .i64 (aN : Int)) ∧ w'.cell? ⟨w7.heap.size, 0, none⟩ = some (.int .i64 0) ∧ w'.cell? ⟨w7.heap.size, 1, none⟩ = some (.int .i64 0) ∧ w'.cell? ⟨w7.heap.size, 2, none⟩ = some (.int .i64 0) ∧ w'.cell? ⟨w7.heap.size, 3, none⟩ = some (.int .i64 0) ∧ w'.cell? ⟨w7.heap.size, 4, none⟩ = some (.int .i64 0)) (by kernel_rfl) ?_ (fun hHeld => ?_)
  · exact ⟨c13, x2, j0, j1, j2, j3, j4⟩
  refine wpAnyH_take (i := 0) (v := ?_) rfl (by kernel_rfl) (by kernel_rfl) (by kernel_rfl) (fun _ _ _ h => h) (Or.inl ⟨by kernel_rfl, ?_⟩) (by assumption) ?_
  rotate_left
  · (intro w hSw; (try dsimp only at hSw); go_simp)
    try (with_reducible rfl)
  rotate_left
  try simp (maxSteps := 4000000) only [Act.put, List.setIfInBounds_toArray, List.set_cons_zero, List.set_cons_succ, List.getElem_toArray, List.getElem_cons_zero, List.getElem_cons_succ]
  refine wpAnyH_take (i := 1) (v := ?_) rfl (by kernel_rfl) (by kernel_rfl) (by kernel_rfl) (fun _ _ _ h => h) (Or.inl ⟨by kernel_rfl, ?_⟩) (by assumption) ?_
  rotate_left
  · (intro w hSw; (try dsimp only at hSw); go_simp)
    try (with_reducible rfl)
  rotate_left
  try simp (maxSteps := 4000000) only [Act.put, List.setIfInBounds_toArray, List.set_cons_zero, List.set_cons_succ, List.getElem_toArray, List.getElem_cons_zero, List.getElem_cons_succ]
  refine wpAnyH_take (i := 2) (v := ?_) rfl (by kernel_rfl) (by kernel_rfl) (by kernel_rfl) (fun _ _ _ h => h) (Or.inl ⟨by kernel_rfl, ?_⟩) (by assumption) ?_
  rotate_left
  · (intro w hSw; (try dsimp only at hSw); go_simp)
    try (with_reducible rfl)
  rotate_left
  try simp (maxSteps := 4000000) only [Act.put, List.setIfInBounds_toArray, List.set_cons_zero, List.set_cons_succ, List.getElem_toArray, List.getElem_cons_zero, List.getElem_cons_succ]
  refine wpAnyH_take (i := 3) (v := ?_) rfl (by kernel_rfl) (by kernel_rfl) (by kernel_rfl) (fun _ _ _ h => h) (Or.inl ⟨by kernel_rfl, ?_⟩) (by assumption) ?_
  rotate_left
  · (intro w hSw; (try dsimp only at hSw); go_simp)
    try (with_reducible rfl)
  rotate_left
  try simp (maxSteps := 4000000) only [Act.put, List.setIfInBounds_toArray, List.set_cons_zero, List.set_cons_succ, List.getElem_toArray, List.getElem_cons_zero, List.getElem_cons_succ]
  refine wpAnyH_take (i := 4) (v := ?_) rfl (by kernel_rfl) (by kernel_rfl) (by kernel_rfl) (fun _ _ _ h => h) (Or.inl ⟨by kernel_rfl, ?_⟩) (by assumption) ?_
  rotate_left
  · (intro w hSw; (try dsimp only at hSw); go_simp)
    try (with_reducible rfl)
  rotate_left
  try simp (maxSteps := 4000000) only [Act.put, List.setIfInBounds_toArray, List.set_cons_zero, List.set_cons_succ, List.getElem_toArray, List.getElem_cons_zero, List.getElem_cons_succ]
  refine wpAnyH_take (i := 5) (v := ?_) rfl (by kernel_rfl) (by kernel_rfl) (by kernel_rfl) (fun _ _ _ h => h) (Or.inl ⟨by kernel_rfl, ?_⟩) (by assumption) ?_
  rotate_left
  · (intro w hSw; (try dsimp only at hSw); go_simp)
    try (with_reducible rfl)
  rotate_left
  try simp (maxSteps := 4000000) only [Act.put, List.setIfInBounds_toArray, List.set_cons_zero, List.set_cons_succ, List.getElem_toArray, List.getElem_cons_zero, List.getElem_cons_succ]
  refine wpAnyH_take (i := 6) (v := ?_) rfl (by kernel_rfl) (by kernel_rfl) (by kernel_rfl) (fun _ _ _ h => h) (Or.inl ⟨by kernel_rfl, ?_⟩) (by assumption) ?_
  rotate_left
  · (intro w hSw; (try dsimp only at hSw); go_simp)
    try (with_reducible rfl)
  rotate_left
  try simp (maxSteps := 4000000) only [Act.put, List.setIfInBounds_toArray, List.set_cons_zero, List.set_cons_succ, List.getElem_toArray, List.getElem_cons_zero, List.getElem_cons_succ]
  refine wpAnyH_take (i := 7) (v := ?_) rfl (by kernel_rfl) (by kernel_rfl) (by kernel_rfl) (fun _ _ _ h => h) (Or.inl ⟨by kernel_rfl, ?_⟩) (by assumption) ?_
  rotate_left
  · (intro w hSw; (try dsimp only at hSw); go_simp)
    try (with_reducible rfl)
  rotate_left
  try simp (maxSteps := 4000000) only [Act.put, List.setIfInBounds_toArray, List.set_cons_zero, List.set_cons_succ, List.getElem_toArray, List.getElem_cons_zero, List.getElem_cons_succ]
  refine wpAnyH_ready (rs := [8]) (by kernel_rfl) (by simp) ?_
  refine AllReadyH.cons rfl (fun K2 hK2 => ?_) AllReadyH.nil
  go_simp
  obtain ⟨w8, hw8⟩ : ∃ w8, w8 = (((((wb.setCell ⟨r, aN * 5, none⟩ (.int .i64 0)).setCell ⟨r, aN * 5 + 1, none⟩ (.int .i64 0)).setCell ⟨r, aN * 5 + 2, none⟩ (.int .i64 0)).setCell ⟨r, aN * 5 + 3, none⟩ (.int .i64 0)).setCell ⟨r, aN * 5 + 4, none⟩ (.int .i64 0)) := ⟨_, rfl⟩
  rw [← hw8]
  obtain ⟨hM8, hs9, hk9, hL9⟩ := HM8.out.reg aN HA.out ⟨0, 0, 0, 0, 0⟩ (show I64 0 from by unfold I64; omega) w8 hw8
  clear hw8
  obtain ⟨w9, hw9⟩ : ∃ w9, w8.drew = w9 := ⟨_, rfl⟩
  rw [hw9]
  have hd9 : Below w8.heap.size w8 w9 := by rw [← hw9]; exact (Below.refl _ w8).drew
  have hsd : w9.heap.size = w8.heap.size := by rw [← hw9]; rfl
  clear hw9
  have hkd : ∀ i : Nat, i < wb.heap.size → i ≠ r → w9.heap[i]? = wb.heap[i]? := fun i hi hn => (hd9.block i (by omega)).trans (hk9 i hn)
  have hmr : m ≠ r := HM8.out.lt.2.2.2.1
  have s9 : w9.cell? ⟨m, 13, none⟩ = some (.slice (some ⟨r, 0, none⟩) N N) ∧ w9.cell? ⟨W.heap.size, 2, none⟩ = some (.int .i64 (aN : Int)) ∧ w9.cell? ⟨w7.heap.size, 0, none⟩ = some (.int .i64 0) ∧ w9.cell? ⟨w7.heap.size, 1, none⟩ = some (.int .i64 0) ∧ w9.cell? ⟨w7.heap.size, 2, none⟩ = some (.int .i64 0) ∧ w9.cell? ⟨w7.heap.size, 3, none⟩ = some (.int .i64 0) ∧ w9.cell? ⟨w7.heap.size, 4, none⟩ = some (.int .i64 0) := ⟨(World.cell?_of_block (hkd m (by omega) hmr)).trans c13, (World.cell?_of_block (hkd W.heap.size (by omega) (by omega))).trans x2, (World.cell?_of_block (hkd w7.heap.size (by omega) (by omega))).trans j0, (World.cell?_of_block (hkd w7.heap.size (by omega) (by omega))).trans j1, (World.cell?_of_block (hkd w7.heap.size (by omega) (by omega))).trans j2, (World.cell?_of_block (hkd w7.heap.size (by omega) (by omega))).trans j3, (World.cell?_of_block (hkd w7.heap.size (by omega) (by omega))).trans j4⟩
  have HM9 := Lib.hid (hM8.below hd9)
  have HR9 := Lib.hid (HR8.out.block (hkd (W.heap.size + 1) (by omega) (by omega)))
  have HKD := Lib.hid hkd
  have HL9 := Lib.hid (fun L (h1 : L ≤ r) => (hL9 L h1).trans (hd9.mono (by omega)))
  clear hM8 hk9 hL9 hd9 hkd c13 x2 j0 j1 j2 j3 j4 g0 g1 g2 g3 g4 z0
  refine hK2.out _ _ (s9) (fun hHeld2 => ?_)
  clear hK2 K2 hHeld
  have hHeld := hHeld2
  clear hHeld2
  try simp (maxSteps := 4000000) only [Act.put, List.setIfInBounds_toArray, List.set_cons_zero, List.set_cons_succ]
  clear s9
  refine wpAnyH_done (by kernel_rfl) ?_ _
  obtain ⟨⟨u0, u1, u2⟩, u3, u4, u5⟩ := HR9.out
  go_wp2_with fail
  obtain ⟨w10, hw10⟩ : ∃ w10, w10 = ((w9.setCell ⟨W.heap.size + 1, 0, none⟩ (.int .i64 0)).setCell ⟨W.heap.size + 1, 1, none⟩ (.int .i64 0)).setCell ⟨W.heap.size + 1, 2, none⟩ (.slice none 0 0) := ⟨_, rfl⟩
  rw [← hw10]
  obtain ⟨g1, g2, g3⟩ := set3 w9 (W.heap.size + 1) (.int .i64 0) (.int .i64 0) (.slice none 0 0) w10 hw10
  have q0 : w10.cell? ⟨W.heap.size + 1, 0, none⟩ = some (.int .i64 0) := by rw [hw10]; simp [go_sem, u0, u1, u2]
  have q1 : w10.cell? ⟨W.heap.size + 1, 1, none⟩ = some (.int .i64 0) := by rw [hw10]; simp [go_sem, u0, u1, u2]
  have q2 : w10.cell? ⟨W.heap.size + 1, 2, none⟩ = some (.slice none 0 0) := by rw [hw10]; simp [go_sem, u0, u1, u2]
  clear hw10
  refine bodyPost_ret (v := .agg #[rE 0, .int .i64 0, .slice none 0 0]) (by simp [results, Try.results10, go_sem, q0, q1, q2]) rfl ⟨rfl, ?_⟩
  have hM10 := HM9.out.keep (W' := w10) (by omega) (g2 m (by omega)) (g2 mb (by omega)) (g2 r (by omega))
  refine ⟨hM10, by omega, fun i hi n1 n2 n3 => (g2 i (by omega)).trans ((HKD.out i (by omega) n3).trans ((HB8.out.block i (by omega)).trans ((HK7.out.1 i (by omega) n1 n2).trans (HB6.out.block i hi)))), fun L n1 n2 n3 n4 => ((((HB6.out.mono n4).trans (HK7.out.2 L n1 n2 (by omega))).trans (HB8.out.mono (by omega))).trans (HL9.out L n3)).trans (g3 L (by omega))⟩
end
end Go.Proofs.Ytanmmhbnjmglhaa
