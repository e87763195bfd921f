/- The walk of HoldApart. -/
import Derived.Test.YtgidnmjeifgciaaDoorH14a
import Derived.Test.YtgidnmjeifgciaaDoorFew2
import Derived.Deep.RegionHeld3
import Derived.Deep.DeepCutAuto
namespace Go.Proofs.YtgidnmjeifgciaaDoor
set_option maxRecDepth 100000
open Go.RowKit Go.ChangeMaps Go.MapKept
set_option linter.unusedVariables false
set_option linter.unusedSimpArgs false

theorem cz_first (v : World) : ∃ x u, v.heap.size = x ∧ (v.alloc (.cells #[.int .i64 0, .int .i64 0, .int .i64 0, .int .i64 0, .int .i64 0, .bool false] 31)).drew = u ∧ CapAt x u 0 0 0 0 0 false ∧ Below v.heap.size v u :=
  ⟨_, _, rfl, rfl, (CapAt.new v 0 0 0 0 0 false 31).below (Below.refl _ _).drew, (alc0 _ _).drew⟩
theorem cz_next (v : World) : ∃ x u, v.heap.size = x ∧ v.alloc (.cells #[.int .i64 0, .int .i64 0, .int .i64 0, .int .i64 0, .int .i64 0, .bool false] 31) = u ∧ CapAt x u 0 0 0 0 0 false ∧ Below v.heap.size v u :=
  ⟨_, _, rfl, rfl, CapAt.new v 0 0 0 0 0 false 31, alc0 _ _⟩
theorem cap_st {z N : Nat} {V u : World} {b l c p t : Int} {v : Bool} (h : CapAt z u b l c p t v) (hN : N ≤ z) (hB : Below N V u) (b' l' c' p' t' : Int) (v' : Bool) :
    ∃ u', (((((u.setCell ⟨z, 0, none⟩ (.int .i64 b')).setCell ⟨z, 1, none⟩ (.int .i64 l')).setCell ⟨z, 2, none⟩ (.int .i64 c')).setCell ⟨z, 3, none⟩ (.int .i64 p')).setCell ⟨z, 4, none⟩ (.int .i64 t')).setCell ⟨z, 5, none⟩ (.bool v') = u' ∧ CapAt z u' b' l' c' p' t' v' ∧ u'.heap.size = u.heap.size ∧ (∀ y, y ≠ z → u'.heap[y]? = u.heap[y]?) ∧ Below N V u' := by
  refine ⟨_, rfl, (((((h.s0 b').s1 l').s2 c').s3 p').s4 t').s5 v', by simp only [sizeSet], fun y hy => ?_, (((((hB.setCell hN _).setCell hN _).setCell hN _).setCell hN _).setCell hN _).setCell hN _⟩
  have hn : ∀ (W : World) k (a : Value), (W.setCell ⟨z, k, none⟩ a).heap[y]? = W.heap[y]? := fun W k a => Below.heap_setCell _ _ _ _ (by simpa using hy)
  simp only [hn]
def s4 : MS := { newS 4 with pg := onF (newS 4).pg 0 4, peak := max (newS 4).peak ((cntF (newS 4).pg 1024 : Nat) + 4) }
def s4b : MS := { s4 with f := setF s4.f (grF 0) (grN 0 1024) 1 }
theorem s4_open : openB s4.pg 0 1024 = true := by decide +kernel
/-- Four pages are mapped, and all have the tag 1. -/
structure P4 (σ : MS) : Prop where
  pg : ∀ y, y < 4 → σ.pg y = true
  tg : ∀ g, g < 64 → σ.f g = 1
theorem P4.start : P4 s4b := by
  refine ⟨fun y hy => ?_, fun g hg => ?_⟩
  · show (false || decide ((0 : Int) ≤ y ∧ (y : Int) < 0 + 4)) = true
    rw [Bool.false_or, decide_eq_true]; omega
  · show (if grF 0 ≤ g ∧ g < grF 0 + grN 0 1024 then 1 else s4.f g) = 1
    rw [if_pos]
    have h1 : grF 0 = 0 := by decide
    have h2 : grN 0 1024 = 64 := by decide
    omega
theorem P4.wr {σ : MS} (h : P4 σ) (a n : Nat) (d : Nat → Nat) : P4 (wrS σ a n d) := ⟨h.pg, h.tg⟩
theorem P4.kp {σ : MS} (h : P4 σ) (a : Nat) (d : Nat → Nat) : P4 (keepS σ a d) := ⟨h.pg, h.tg⟩
theorem P4.open_ {σ : MS} (h : P4 σ) {a n : Int} (h0 : 0 ≤ a) (h1 : 1 ≤ n) (h2 : a + n ≤ 1024) : openB σ.pg a n = true := by
  unfold openB
  rw [mayB_iff.2 (by omega), Bool.true_and, wholeF_iff]
  exact fun y _ hy => h.pg y (by omega)
theorem allR_of {f : Nat → Nat} {g : Nat} {v : Int} : ∀ {n : Nat}, (∀ j, j < n → (f (g + j) : Int) = v) → allR f g v n = true
  | 0, _ => rfl
  | n + 1, h => by rw [allR, allR_of (fun j hj => h j (by omega)), Bool.true_and, decide_eq_true (h n (by omega))]
theorem P4.tagd {σ : MS} (h : P4 σ) {a n : Int} (h0 : 0 ≤ a) (h1 : 1 ≤ n) (h2 : a + n ≤ 1024) : tagdB σ a n 1 = true := by
  unfold tagdB
  rw [h.open_ h0 h1 h2, Bool.true_and]
  refine allR_of fun j hj => ?_
  rw [h.tg _ (by unfold grF grN at *; omega)]
  rfl
theorem P4.alive {σ : MS} (h : P4 σ) {b l c p : Int} (h0 : 0 ≤ b) (h1 : b ≤ 1023) (h2 : 1 ≤ l) (h3 : l ≤ 1024 - b) (h4 : b - 16 ≤ c) (h5 : c ≤ b + 64) (h6 : 0 ≤ p) (h7 : p ≤ 31) : aliveB σ b l c p 1 true = true := by
  have hm : capMayB b l c p 1 true = true := by
    show capOkB b l c p 1 = true
    simp only [capOkB, pmayB, Bool.and_eq_true, mayB_iff, decide_eq_true_eq]
    omega
  unfold aliveB
  rw [hm, Bool.true_and, Bool.true_and, decide_eq_true (by decide : (0 : Int) < 1), Bool.true_and, decide_eq_true_eq]
  unfold tagI
  rw [h.open_ h0 (by decide) (by omega), if_pos rfl, h.tg _ (by omega)]
  rfl
theorem P4.acc {σ : MS} (h : P4 σ) {b l c n q : Int} (h0 : 0 ≤ b) (h1 : b ≤ 1023) (h2 : 1 ≤ l) (h3 : l ≤ 1024 - b) (h4 : b ≤ c) (h5 : c ≤ b + 64) (h6 : 0 < n) (h7 : c + n ≤ b + l) (hq : phasB 31 q = true) : accE σ b l c 31 1 true n q = 0 := by
  unfold accE
  have hi : (true && capOkB b l c 31 1 && insideB b l c n) = true := by
    rw [Bool.true_and]
    simp only [insideB, capOkB, pmayB, Bool.and_eq_true, mayB_iff, decide_eq_true_eq]
    omega
  rw [h.alive h0 h1 h2 h3 (by omega) h5 (by decide) (by decide), hq, hi, if_pos rfl, if_pos rfl, if_pos rfl, h.tagd (by omega) (by omega) (by omega), decide_eq_true h6]
  rfl
theorem P4.slot {σ : MS} (h : P4 σ) {b l c q : Int} (h0 : 0 ≤ b) (h1 : b ≤ 1023) (h2 : 1 ≤ l) (h3 : l ≤ 1024 - b) (h4 : b ≤ c) (h5 : c ≤ b + 64) (h7 : c + 16 ≤ b + l) (h8 : c % 16 = 0) (hq : phasB 31 q = true) : slotE σ b l c 31 1 true q = 0 := by
  unfold slotE
  rw [h.acc h0 h1 h2 h3 h4 h5 (by decide) h7 hq, if_pos rfl, if_pos h8]
def FB (b l c p t : Int) : Prop := 0 ≤ b ∧ b ≤ 1023 ∧ 1 ≤ l ∧ l ≤ 1024 - b ∧ b - 16 ≤ c ∧ c ≤ b + 64 ∧ 0 ≤ c ∧ 0 ≤ p ∧ p ≤ 31 ∧ 1 ≤ t ∧ t ≤ 2
set_option maxHeartbeats 6400000 in
theorem walkHoldApartX (b l c p t : Int) (v : Bool) (b' l' c' p' t' : Int) (v' : Bool) (w : World) (ht : TzTab w) :
    Calls Tryd.prog 7 #[.agg #[.int .i64 b, .int .i64 l, .int .i64 c, .int .i64 p, .int .i64 t, .bool v], .agg #[.int .i64 b', .int .i64 l', .int .i64 c', .int .i64 p', .int .i64 t', .bool v']] w fun e w' => e = .returned (.bool true) ∧ Below w.heap.size w w' := by
  have T := Lib.hid ht; clear ht
  have HY0 := Lib.hid (CapAt.new2 w (.cells #[.int .i64 b, .int .i64 l, .int .i64 c, .int .i64 p, .int .i64 t, .bool v] 31) b' l' c' p' t' v' 31)
  have HX0 := Lib.hid ((CapAt.new w b l c p t v 31).below (alc0 _ (.cells #[.int .i64 b', .int .i64 l', .int .i64 c', .int .i64 p', .int .i64 t', .bool v'] 31)))
  go_enter Tryd.func7, Tryd.ntmps7
  go_wp2_with fail
  refine (w14awake _ (T.out.later (alc (alc0 _ _) _))).mono ?_
  rintro e v0 ⟨rfl, hb⟩
  have HB0 := Lib.hid (thn (alc (alc0 w _) _) hb)
  have HX := Lib.hid (HX0.out.below hb)
  have HY := Lib.hid (HY0.out.below hb)
  have HL0 : Hid (w.heap.size + 1 < v0.heap.size) := Lib.hid HY.out.1
  clear hb HX0 HY0
  go_wp2_with fail
  refine (mnew 4 4 _ (T.out.later HB0.out) (by decide)).mono ?_
  rintro e v1 ⟨M, col, rfl, hm1, hb1⟩
  have HM1 := Lib.hid hm1
  have HB1 := Lib.hid (thn HB0.out hb1)
  have HX1 := Lib.hid (HX.out.below hb1)
  have HY1 := Lib.hid (HY.out.below hb1)
  clear hm1 hb1 HX HY
  have K1 := Lib.hid (mmap_free 0 4 HM1.out (by decide) (fun y _ _ => rfl))
  go_wp2_with fail
  refine K1.out.mono ?_
  rintro e v2 (⟨h, _⟩ | ⟨-, rfl, hs2, -⟩)
  · exfalso
    have : cntF (newS 4).pg 1024 = 0 := cntF_zero 1024
    rw [this] at h
    revert h
    decide
  obtain ⟨col2, hm2, hc2, ho2, hb2⟩ := hs2
  have HM2 : Hid (MEM v0.heap.size col2 M v2 s4) := Lib.hid hm2
  have HB2 := Lib.hid (HB1.out.trans (hb2.mono HB0.out.size))
  have HX2 := Lib.hid (HX1.out.keep hb2.size (hb2.block _ (by have := HL0.out; omega)))
  have HY2 := Lib.hid (HY1.out.keep hb2.size (hb2.block _ HL0.out))
  clear hb2 hm2 K1 hc2 ho2 HX1 HY1 HM1 HB1
  go_wp2_with fail
  refine (msettag_ok 0 1024 1 HM2.out (by decide) s4_open).mono ?_
  rintro e v3 ⟨rfl, col3, hm3, -, -, hb3⟩
  have HM3 : Hid (MEM v0.heap.size col3 M v3 s4b) := Lib.hid hm3
  have HB3 := Lib.hid (HB2.out.trans (hb3.mono HB0.out.size))
  have HX3 := Lib.hid (HX2.out.keep hb3.size (hb3.block _ (by have := HL0.out; omega)))
  have HY3 := Lib.hid (HY2.out.keep hb3.size (hb3.block _ HL0.out))
  have HLT : Hid (w.heap.size + 1 < v3.heap.size) := Lib.hid (by have := HY3.out.1; omega)
  clear hm3 hb3 HX2 HY2 HM2 HB2
  go_upto_region 6 with (fail)
  go_cut [6, 7] (fun v6 v7 wx => ∃ (x6 x7 : Nat) (b1 l1 c1 p1 t1 b2 l2 c2 p2 t2 : Int), v6 = .pointer (some ⟨x6, 0, none⟩) ∧ v7 = .pointer (some ⟨x7, 0, none⟩) ∧ Hid (FB b1 l1 c1 p1 t1 ∧ FB b2 l2 c2 p2 t2) ∧ Hid (CapAt x6 wx b1 l1 c1 p1 t1 true ∧ CapAt x7 wx b2 l2 c2 p2 t2 true ∧ x6 ≠ x7 ∧ v3.heap.size ≤ x6 ∧ v3.heap.size ≤ x7) ∧ Hid (Below v3.heap.size v3 wx))
  case first =>
    have HTAKE := Lib.hid (fun (w' : World) (h : CapAt w.heap.size w' b l c p t v ∧ CapAt (w.heap.size + 1) w' b' l' c' p' t' v') => And.intro h.1.2 h.2.2)
    refine wp_region_held_drew (S := fun w' => CapAt w.heap.size w' b l c p t v ∧ CapAt (w.heap.size + 1) w' b' l' c' p' t' v') (by kernel_rfl) ?_ (fun hHeld => ?_)
    · exact ⟨HX3.out.drew, HY3.out.drew⟩
    refine wpAnyH_take (i := 0) (v := ?_) rfl (by kernel_rfl) (by kernel_rfl) (by kernel_rfl) (fun _ _ _ h => h) (Or.inl ⟨by kernel_rfl, ?_⟩) (by assumption) ?_
    rotate_left
    · (intro w hSw; (try dsimp only at hSw); (try have hTk := Hid.out HTAKE _ hSw); go_simp)
      try (with_reducible rfl)
    rotate_left
    try simp (maxSteps := 4000000) only [Act.put, List.setIfInBounds_toArray, List.set_cons_zero, List.set_cons_succ, List.getElem_toArray, List.getElem_cons_zero, List.getElem_cons_succ]
    refine wpAnyH_take (i := 2) (v := ?_) rfl (by kernel_rfl) (by kernel_rfl) (by kernel_rfl) (fun _ _ _ h => h) (Or.inl ⟨by kernel_rfl, ?_⟩) (by assumption) ?_
    rotate_left
    · (intro w hSw; (try dsimp only at hSw); (try have hTk := Hid.out HTAKE _ hSw); go_simp)
      try (with_reducible rfl)
    rotate_left
    try simp (maxSteps := 4000000) only [Act.put, List.setIfInBounds_toArray, List.set_cons_zero, List.set_cons_succ, List.getElem_toArray, List.getElem_cons_zero, List.getElem_cons_succ]
    refine wpAnyH_ready (rs := [1, 4, 5]) (by kernel_rfl) (by simp) ?_
    refine AllReadyH.cons rfl (fun K2 hK2 => ?_) (AllReadyH.cons rfl (fun K2 hK2 => ?_) (AllReadyH.cons rfl (fun K2 hK2 => ?_) AllReadyH.nil))
    all_goals go_simp
    · with_reducible refine Calls.mono (few14 _ _ _ _ _ _ _) ?_
      rintro e u1 ⟨b0, l0, c0, p0, t0, rfl, hq0, hb⟩
      have HQ0 := Lib.hid hq0
      clear hq0
      have hb : Below v3.heap.size v3 u1 := thn (Below.refl _ _).drew hb
      have HB9 := Lib.hid hb
      refine hK2.out _ _ (⟨HX3.out.below hb, HY3.out.below hb⟩) (fun hHeld2 => ?_)
      clear hb
      clear hK2 K2 hHeld
      have hHeld := hHeld2
      clear hHeld2
      try simp (maxSteps := 4000000) only [Act.put, List.setIfInBounds_toArray, List.set_cons_zero, List.set_cons_succ]
      refine wpAnyH_ready (rs := [3, 4, 5]) (by kernel_rfl) (by simp) ?_
      refine AllReadyH.cons rfl (fun K2 hK2 => ?_) (AllReadyH.cons rfl (fun K2 hK2 => ?_) (AllReadyH.cons rfl (fun K2 hK2 => ?_) AllReadyH.nil))
      all_goals go_simp
      · with_reducible refine Calls.mono (few14 _ _ _ _ _ _ _) ?_
        rintro e u2 ⟨b1, l1, c1, p1, t1, rfl, hq1, hb⟩
        have HQ1 := Lib.hid hq1
        clear hq1
        have HB9n := Lib.hid (thn HB9.out hb)
        clear HB9
        have HB9 := HB9n
        clear HB9n
        refine hK2.out _ _ (⟨hHeld.1.below hb, hHeld.2.below hb⟩) (fun hHeld2 => ?_)
        clear hb
        clear hK2 K2 hHeld
        have hHeld := hHeld2
        clear hHeld2
        try simp (maxSteps := 4000000) only [Act.put, List.setIfInBounds_toArray, List.set_cons_zero, List.set_cons_succ]
        refine wpAnyH_ready (rs := [4, 5]) (by kernel_rfl) (by simp) ?_
        refine AllReadyH.cons rfl (fun K2 hK2 => ?_) (AllReadyH.cons rfl (fun K2 hK2 => ?_) AllReadyH.nil)
        all_goals go_simp
        · obtain ⟨x6, u3, hx6, hw9, hz9, hb⟩ := cz_next u2
          rw [hw9]
          try rw [hx6]
          clear hw9
          have HB9n := Lib.hid (thn HB9.out hb)
          have HA6n := Lib.hid (And.intro hz9 (show v3.heap.size ≤ x6 by have := HB9.out.size; omega))
          clear hx6 hz9
          clear HB9
          have HB9 := HB9n
          clear HB9n
          have HA6 := HA6n
          clear HA6n
          refine hK2.out _ _ (⟨hHeld.1.below hb, hHeld.2.below hb⟩) (fun hHeld2 => ?_)
          clear hb
          clear hK2 K2 hHeld
          have hHeld := hHeld2
          clear hHeld2
          try simp (maxSteps := 4000000) only [Act.put, List.setIfInBounds_toArray, List.set_cons_zero, List.set_cons_succ]
          refine wpAnyH_ready (rs := [5]) (by kernel_rfl) (by simp) ?_
          refine AllReadyH.cons rfl (fun K2 hK2 => ?_) AllReadyH.nil
          go_simp
          obtain ⟨x7, u4, hx7, hw9, hz9, hb⟩ := cz_next u3
          rw [hw9]
          try rw [hx7]
          clear hw9
          have HB9n := Lib.hid (thn HB9.out hb)
          have HA7n := Lib.hid (And.intro hz9 (show v3.heap.size ≤ x7 by have := HB9.out.size; omega))
          have hx67 : x6 ≠ x7 := by have h1 := HA6.out.1.1; omega
          clear hx7 hz9
          clear HB9
          have HB9 := HB9n
          clear HB9n
          have HA6n := Lib.hid (And.intro (HA6.out.1.below hb) HA6.out.2)
          clear HA6
          have HA6 := HA6n
          clear HA6n
          have HA7 := HA7n
          clear HA7n
          refine hK2.out _ _ (⟨hHeld.1.below hb, hHeld.2.below hb⟩) (fun hHeld2 => ?_)
          clear hb
          clear hK2 K2 hHeld
          have hHeld := hHeld2
          clear hHeld2
          try simp (maxSteps := 4000000) only [Act.put, List.setIfInBounds_toArray, List.set_cons_zero, List.set_cons_succ]
          obtain ⟨-, z60, z61, z62, z63, z64, z65, -⟩ := HA6.out.1
          obtain ⟨g60, g61, g62, g63, g64, g65⟩ := HA6.out.1.fz
          refine wpAnyH_ready (rs := [6]) (by kernel_rfl) (by simp) ?_
          refine AllReadyH.cons rfl (fun K2 hK2 => ?_) AllReadyH.nil
          go_simp
          obtain ⟨u5, hw9, hz9, hs9, hk9, hb9⟩ := cap_st HA6.out.1 HA6.out.2 HB9.out b0 l0 c0 p0 t0 true
          rw [hw9]
          clear hw9 z60 g60 z61 g61 z62 g62 z63 g63 z64 g64 z65 g65
          have HA6n := Lib.hid (And.intro hz9 HA6.out.2)
          have HA7n := Lib.hid (And.intro (HA7.out.1.keep (Nat.le_of_eq hs9.symm) (hk9 _ hx67.symm)) HA7.out.2)
          have HB9n := Lib.hid hb9
          refine hK2.out _ _ (⟨hHeld.1.keep (Nat.le_of_eq hs9.symm) (hk9 _ (by have := HLT.out; have := HA6.out.2; omega)), hHeld.2.keep (Nat.le_of_eq hs9.symm) (hk9 _ (by have := HLT.out; have := HA6.out.2; omega))⟩) (fun hHeld2 => ?_)
          clear HA6 HA7 HB9 hz9 hs9 hk9 hb9
          have HA6 := HA6n
          have HA7 := HA7n
          have HB9 := HB9n
          clear HA6n HA7n HB9n
          clear hK2 K2 hHeld
          have hHeld := hHeld2
          clear hHeld2
          try simp (maxSteps := 4000000) only [Act.put, List.setIfInBounds_toArray, List.set_cons_zero, List.set_cons_succ]
          obtain ⟨-, z70, z71, z72, z73, z74, z75, -⟩ := HA7.out.1
          obtain ⟨g70, g71, g72, g73, g74, g75⟩ := HA7.out.1.fz
          refine wpAnyH_ready (rs := [7]) (by kernel_rfl) (by simp) ?_
          refine AllReadyH.cons rfl (fun K2 hK2 => ?_) AllReadyH.nil
          go_simp
          obtain ⟨u6, hw9, hz9, hs9, hk9, hb9⟩ := cap_st HA7.out.1 HA7.out.2 HB9.out b1 l1 c1 p1 t1 true
          rw [hw9]
          clear hw9 z70 g70 z71 g71 z72 g72 z73 g73 z74 g74 z75 g75
          have HA7n := Lib.hid (And.intro hz9 HA7.out.2)
          have HA6n := Lib.hid (And.intro (HA6.out.1.keep (Nat.le_of_eq hs9.symm) (hk9 _ hx67)) HA6.out.2)
          have HB9n := Lib.hid hb9
          refine hK2.out _ _ (⟨hHeld.1.keep (Nat.le_of_eq hs9.symm) (hk9 _ (by have := HLT.out; have := HA7.out.2; omega)), hHeld.2.keep (Nat.le_of_eq hs9.symm) (hk9 _ (by have := HLT.out; have := HA7.out.2; omega))⟩) (fun hHeld2 => ?_)
          clear HA6 HA7 HB9 hz9 hs9 hk9 hb9
          have HA6 := HA6n
          have HA7 := HA7n
          have HB9 := HB9n
          clear HA6n HA7n HB9n
          clear hK2 K2 hHeld
          have hHeld := hHeld2
          clear hHeld2
          try simp (maxSteps := 4000000) only [Act.put, List.setIfInBounds_toArray, List.set_cons_zero, List.set_cons_succ]
          refine wpAnyH_done (by kernel_rfl) ?_ _
          go_wp2_with fail
          go_meet
          exact ⟨x6, x7, _, _, _, _, _, _, _, _, _, _, rfl, rfl, Lib.hid ⟨HQ0.out, HQ1.out⟩, Lib.hid ⟨HA6.out.1, HA7.out.1, hx67, HA6.out.2, HA7.out.2⟩, HB9⟩
        · obtain ⟨x7, u3, hx7, hw9, hz9, hb⟩ := cz_next u2
          rw [hw9]
          try rw [hx7]
          clear hw9
          have HB9n := Lib.hid (thn HB9.out hb)
          have HA7n := Lib.hid (And.intro hz9 (show v3.heap.size ≤ x7 by have := HB9.out.size; omega))
          clear hx7 hz9
          clear HB9
          have HB9 := HB9n
          clear HB9n
          have HA7 := HA7n
          clear HA7n
          refine hK2.out _ _ (⟨hHeld.1.below hb, hHeld.2.below hb⟩) (fun hHeld2 => ?_)
          clear hb
          clear hK2 K2 hHeld
          have hHeld := hHeld2
          clear hHeld2
          try simp (maxSteps := 4000000) only [Act.put, List.setIfInBounds_toArray, List.set_cons_zero, List.set_cons_succ]
          refine wpAnyH_ready (rs := [4]) (by kernel_rfl) (by simp) ?_
          refine AllReadyH.cons rfl (fun K2 hK2 => ?_) AllReadyH.nil
          go_simp
          obtain ⟨x6, u4, hx6, hw9, hz9, hb⟩ := cz_next u3
          rw [hw9]
          try rw [hx6]
          clear hw9
          have HB9n := Lib.hid (thn HB9.out hb)
          have HA6n := Lib.hid (And.intro hz9 (show v3.heap.size ≤ x6 by have := HB9.out.size; omega))
          have hx67 : x6 ≠ x7 := by have h1 := HA7.out.1.1; omega
          clear hx6 hz9
          clear HB9
          have HB9 := HB9n
          clear HB9n
          have HA7n := Lib.hid (And.intro (HA7.out.1.below hb) HA7.out.2)
          clear HA7
          have HA7 := HA7n
          clear HA7n
          have HA6 := HA6n
          clear HA6n
          refine hK2.out _ _ (⟨hHeld.1.below hb, hHeld.2.below hb⟩) (fun hHeld2 => ?_)
          clear hb
          clear hK2 K2 hHeld
          have hHeld := hHeld2
          clear hHeld2
          try simp (maxSteps := 4000000) only [Act.put, List.setIfInBounds_toArray, List.set_cons_zero, List.set_cons_succ]
          obtain ⟨-, z60, z61, z62, z63, z64, z65, -⟩ := HA6.out.1
          obtain ⟨g60, g61, g62, g63, g64, g65⟩ := HA6.out.1.fz
          refine wpAnyH_ready (rs := [6]) (by kernel_rfl) (by simp) ?_
          refine AllReadyH.cons rfl (fun K2 hK2 => ?_) AllReadyH.nil
          go_simp
          obtain ⟨u5, hw9, hz9, hs9, hk9, hb9⟩ := cap_st HA6.out.1 HA6.out.2 HB9.out b0 l0 c0 p0 t0 true
          rw [hw9]
          clear hw9 z60 g60 z61 g61 z62 g62 z63 g63 z64 g64 z65 g65
          have HA6n := Lib.hid (And.intro hz9 HA6.out.2)
          have HA7n := Lib.hid (And.intro (HA7.out.1.keep (Nat.le_of_eq hs9.symm) (hk9 _ hx67.symm)) HA7.out.2)
          have HB9n := Lib.hid hb9
          refine hK2.out _ _ (⟨hHeld.1.keep (Nat.le_of_eq hs9.symm) (hk9 _ (by have := HLT.out; have := HA6.out.2; omega)), hHeld.2.keep (Nat.le_of_eq hs9.symm) (hk9 _ (by have := HLT.out; have := HA6.out.2; omega))⟩) (fun hHeld2 => ?_)
          clear HA6 HA7 HB9 hz9 hs9 hk9 hb9
          have HA6 := HA6n
          have HA7 := HA7n
          have HB9 := HB9n
          clear HA6n HA7n HB9n
          clear hK2 K2 hHeld
          have hHeld := hHeld2
          clear hHeld2
          try simp (maxSteps := 4000000) only [Act.put, List.setIfInBounds_toArray, List.set_cons_zero, List.set_cons_succ]
          obtain ⟨-, z70, z71, z72, z73, z74, z75, -⟩ := HA7.out.1
          obtain ⟨g70, g71, g72, g73, g74, g75⟩ := HA7.out.1.fz
          refine wpAnyH_ready (rs := [7]) (by kernel_rfl) (by simp) ?_
          refine AllReadyH.cons rfl (fun K2 hK2 => ?_) AllReadyH.nil
          go_simp
          obtain ⟨u6, hw9, hz9, hs9, hk9, hb9⟩ := cap_st HA7.out.1 HA7.out.2 HB9.out b1 l1 c1 p1 t1 true
          rw [hw9]
          clear hw9 z70 g70 z71 g71 z72 g72 z73 g73 z74 g74 z75 g75
          have HA7n := Lib.hid (And.intro hz9 HA7.out.2)
          have HA6n := Lib.hid (And.intro (HA6.out.1.keep (Nat.le_of_eq hs9.symm) (hk9 _ hx67)) HA6.out.2)
          have HB9n := Lib.hid hb9
          refine hK2.out _ _ (⟨hHeld.1.keep (Nat.le_of_eq hs9.symm) (hk9 _ (by have := HLT.out; have := HA7.out.2; omega)), hHeld.2.keep (Nat.le_of_eq hs9.symm) (hk9 _ (by have := HLT.out; have := HA7.out.2; omega))⟩) (fun hHeld2 => ?_)
          clear HA6 HA7 HB9 hz9 hs9 hk9 hb9
          have HA6 := HA6n
          have HA7 := HA7n
          have HB9 := HB9n
          clear HA6n HA7n HB9n
          clear hK2 K2 hHeld
          have hHeld := hHeld2
          clear hHeld2
          try simp (maxSteps := 4000000) only [Act.put, List.setIfInBounds_toArray, List.set_cons_zero, List.set_cons_succ]
          refine wpAnyH_done (by kernel_rfl) ?_ _
          go_wp2_with fail
          go_meet
          exact ⟨x6, x7, _, _, _, _, _, _, _, _, _, _, rfl, rfl, Lib.hid ⟨HQ0.out, HQ1.out⟩, Lib.hid ⟨HA6.out.1, HA7.out.1, hx67, HA6.out.2, HA7.out.2⟩, HB9⟩
      · obtain ⟨x6, u2, hx6, hw9, hz9, hb⟩ := cz_next u1
        rw [hw9]
        try rw [hx6]
        clear hw9
        have HB9n := Lib.hid (thn HB9.out hb)
        have HA6n := Lib.hid (And.intro hz9 (show v3.heap.size ≤ x6 by have := HB9.out.size; omega))
        clear hx6 hz9
        clear HB9
        have HB9 := HB9n
        clear HB9n
        have HA6 := HA6n
        clear HA6n
        refine hK2.out _ _ (⟨hHeld.1.below hb, hHeld.2.below hb⟩) (fun hHeld2 => ?_)
        clear hb
        clear hK2 K2 hHeld
        have hHeld := hHeld2
        clear hHeld2
        try simp (maxSteps := 4000000) only [Act.put, List.setIfInBounds_toArray, List.set_cons_zero, List.set_cons_succ]
        refine wpAnyH_ready (rs := [3, 5]) (by kernel_rfl) (by simp) ?_
        refine AllReadyH.cons rfl (fun K2 hK2 => ?_) (AllReadyH.cons rfl (fun K2 hK2 => ?_) AllReadyH.nil)
        all_goals go_simp
        · with_reducible refine Calls.mono (few14 _ _ _ _ _ _ _) ?_
          rintro e u3 ⟨b1, l1, c1, p1, t1, rfl, hq1, hb⟩
          have HQ1 := Lib.hid hq1
          clear hq1
          have HB9n := Lib.hid (thn HB9.out hb)
          clear HB9
          have HB9 := HB9n
          clear HB9n
          have HA6n := Lib.hid (And.intro (HA6.out.1.below hb) HA6.out.2)
          clear HA6
          have HA6 := HA6n
          clear HA6n
          refine hK2.out _ _ (⟨hHeld.1.below hb, hHeld.2.below hb⟩) (fun hHeld2 => ?_)
          clear hb
          clear hK2 K2 hHeld
          have hHeld := hHeld2
          clear hHeld2
          try simp (maxSteps := 4000000) only [Act.put, List.setIfInBounds_toArray, List.set_cons_zero, List.set_cons_succ]
          refine wpAnyH_ready (rs := [5]) (by kernel_rfl) (by simp) ?_
          refine AllReadyH.cons rfl (fun K2 hK2 => ?_) AllReadyH.nil
          go_simp
          obtain ⟨x7, u4, hx7, hw9, hz9, hb⟩ := cz_next u3
          rw [hw9]
          try rw [hx7]
          clear hw9
          have HB9n := Lib.hid (thn HB9.out hb)
          have HA7n := Lib.hid (And.intro hz9 (show v3.heap.size ≤ x7 by have := HB9.out.size; omega))
          have hx67 : x6 ≠ x7 := by have h1 := HA6.out.1.1; omega
          clear hx7 hz9
          clear HB9
          have HB9 := HB9n
          clear HB9n
          have HA6n := Lib.hid (And.intro (HA6.out.1.below hb) HA6.out.2)
          clear HA6
          have HA6 := HA6n
          clear HA6n
          have HA7 := HA7n
          clear HA7n
          refine hK2.out _ _ (⟨hHeld.1.below hb, hHeld.2.below hb⟩) (fun hHeld2 => ?_)
          clear hb
          clear hK2 K2 hHeld
          have hHeld := hHeld2
          clear hHeld2
          try simp (maxSteps := 4000000) only [Act.put, List.setIfInBounds_toArray, List.set_cons_zero, List.set_cons_succ]
          obtain ⟨-, z60, z61, z62, z63, z64, z65, -⟩ := HA6.out.1
          obtain ⟨g60, g61, g62, g63, g64, g65⟩ := HA6.out.1.fz
          refine wpAnyH_ready (rs := [6]) (by kernel_rfl) (by simp) ?_
          refine AllReadyH.cons rfl (fun K2 hK2 => ?_) AllReadyH.nil
          go_simp
          obtain ⟨u5, hw9, hz9, hs9, hk9, hb9⟩ := cap_st HA6.out.1 HA6.out.2 HB9.out b0 l0 c0 p0 t0 true
          rw [hw9]
          clear hw9 z60 g60 z61 g61 z62 g62 z63 g63 z64 g64 z65 g65
          have HA6n := Lib.hid (And.intro hz9 HA6.out.2)
          have HA7n := Lib.hid (And.intro (HA7.out.1.keep (Nat.le_of_eq hs9.symm) (hk9 _ hx67.symm)) HA7.out.2)
          have HB9n := Lib.hid hb9
          refine hK2.out _ _ (⟨hHeld.1.keep (Nat.le_of_eq hs9.symm) (hk9 _ (by have := HLT.out; have := HA6.out.2; omega)), hHeld.2.keep (Nat.le_of_eq hs9.symm) (hk9 _ (by have := HLT.out; have := HA6.out.2; omega))⟩) (fun hHeld2 => ?_)
          clear HA6 HA7 HB9 hz9 hs9 hk9 hb9
          have HA6 := HA6n
          have HA7 := HA7n
          have HB9 := HB9n
          clear HA6n HA7n HB9n
          clear hK2 K2 hHeld
          have hHeld := hHeld2
          clear hHeld2
          try simp (maxSteps := 4000000) only [Act.put, List.setIfInBounds_toArray, List.set_cons_zero, List.set_cons_succ]
          obtain ⟨-, z70, z71, z72, z73, z74, z75, -⟩ := HA7.out.1
          obtain ⟨g70, g71, g72, g73, g74, g75⟩ := HA7.out.1.fz
          refine wpAnyH_ready (rs := [7]) (by kernel_rfl) (by simp) ?_
          refine AllReadyH.cons rfl (fun K2 hK2 => ?_) AllReadyH.nil
          go_simp
          obtain ⟨u6, hw9, hz9, hs9, hk9, hb9⟩ := cap_st HA7.out.1 HA7.out.2 HB9.out b1 l1 c1 p1 t1 true
          rw [hw9]
          clear hw9 z70 g70 z71 g71 z72 g72 z73 g73 z74 g74 z75 g75
          have HA7n := Lib.hid (And.intro hz9 HA7.out.2)
          have HA6n := Lib.hid (And.intro (HA6.out.1.keep (Nat.le_of_eq hs9.symm) (hk9 _ hx67)) HA6.out.2)
          have HB9n := Lib.hid hb9
          refine hK2.out _ _ (⟨hHeld.1.keep (Nat.le_of_eq hs9.symm) (hk9 _ (by have := HLT.out; have := HA7.out.2; omega)), hHeld.2.keep (Nat.le_of_eq hs9.symm) (hk9 _ (by have := HLT.out; have := HA7.out.2; omega))⟩) (fun hHeld2 => ?_)
          clear HA6 HA7 HB9 hz9 hs9 hk9 hb9
          have HA6 := HA6n
          have HA7 := HA7n
          have HB9 := HB9n
          clear HA6n HA7n HB9n
          clear hK2 K2 hHeld
          have hHeld := hHeld2
          clear hHeld2
          try simp (maxSteps := 4000000) only [Act.put, List.setIfInBounds_toArray, List.set_cons_zero, List.set_cons_succ]
          refine wpAnyH_done (by kernel_rfl) ?_ _
          go_wp2_with fail
          go_meet
          exact ⟨x6, x7, _, _, _, _, _, _, _, _, _, _, rfl, rfl, Lib.hid ⟨HQ0.out, HQ1.out⟩, Lib.hid ⟨HA6.out.1, HA7.out.1, hx67, HA6.out.2, HA7.out.2⟩, HB9⟩
        · obtain ⟨x7, u3, hx7, hw9, hz9, hb⟩ := cz_next u2
          rw [hw9]
          try rw [hx7]
          clear hw9
          have HB9n := Lib.hid (thn HB9.out hb)
          have HA7n := Lib.hid (And.intro hz9 (show v3.heap.size ≤ x7 by have := HB9.out.size; omega))
          have hx67 : x6 ≠ x7 := by have h1 := HA6.out.1.1; omega
          clear hx7 hz9
          clear HB9
          have HB9 := HB9n
          clear HB9n
          have HA6n := Lib.hid (And.intro (HA6.out.1.below hb) HA6.out.2)
          clear HA6
          have HA6 := HA6n
          clear HA6n
          have HA7 := HA7n
          clear HA7n
          refine hK2.out _ _ (⟨hHeld.1.below hb, hHeld.2.below hb⟩) (fun hHeld2 => ?_)
          clear hb
          clear hK2 K2 hHeld
          have hHeld := hHeld2
          clear hHeld2
          try simp (maxSteps := 4000000) only [Act.put, List.setIfInBounds_toArray, List.set_cons_zero, List.set_cons_succ]
          refine wpAnyH_ready (rs := [3]) (by kernel_rfl) (by simp) ?_
          refine AllReadyH.cons rfl (fun K2 hK2 => ?_) AllReadyH.nil
          go_simp
          with_reducible refine Calls.mono (few14 _ _ _ _ _ _ _) ?_
          rintro e u4 ⟨b1, l1, c1, p1, t1, rfl, hq1, hb⟩
          have HQ1 := Lib.hid hq1
          clear hq1
          have HB9n := Lib.hid (thn HB9.out hb)
          clear HB9
          have HB9 := HB9n
          clear HB9n
          have HA6n := Lib.hid (And.intro (HA6.out.1.below hb) HA6.out.2)
          clear HA6
          have HA6 := HA6n
          clear HA6n
          have HA7n := Lib.hid (And.intro (HA7.out.1.below hb) HA7.out.2)
          clear HA7
          have HA7 := HA7n
          clear HA7n
          refine hK2.out _ _ (⟨hHeld.1.below hb, hHeld.2.below hb⟩) (fun hHeld2 => ?_)
          clear hb
          clear hK2 K2 hHeld
          have hHeld := hHeld2
          clear hHeld2
          try simp (maxSteps := 4000000) only [Act.put, List.setIfInBounds_toArray, List.set_cons_zero, List.set_cons_succ]
          obtain ⟨-, z60, z61, z62, z63, z64, z65, -⟩ := HA6.out.1
          obtain ⟨g60, g61, g62, g63, g64, g65⟩ := HA6.out.1.fz
          refine wpAnyH_ready (rs := [6]) (by kernel_rfl) (by simp) ?_
          refine AllReadyH.cons rfl (fun K2 hK2 => ?_) AllReadyH.nil
          go_simp
          obtain ⟨u5, hw9, hz9, hs9, hk9, hb9⟩ := cap_st HA6.out.1 HA6.out.2 HB9.out b0 l0 c0 p0 t0 true
          rw [hw9]
          clear hw9 z60 g60 z61 g61 z62 g62 z63 g63 z64 g64 z65 g65
          have HA6n := Lib.hid (And.intro hz9 HA6.out.2)
          have HA7n := Lib.hid (And.intro (HA7.out.1.keep (Nat.le_of_eq hs9.symm) (hk9 _ hx67.symm)) HA7.out.2)
          have HB9n := Lib.hid hb9
          refine hK2.out _ _ (⟨hHeld.1.keep (Nat.le_of_eq hs9.symm) (hk9 _ (by have := HLT.out; have := HA6.out.2; omega)), hHeld.2.keep (Nat.le_of_eq hs9.symm) (hk9 _ (by have := HLT.out; have := HA6.out.2; omega))⟩) (fun hHeld2 => ?_)
          clear HA6 HA7 HB9 hz9 hs9 hk9 hb9
          have HA6 := HA6n
          have HA7 := HA7n
          have HB9 := HB9n
          clear HA6n HA7n HB9n
          clear hK2 K2 hHeld
          have hHeld := hHeld2
          clear hHeld2
          try simp (maxSteps := 4000000) only [Act.put, List.setIfInBounds_toArray, List.set_cons_zero, List.set_cons_succ]
          obtain ⟨-, z70, z71, z72, z73, z74, z75, -⟩ := HA7.out.1
          obtain ⟨g70, g71, g72, g73, g74, g75⟩ := HA7.out.1.fz
          refine wpAnyH_ready (rs := [7]) (by kernel_rfl) (by simp) ?_
          refine AllReadyH.cons rfl (fun K2 hK2 => ?_) AllReadyH.nil
          go_simp
          obtain ⟨u6, hw9, hz9, hs9, hk9, hb9⟩ := cap_st HA7.out.1 HA7.out.2 HB9.out b1 l1 c1 p1 t1 true
          rw [hw9]
          clear hw9 z70 g70 z71 g71 z72 g72 z73 g73 z74 g74 z75 g75
          have HA7n := Lib.hid (And.intro hz9 HA7.out.2)
          have HA6n := Lib.hid (And.intro (HA6.out.1.keep (Nat.le_of_eq hs9.symm) (hk9 _ hx67)) HA6.out.2)
          have HB9n := Lib.hid hb9
          refine hK2.out _ _ (⟨hHeld.1.keep (Nat.le_of_eq hs9.symm) (hk9 _ (by have := HLT.out; have := HA7.out.2; omega)), hHeld.2.keep (Nat.le_of_eq hs9.symm) (hk9 _ (by have := HLT.out; have := HA7.out.2; omega))⟩) (fun hHeld2 => ?_)
          clear HA6 HA7 HB9 hz9 hs9 hk9 hb9
          have HA6 := HA6n
          have HA7 := HA7n
          have HB9 := HB9n
          clear HA6n HA7n HB9n
          clear hK2 K2 hHeld
          have hHeld := hHeld2
          clear hHeld2
          try simp (maxSteps := 4000000) only [Act.put, List.setIfInBounds_toArray, List.set_cons_zero, List.set_cons_succ]
          refine wpAnyH_done (by kernel_rfl) ?_ _
          go_wp2_with fail
          go_meet
          exact ⟨x6, x7, _, _, _, _, _, _, _, _, _, _, rfl, rfl, Lib.hid ⟨HQ0.out, HQ1.out⟩, Lib.hid ⟨HA6.out.1, HA7.out.1, hx67, HA6.out.2, HA7.out.2⟩, HB9⟩
      · obtain ⟨x7, u2, hx7, hw9, hz9, hb⟩ := cz_next u1
        rw [hw9]
        try rw [hx7]
        clear hw9
        have HB9n := Lib.hid (thn HB9.out hb)
        have HA7n := Lib.hid (And.intro hz9 (show v3.heap.size ≤ x7 by have := HB9.out.size; omega))
        clear hx7 hz9
        clear HB9
        have HB9 := HB9n
        clear HB9n
        have HA7 := HA7n
        clear HA7n
        refine hK2.out _ _ (⟨hHeld.1.below hb, hHeld.2.below hb⟩) (fun hHeld2 => ?_)
        clear hb
        clear hK2 K2 hHeld
        have hHeld := hHeld2
        clear hHeld2
        try simp (maxSteps := 4000000) only [Act.put, List.setIfInBounds_toArray, List.set_cons_zero, List.set_cons_succ]
        refine wpAnyH_ready (rs := [3, 4]) (by kernel_rfl) (by simp) ?_
        refine AllReadyH.cons rfl (fun K2 hK2 => ?_) (AllReadyH.cons rfl (fun K2 hK2 => ?_) AllReadyH.nil)
        all_goals go_simp
        · with_reducible refine Calls.mono (few14 _ _ _ _ _ _ _) ?_
          rintro e u3 ⟨b1, l1, c1, p1, t1, rfl, hq1, hb⟩
          have HQ1 := Lib.hid hq1
          clear hq1
          have HB9n := Lib.hid (thn HB9.out hb)
          clear HB9
          have HB9 := HB9n
          clear HB9n
          have HA7n := Lib.hid (And.intro (HA7.out.1.below hb) HA7.out.2)
          clear HA7
          have HA7 := HA7n
          clear HA7n
          refine hK2.out _ _ (⟨hHeld.1.below hb, hHeld.2.below hb⟩) (fun hHeld2 => ?_)
          clear hb
          clear hK2 K2 hHeld
          have hHeld := hHeld2
          clear hHeld2
          try simp (maxSteps := 4000000) only [Act.put, List.setIfInBounds_toArray, List.set_cons_zero, List.set_cons_succ]
          refine wpAnyH_ready (rs := [4]) (by kernel_rfl) (by simp) ?_
          refine AllReadyH.cons rfl (fun K2 hK2 => ?_) AllReadyH.nil
          go_simp
          obtain ⟨x6, u4, hx6, hw9, hz9, hb⟩ := cz_next u3
          rw [hw9]
          try rw [hx6]
          clear hw9
          have HB9n := Lib.hid (thn HB9.out hb)
          have HA6n := Lib.hid (And.intro hz9 (show v3.heap.size ≤ x6 by have := HB9.out.size; omega))
          have hx67 : x6 ≠ x7 := by have h1 := HA7.out.1.1; omega
          clear hx6 hz9
          clear HB9
          have HB9 := HB9n
          clear HB9n
          have HA7n := Lib.hid (And.intro (HA7.out.1.below hb) HA7.out.2)
          clear HA7
          have HA7 := HA7n
          clear HA7n
          have HA6 := HA6n
          clear HA6n
          refine hK2.out _ _ (⟨hHeld.1.below hb, hHeld.2.below hb⟩) (fun hHeld2 => ?_)
          clear hb
          clear hK2 K2 hHeld
          have hHeld := hHeld2
          clear hHeld2
          try simp (maxSteps := 4000000) only [Act.put, List.setIfInBounds_toArray, List.set_cons_zero, List.set_cons_succ]
          obtain ⟨-, z60, z61, z62, z63, z64, z65, -⟩ := HA6.out.1
          obtain ⟨g60, g61, g62, g63, g64, g65⟩ := HA6.out.1.fz
          refine wpAnyH_ready (rs := [6]) (by kernel_rfl) (by simp) ?_
          refine AllReadyH.cons rfl (fun K2 hK2 => ?_) AllReadyH.nil
          go_simp
          obtain ⟨u5, hw9, hz9, hs9, hk9, hb9⟩ := cap_st HA6.out.1 HA6.out.2 HB9.out b0 l0 c0 p0 t0 true
          rw [hw9]
          clear hw9 z60 g60 z61 g61 z62 g62 z63 g63 z64 g64 z65 g65
          have HA6n := Lib.hid (And.intro hz9 HA6.out.2)
          have HA7n := Lib.hid (And.intro (HA7.out.1.keep (Nat.le_of_eq hs9.symm) (hk9 _ hx67.symm)) HA7.out.2)
          have HB9n := Lib.hid hb9
          refine hK2.out _ _ (⟨hHeld.1.keep (Nat.le_of_eq hs9.symm) (hk9 _ (by have := HLT.out; have := HA6.out.2; omega)), hHeld.2.keep (Nat.le_of_eq hs9.symm) (hk9 _ (by have := HLT.out; have := HA6.out.2; omega))⟩) (fun hHeld2 => ?_)
          clear HA6 HA7 HB9 hz9 hs9 hk9 hb9
          have HA6 := HA6n
          have HA7 := HA7n
          have HB9 := HB9n
          clear HA6n HA7n HB9n
          clear hK2 K2 hHeld
          have hHeld := hHeld2
          clear hHeld2
          try simp (maxSteps := 4000000) only [Act.put, List.setIfInBounds_toArray, List.set_cons_zero, List.set_cons_succ]
          obtain ⟨-, z70, z71, z72, z73, z74, z75, -⟩ := HA7.out.1
          obtain ⟨g70, g71, g72, g73, g74, g75⟩ := HA7.out.1.fz
          refine wpAnyH_ready (rs := [7]) (by kernel_rfl) (by simp) ?_
          refine AllReadyH.cons rfl (fun K2 hK2 => ?_) AllReadyH.nil
          go_simp
          obtain ⟨u6, hw9, hz9, hs9, hk9, hb9⟩ := cap_st HA7.out.1 HA7.out.2 HB9.out b1 l1 c1 p1 t1 true
          rw [hw9]
          clear hw9 z70 g70 z71 g71 z72 g72 z73 g73 z74 g74 z75 g75
          have HA7n := Lib.hid (And.intro hz9 HA7.out.2)
          have HA6n := Lib.hid (And.intro (HA6.out.1.keep (Nat.le_of_eq hs9.symm) (hk9 _ hx67)) HA6.out.2)
          have HB9n := Lib.hid hb9
          refine hK2.out _ _ (⟨hHeld.1.keep (Nat.le_of_eq hs9.symm) (hk9 _ (by have := HLT.out; have := HA7.out.2; omega)), hHeld.2.keep (Nat.le_of_eq hs9.symm) (hk9 _ (by have := HLT.out; have := HA7.out.2; omega))⟩) (fun hHeld2 => ?_)
          clear HA6 HA7 HB9 hz9 hs9 hk9 hb9
          have HA6 := HA6n
          have HA7 := HA7n
          have HB9 := HB9n
          clear HA6n HA7n HB9n
          clear hK2 K2 hHeld
          have hHeld := hHeld2
          clear hHeld2
          try simp (maxSteps := 4000000) only [Act.put, List.setIfInBounds_toArray, List.set_cons_zero, List.set_cons_succ]
          refine wpAnyH_done (by kernel_rfl) ?_ _
          go_wp2_with fail
          go_meet
          exact ⟨x6, x7, _, _, _, _, _, _, _, _, _, _, rfl, rfl, Lib.hid ⟨HQ0.out, HQ1.out⟩, Lib.hid ⟨HA6.out.1, HA7.out.1, hx67, HA6.out.2, HA7.out.2⟩, HB9⟩
        · obtain ⟨x6, u3, hx6, hw9, hz9, hb⟩ := cz_next u2
          rw [hw9]
          try rw [hx6]
          clear hw9
          have HB9n := Lib.hid (thn HB9.out hb)
          have HA6n := Lib.hid (And.intro hz9 (show v3.heap.size ≤ x6 by have := HB9.out.size; omega))
          have hx67 : x6 ≠ x7 := by have h1 := HA7.out.1.1; omega
          clear hx6 hz9
          clear HB9
          have HB9 := HB9n
          clear HB9n
          have HA7n := Lib.hid (And.intro (HA7.out.1.below hb) HA7.out.2)
          clear HA7
          have HA7 := HA7n
          clear HA7n
          have HA6 := HA6n
          clear HA6n
          refine hK2.out _ _ (⟨hHeld.1.below hb, hHeld.2.below hb⟩) (fun hHeld2 => ?_)
          clear hb
          clear hK2 K2 hHeld
          have hHeld := hHeld2
          clear hHeld2
          try simp (maxSteps := 4000000) only [Act.put, List.setIfInBounds_toArray, List.set_cons_zero, List.set_cons_succ]
          refine wpAnyH_ready (rs := [3]) (by kernel_rfl) (by simp) ?_
          refine AllReadyH.cons rfl (fun K2 hK2 => ?_) AllReadyH.nil
          go_simp
          with_reducible refine Calls.mono (few14 _ _ _ _ _ _ _) ?_
          rintro e u4 ⟨b1, l1, c1, p1, t1, rfl, hq1, hb⟩
          have HQ1 := Lib.hid hq1
          clear hq1
          have HB9n := Lib.hid (thn HB9.out hb)
          clear HB9
          have HB9 := HB9n
          clear HB9n
          have HA6n := Lib.hid (And.intro (HA6.out.1.below hb) HA6.out.2)
          clear HA6
          have HA6 := HA6n
          clear HA6n
          have HA7n := Lib.hid (And.intro (HA7.out.1.below hb) HA7.out.2)
          clear HA7
          have HA7 := HA7n
          clear HA7n
          refine hK2.out _ _ (⟨hHeld.1.below hb, hHeld.2.below hb⟩) (fun hHeld2 => ?_)
          clear hb
          clear hK2 K2 hHeld
          have hHeld := hHeld2
          clear hHeld2
          try simp (maxSteps := 4000000) only [Act.put, List.setIfInBounds_toArray, List.set_cons_zero, List.set_cons_succ]
          obtain ⟨-, z60, z61, z62, z63, z64, z65, -⟩ := HA6.out.1
          obtain ⟨g60, g61, g62, g63, g64, g65⟩ := HA6.out.1.fz
          refine wpAnyH_ready (rs := [6]) (by kernel_rfl) (by simp) ?_
          refine AllReadyH.cons rfl (fun K2 hK2 => ?_) AllReadyH.nil
          go_simp
          obtain ⟨u5, hw9, hz9, hs9, hk9, hb9⟩ := cap_st HA6.out.1 HA6.out.2 HB9.out b0 l0 c0 p0 t0 true
          rw [hw9]
          clear hw9 z60 g60 z61 g61 z62 g62 z63 g63 z64 g64 z65 g65
          have HA6n := Lib.hid (And.intro hz9 HA6.out.2)
          have HA7n := Lib.hid (And.intro (HA7.out.1.keep (Nat.le_of_eq hs9.symm) (hk9 _ hx67.symm)) HA7.out.2)
          have HB9n := Lib.hid hb9
          refine hK2.out _ _ (⟨hHeld.1.keep (Nat.le_of_eq hs9.symm) (hk9 _ (by have := HLT.out; have := HA6.out.2; omega)), hHeld.2.keep (Nat.le_of_eq hs9.symm) (hk9 _ (by have := HLT.out; have := HA6.out.2; omega))⟩) (fun hHeld2 => ?_)
          clear HA6 HA7 HB9 hz9 hs9 hk9 hb9
          have HA6 := HA6n
          have HA7 := HA7n
          have HB9 := HB9n
          clear HA6n HA7n HB9n
          clear hK2 K2 hHeld
          have hHeld := hHeld2
          clear hHeld2
          try simp (maxSteps := 4000000) only [Act.put, List.setIfInBounds_toArray, List.set_cons_zero, List.set_cons_succ]
          obtain ⟨-, z70, z71, z72, z73, z74, z75, -⟩ := HA7.out.1
          obtain ⟨g70, g71, g72, g73, g74, g75⟩ := HA7.out.1.fz
          refine wpAnyH_ready (rs := [7]) (by kernel_rfl) (by simp) ?_
          refine AllReadyH.cons rfl (fun K2 hK2 => ?_) AllReadyH.nil
          go_simp
          obtain ⟨u6, hw9, hz9, hs9, hk9, hb9⟩ := cap_st HA7.out.1 HA7.out.2 HB9.out b1 l1 c1 p1 t1 true
          rw [hw9]
          clear hw9 z70 g70 z71 g71 z72 g72 z73 g73 z74 g74 z75 g75
          have HA7n := Lib.hid (And.intro hz9 HA7.out.2)
          have HA6n := Lib.hid (And.intro (HA6.out.1.keep (Nat.le_of_eq hs9.symm) (hk9 _ hx67)) HA6.out.2)
          have HB9n := Lib.hid hb9
          refine hK2.out _ _ (⟨hHeld.1.keep (Nat.le_of_eq hs9.symm) (hk9 _ (by have := HLT.out; have := HA7.out.2; omega)), hHeld.2.keep (Nat.le_of_eq hs9.symm) (hk9 _ (by have := HLT.out; have := HA7.out.2; omega))⟩) (fun hHeld2 => ?_)
          clear HA6 HA7 HB9 hz9 hs9 hk9 hb9
          have HA6 := HA6n
          have HA7 := HA7n
          have HB9 := HB9n
          clear HA6n HA7n HB9n
          clear hK2 K2 hHeld
          have hHeld := hHeld2
          clear hHeld2
          try simp (maxSteps := 4000000) only [Act.put, List.setIfInBounds_toArray, List.set_cons_zero, List.set_cons_succ]
          refine wpAnyH_done (by kernel_rfl) ?_ _
          go_wp2_with fail
          go_meet
          exact ⟨x6, x7, _, _, _, _, _, _, _, _, _, _, rfl, rfl, Lib.hid ⟨HQ0.out, HQ1.out⟩, Lib.hid ⟨HA6.out.1, HA7.out.1, hx67, HA6.out.2, HA7.out.2⟩, HB9⟩
    · obtain ⟨x6, u1, hx6, hw9, hz9, hb⟩ := cz_first v3
      rw [hw9]
      try rw [hx6]
      clear hw9
      have HB9 := Lib.hid hb
      have HA6n := Lib.hid (And.intro hz9 (show v3.heap.size ≤ x6 by omega))
      clear hx6 hz9
      have HA6 := HA6n
      clear HA6n
      refine hK2.out _ _ (⟨HX3.out.below hb, HY3.out.below hb⟩) (fun hHeld2 => ?_)
      clear hb
      clear hK2 K2 hHeld
      have hHeld := hHeld2
      clear hHeld2
      try simp (maxSteps := 4000000) only [Act.put, List.setIfInBounds_toArray, List.set_cons_zero, List.set_cons_succ]
      refine wpAnyH_ready (rs := [1, 5]) (by kernel_rfl) (by simp) ?_
      refine AllReadyH.cons rfl (fun K2 hK2 => ?_) (AllReadyH.cons rfl (fun K2 hK2 => ?_) AllReadyH.nil)
      all_goals go_simp
      · with_reducible refine Calls.mono (few14 _ _ _ _ _ _ _) ?_
        rintro e u2 ⟨b0, l0, c0, p0, t0, rfl, hq0, hb⟩
        have HQ0 := Lib.hid hq0
        clear hq0
        have HB9n := Lib.hid (thn HB9.out hb)
        clear HB9
        have HB9 := HB9n
        clear HB9n
        have HA6n := Lib.hid (And.intro (HA6.out.1.below hb) HA6.out.2)
        clear HA6
        have HA6 := HA6n
        clear HA6n
        refine hK2.out _ _ (⟨hHeld.1.below hb, hHeld.2.below hb⟩) (fun hHeld2 => ?_)
        clear hb
        clear hK2 K2 hHeld
        have hHeld := hHeld2
        clear hHeld2
        try simp (maxSteps := 4000000) only [Act.put, List.setIfInBounds_toArray, List.set_cons_zero, List.set_cons_succ]
        refine wpAnyH_ready (rs := [3, 5]) (by kernel_rfl) (by simp) ?_
        refine AllReadyH.cons rfl (fun K2 hK2 => ?_) (AllReadyH.cons rfl (fun K2 hK2 => ?_) AllReadyH.nil)
        all_goals go_simp
        · with_reducible refine Calls.mono (few14 _ _ _ _ _ _ _) ?_
          rintro e u3 ⟨b1, l1, c1, p1, t1, rfl, hq1, hb⟩
          have HQ1 := Lib.hid hq1
          clear hq1
          have HB9n := Lib.hid (thn HB9.out hb)
          clear HB9
          have HB9 := HB9n
          clear HB9n
          have HA6n := Lib.hid (And.intro (HA6.out.1.below hb) HA6.out.2)
          clear HA6
          have HA6 := HA6n
          clear HA6n
          refine hK2.out _ _ (⟨hHeld.1.below hb, hHeld.2.below hb⟩) (fun hHeld2 => ?_)
          clear hb
          clear hK2 K2 hHeld
          have hHeld := hHeld2
          clear hHeld2
          try simp (maxSteps := 4000000) only [Act.put, List.setIfInBounds_toArray, List.set_cons_zero, List.set_cons_succ]
          refine wpAnyH_ready (rs := [5]) (by kernel_rfl) (by simp) ?_
          refine AllReadyH.cons rfl (fun K2 hK2 => ?_) AllReadyH.nil
          go_simp
          obtain ⟨x7, u4, hx7, hw9, hz9, hb⟩ := cz_next u3
          rw [hw9]
          try rw [hx7]
          clear hw9
          have HB9n := Lib.hid (thn HB9.out hb)
          have HA7n := Lib.hid (And.intro hz9 (show v3.heap.size ≤ x7 by have := HB9.out.size; omega))
          have hx67 : x6 ≠ x7 := by have h1 := HA6.out.1.1; omega
          clear hx7 hz9
          clear HB9
          have HB9 := HB9n
          clear HB9n
          have HA6n := Lib.hid (And.intro (HA6.out.1.below hb) HA6.out.2)
          clear HA6
          have HA6 := HA6n
          clear HA6n
          have HA7 := HA7n
          clear HA7n
          refine hK2.out _ _ (⟨hHeld.1.below hb, hHeld.2.below hb⟩) (fun hHeld2 => ?_)
          clear hb
          clear hK2 K2 hHeld
          have hHeld := hHeld2
          clear hHeld2
          try simp (maxSteps := 4000000) only [Act.put, List.setIfInBounds_toArray, List.set_cons_zero, List.set_cons_succ]
          obtain ⟨-, z60, z61, z62, z63, z64, z65, -⟩ := HA6.out.1
          obtain ⟨g60, g61, g62, g63, g64, g65⟩ := HA6.out.1.fz
          refine wpAnyH_ready (rs := [6]) (by kernel_rfl) (by simp) ?_
          refine AllReadyH.cons rfl (fun K2 hK2 => ?_) AllReadyH.nil
          go_simp
          obtain ⟨u5, hw9, hz9, hs9, hk9, hb9⟩ := cap_st HA6.out.1 HA6.out.2 HB9.out b0 l0 c0 p0 t0 true
          rw [hw9]
          clear hw9 z60 g60 z61 g61 z62 g62 z63 g63 z64 g64 z65 g65
          have HA6n := Lib.hid (And.intro hz9 HA6.out.2)
          have HA7n := Lib.hid (And.intro (HA7.out.1.keep (Nat.le_of_eq hs9.symm) (hk9 _ hx67.symm)) HA7.out.2)
          have HB9n := Lib.hid hb9
          refine hK2.out _ _ (⟨hHeld.1.keep (Nat.le_of_eq hs9.symm) (hk9 _ (by have := HLT.out; have := HA6.out.2; omega)), hHeld.2.keep (Nat.le_of_eq hs9.symm) (hk9 _ (by have := HLT.out; have := HA6.out.2; omega))⟩) (fun hHeld2 => ?_)
          clear HA6 HA7 HB9 hz9 hs9 hk9 hb9
          have HA6 := HA6n
          have HA7 := HA7n
          have HB9 := HB9n
          clear HA6n HA7n HB9n
          clear hK2 K2 hHeld
          have hHeld := hHeld2
          clear hHeld2
          try simp (maxSteps := 4000000) only [Act.put, List.setIfInBounds_toArray, List.set_cons_zero, List.set_cons_succ]
          obtain ⟨-, z70, z71, z72, z73, z74, z75, -⟩ := HA7.out.1
          obtain ⟨g70, g71, g72, g73, g74, g75⟩ := HA7.out.1.fz
          refine wpAnyH_ready (rs := [7]) (by kernel_rfl) (by simp) ?_
          refine AllReadyH.cons rfl (fun K2 hK2 => ?_) AllReadyH.nil
          go_simp
          obtain ⟨u6, hw9, hz9, hs9, hk9, hb9⟩ := cap_st HA7.out.1 HA7.out.2 HB9.out b1 l1 c1 p1 t1 true
          rw [hw9]
          clear hw9 z70 g70 z71 g71 z72 g72 z73 g73 z74 g74 z75 g75
          have HA7n := Lib.hid (And.intro hz9 HA7.out.2)
          have HA6n := Lib.hid (And.intro (HA6.out.1.keep (Nat.le_of_eq hs9.symm) (hk9 _ hx67)) HA6.out.2)
          have HB9n := Lib.hid hb9
          refine hK2.out _ _ (⟨hHeld.1.keep (Nat.le_of_eq hs9.symm) (hk9 _ (by have := HLT.out; have := HA7.out.2; omega)), hHeld.2.keep (Nat.le_of_eq hs9.symm) (hk9 _ (by have := HLT.out; have := HA7.out.2; omega))⟩) (fun hHeld2 => ?_)
          clear HA6 HA7 HB9 hz9 hs9 hk9 hb9
          have HA6 := HA6n
          have HA7 := HA7n
          have HB9 := HB9n
          clear HA6n HA7n HB9n
          clear hK2 K2 hHeld
          have hHeld := hHeld2
          clear hHeld2
          try simp (maxSteps := 4000000) only [Act.put, List.setIfInBounds_toArray, List.set_cons_zero, List.set_cons_succ]
          refine wpAnyH_done (by kernel_rfl) ?_ _
          go_wp2_with fail
          go_meet
          exact ⟨x6, x7, _, _, _, _, _, _, _, _, _, _, rfl, rfl, Lib.hid ⟨HQ0.out, HQ1.out⟩, Lib.hid ⟨HA6.out.1, HA7.out.1, hx67, HA6.out.2, HA7.out.2⟩, HB9⟩
        · obtain ⟨x7, u3, hx7, hw9, hz9, hb⟩ := cz_next u2
          rw [hw9]
          try rw [hx7]
          clear hw9
          have HB9n := Lib.hid (thn HB9.out hb)
          have HA7n := Lib.hid (And.intro hz9 (show v3.heap.size ≤ x7 by have := HB9.out.size; omega))
          have hx67 : x6 ≠ x7 := by have h1 := HA6.out.1.1; omega
          clear hx7 hz9
          clear HB9
          have HB9 := HB9n
          clear HB9n
          have HA6n := Lib.hid (And.intro (HA6.out.1.below hb) HA6.out.2)
          clear HA6
          have HA6 := HA6n
          clear HA6n
          have HA7 := HA7n
          clear HA7n
          refine hK2.out _ _ (⟨hHeld.1.below hb, hHeld.2.below hb⟩) (fun hHeld2 => ?_)
          clear hb
          clear hK2 K2 hHeld
          have hHeld := hHeld2
          clear hHeld2
          try simp (maxSteps := 4000000) only [Act.put, List.setIfInBounds_toArray, List.set_cons_zero, List.set_cons_succ]
          refine wpAnyH_ready (rs := [3]) (by kernel_rfl) (by simp) ?_
          refine AllReadyH.cons rfl (fun K2 hK2 => ?_) AllReadyH.nil
          go_simp
          with_reducible refine Calls.mono (few14 _ _ _ _ _ _ _) ?_
          rintro e u4 ⟨b1, l1, c1, p1, t1, rfl, hq1, hb⟩
          have HQ1 := Lib.hid hq1
          clear hq1
          have HB9n := Lib.hid (thn HB9.out hb)
          clear HB9
          have HB9 := HB9n
          clear HB9n
          have HA6n := Lib.hid (And.intro (HA6.out.1.below hb) HA6.out.2)
          clear HA6
          have HA6 := HA6n
          clear HA6n
          have HA7n := Lib.hid (And.intro (HA7.out.1.below hb) HA7.out.2)
          clear HA7
          have HA7 := HA7n
          clear HA7n
          refine hK2.out _ _ (⟨hHeld.1.below hb, hHeld.2.below hb⟩) (fun hHeld2 => ?_)
          clear hb
          clear hK2 K2 hHeld
          have hHeld := hHeld2
          clear hHeld2
          try simp (maxSteps := 4000000) only [Act.put, List.setIfInBounds_toArray, List.set_cons_zero, List.set_cons_succ]
          obtain ⟨-, z60, z61, z62, z63, z64, z65, -⟩ := HA6.out.1
          obtain ⟨g60, g61, g62, g63, g64, g65⟩ := HA6.out.1.fz
          refine wpAnyH_ready (rs := [6]) (by kernel_rfl) (by simp) ?_
          refine AllReadyH.cons rfl (fun K2 hK2 => ?_) AllReadyH.nil
          go_simp
          obtain ⟨u5, hw9, hz9, hs9, hk9, hb9⟩ := cap_st HA6.out.1 HA6.out.2 HB9.out b0 l0 c0 p0 t0 true
          rw [hw9]
          clear hw9 z60 g60 z61 g61 z62 g62 z63 g63 z64 g64 z65 g65
          have HA6n := Lib.hid (And.intro hz9 HA6.out.2)
          have HA7n := Lib.hid (And.intro (HA7.out.1.keep (Nat.le_of_eq hs9.symm) (hk9 _ hx67.symm)) HA7.out.2)
          have HB9n := Lib.hid hb9
          refine hK2.out _ _ (⟨hHeld.1.keep (Nat.le_of_eq hs9.symm) (hk9 _ (by have := HLT.out; have := HA6.out.2; omega)), hHeld.2.keep (Nat.le_of_eq hs9.symm) (hk9 _ (by have := HLT.out; have := HA6.out.2; omega))⟩) (fun hHeld2 => ?_)
          clear HA6 HA7 HB9 hz9 hs9 hk9 hb9
          have HA6 := HA6n
          have HA7 := HA7n
          have HB9 := HB9n
          clear HA6n HA7n HB9n
          clear hK2 K2 hHeld
          have hHeld := hHeld2
          clear hHeld2
          try simp (maxSteps := 4000000) only [Act.put, List.setIfInBounds_toArray, List.set_cons_zero, List.set_cons_succ]
          obtain ⟨-, z70, z71, z72, z73, z74, z75, -⟩ := HA7.out.1
          obtain ⟨g70, g71, g72, g73, g74, g75⟩ := HA7.out.1.fz
          refine wpAnyH_ready (rs := [7]) (by kernel_rfl) (by simp) ?_
          refine AllReadyH.cons rfl (fun K2 hK2 => ?_) AllReadyH.nil
          go_simp
          obtain ⟨u6, hw9, hz9, hs9, hk9, hb9⟩ := cap_st HA7.out.1 HA7.out.2 HB9.out b1 l1 c1 p1 t1 true
          rw [hw9]
          clear hw9 z70 g70 z71 g71 z72 g72 z73 g73 z74 g74 z75 g75
          have HA7n := Lib.hid (And.intro hz9 HA7.out.2)
          have HA6n := Lib.hid (And.intro (HA6.out.1.keep (Nat.le_of_eq hs9.symm) (hk9 _ hx67)) HA6.out.2)
          have HB9n := Lib.hid hb9
          refine hK2.out _ _ (⟨hHeld.1.keep (Nat.le_of_eq hs9.symm) (hk9 _ (by have := HLT.out; have := HA7.out.2; omega)), hHeld.2.keep (Nat.le_of_eq hs9.symm) (hk9 _ (by have := HLT.out; have := HA7.out.2; omega))⟩) (fun hHeld2 => ?_)
          clear HA6 HA7 HB9 hz9 hs9 hk9 hb9
          have HA6 := HA6n
          have HA7 := HA7n
          have HB9 := HB9n
          clear HA6n HA7n HB9n
          clear hK2 K2 hHeld
          have hHeld := hHeld2
          clear hHeld2
          try simp (maxSteps := 4000000) only [Act.put, List.setIfInBounds_toArray, List.set_cons_zero, List.set_cons_succ]
          refine wpAnyH_done (by kernel_rfl) ?_ _
          go_wp2_with fail
          go_meet
          exact ⟨x6, x7, _, _, _, _, _, _, _, _, _, _, rfl, rfl, Lib.hid ⟨HQ0.out, HQ1.out⟩, Lib.hid ⟨HA6.out.1, HA7.out.1, hx67, HA6.out.2, HA7.out.2⟩, HB9⟩
      · obtain ⟨x7, u2, hx7, hw9, hz9, hb⟩ := cz_next u1
        rw [hw9]
        try rw [hx7]
        clear hw9
        have HB9n := Lib.hid (thn HB9.out hb)
        have HA7n := Lib.hid (And.intro hz9 (show v3.heap.size ≤ x7 by have := HB9.out.size; omega))
        have hx67 : x6 ≠ x7 := by have h1 := HA6.out.1.1; omega
        clear hx7 hz9
        clear HB9
        have HB9 := HB9n
        clear HB9n
        have HA6n := Lib.hid (And.intro (HA6.out.1.below hb) HA6.out.2)
        clear HA6
        have HA6 := HA6n
        clear HA6n
        have HA7 := HA7n
        clear HA7n
        refine hK2.out _ _ (⟨hHeld.1.below hb, hHeld.2.below hb⟩) (fun hHeld2 => ?_)
        clear hb
        clear hK2 K2 hHeld
        have hHeld := hHeld2
        clear hHeld2
        try simp (maxSteps := 4000000) only [Act.put, List.setIfInBounds_toArray, List.set_cons_zero, List.set_cons_succ]
        refine wpAnyH_ready (rs := [1]) (by kernel_rfl) (by simp) ?_
        refine AllReadyH.cons rfl (fun K2 hK2 => ?_) AllReadyH.nil
        go_simp
        with_reducible refine Calls.mono (few14 _ _ _ _ _ _ _) ?_
        rintro e u3 ⟨b0, l0, c0, p0, t0, rfl, hq0, hb⟩
        have HQ0 := Lib.hid hq0
        clear hq0
        have HB9n := Lib.hid (thn HB9.out hb)
        clear HB9
        have HB9 := HB9n
        clear HB9n
        have HA6n := Lib.hid (And.intro (HA6.out.1.below hb) HA6.out.2)
        clear HA6
        have HA6 := HA6n
        clear HA6n
        have HA7n := Lib.hid (And.intro (HA7.out.1.below hb) HA7.out.2)
        clear HA7
        have HA7 := HA7n
        clear HA7n
        refine hK2.out _ _ (⟨hHeld.1.below hb, hHeld.2.below hb⟩) (fun hHeld2 => ?_)
        clear hb
        clear hK2 K2 hHeld
        have hHeld := hHeld2
        clear hHeld2
        try simp (maxSteps := 4000000) only [Act.put, List.setIfInBounds_toArray, List.set_cons_zero, List.set_cons_succ]
        refine wpAnyH_ready (rs := [3]) (by kernel_rfl) (by simp) ?_
        refine AllReadyH.cons rfl (fun K2 hK2 => ?_) AllReadyH.nil
        go_simp
        with_reducible refine Calls.mono (few14 _ _ _ _ _ _ _) ?_
        rintro e u4 ⟨b1, l1, c1, p1, t1, rfl, hq1, hb⟩
        have HQ1 := Lib.hid hq1
        clear hq1
        have HB9n := Lib.hid (thn HB9.out hb)
        clear HB9
        have HB9 := HB9n
        clear HB9n
        have HA6n := Lib.hid (And.intro (HA6.out.1.below hb) HA6.out.2)
        clear HA6
        have HA6 := HA6n
        clear HA6n
        have HA7n := Lib.hid (And.intro (HA7.out.1.below hb) HA7.out.2)
        clear HA7
        have HA7 := HA7n
        clear HA7n
        refine hK2.out _ _ (⟨hHeld.1.below hb, hHeld.2.below hb⟩) (fun hHeld2 => ?_)
        clear hb
        clear hK2 K2 hHeld
        have hHeld := hHeld2
        clear hHeld2
        try simp (maxSteps := 4000000) only [Act.put, List.setIfInBounds_toArray, List.set_cons_zero, List.set_cons_succ]
        obtain ⟨-, z60, z61, z62, z63, z64, z65, -⟩ := HA6.out.1
        obtain ⟨g60, g61, g62, g63, g64, g65⟩ := HA6.out.1.fz
        refine wpAnyH_ready (rs := [6]) (by kernel_rfl) (by simp) ?_
        refine AllReadyH.cons rfl (fun K2 hK2 => ?_) AllReadyH.nil
        go_simp
        obtain ⟨u5, hw9, hz9, hs9, hk9, hb9⟩ := cap_st HA6.out.1 HA6.out.2 HB9.out b0 l0 c0 p0 t0 true
        rw [hw9]
        clear hw9 z60 g60 z61 g61 z62 g62 z63 g63 z64 g64 z65 g65
        have HA6n := Lib.hid (And.intro hz9 HA6.out.2)
        have HA7n := Lib.hid (And.intro (HA7.out.1.keep (Nat.le_of_eq hs9.symm) (hk9 _ hx67.symm)) HA7.out.2)
        have HB9n := Lib.hid hb9
        refine hK2.out _ _ (⟨hHeld.1.keep (Nat.le_of_eq hs9.symm) (hk9 _ (by have := HLT.out; have := HA6.out.2; omega)), hHeld.2.keep (Nat.le_of_eq hs9.symm) (hk9 _ (by have := HLT.out; have := HA6.out.2; omega))⟩) (fun hHeld2 => ?_)
        clear HA6 HA7 HB9 hz9 hs9 hk9 hb9
        have HA6 := HA6n
        have HA7 := HA7n
        have HB9 := HB9n
        clear HA6n HA7n HB9n
        clear hK2 K2 hHeld
        have hHeld := hHeld2
        clear hHeld2
        try simp (maxSteps := 4000000) only [Act.put, List.setIfInBounds_toArray, List.set_cons_zero, List.set_cons_succ]
        obtain ⟨-, z70, z71, z72, z73, z74, z75, -⟩ := HA7.out.1
        obtain ⟨g70, g71, g72, g73, g74, g75⟩ := HA7.out.1.fz
        refine wpAnyH_ready (rs := [7]) (by kernel_rfl) (by simp) ?_
        refine AllReadyH.cons rfl (fun K2 hK2 => ?_) AllReadyH.nil
        go_simp
        obtain ⟨u6, hw9, hz9, hs9, hk9, hb9⟩ := cap_st HA7.out.1 HA7.out.2 HB9.out b1 l1 c1 p1 t1 true
        rw [hw9]
        clear hw9 z70 g70 z71 g71 z72 g72 z73 g73 z74 g74 z75 g75
        have HA7n := Lib.hid (And.intro hz9 HA7.out.2)
        have HA6n := Lib.hid (And.intro (HA6.out.1.keep (Nat.le_of_eq hs9.symm) (hk9 _ hx67)) HA6.out.2)
        have HB9n := Lib.hid hb9
        refine hK2.out _ _ (⟨hHeld.1.keep (Nat.le_of_eq hs9.symm) (hk9 _ (by have := HLT.out; have := HA7.out.2; omega)), hHeld.2.keep (Nat.le_of_eq hs9.symm) (hk9 _ (by have := HLT.out; have := HA7.out.2; omega))⟩) (fun hHeld2 => ?_)
        clear HA6 HA7 HB9 hz9 hs9 hk9 hb9
        have HA6 := HA6n
        have HA7 := HA7n
        have HB9 := HB9n
        clear HA6n HA7n HB9n
        clear hK2 K2 hHeld
        have hHeld := hHeld2
        clear hHeld2
        try simp (maxSteps := 4000000) only [Act.put, List.setIfInBounds_toArray, List.set_cons_zero, List.set_cons_succ]
        refine wpAnyH_done (by kernel_rfl) ?_ _
        go_wp2_with fail
        go_meet
        exact ⟨x6, x7, _, _, _, _, _, _, _, _, _, _, rfl, rfl, Lib.hid ⟨HQ0.out, HQ1.out⟩, Lib.hid ⟨HA6.out.1, HA7.out.1, hx67, HA6.out.2, HA7.out.2⟩, HB9⟩
    · obtain ⟨x7, u1, hx7, hw9, hz9, hb⟩ := cz_first v3
      rw [hw9]
      try rw [hx7]
      clear hw9
      have HB9 := Lib.hid hb
      have HA7n := Lib.hid (And.intro hz9 (show v3.heap.size ≤ x7 by omega))
      clear hx7 hz9
      have HA7 := HA7n
      clear HA7n
      refine hK2.out _ _ (⟨HX3.out.below hb, HY3.out.below hb⟩) (fun hHeld2 => ?_)
      clear hb
      clear hK2 K2 hHeld
      have hHeld := hHeld2
      clear hHeld2
      try simp (maxSteps := 4000000) only [Act.put, List.setIfInBounds_toArray, List.set_cons_zero, List.set_cons_succ]
      refine wpAnyH_ready (rs := [1, 4]) (by kernel_rfl) (by simp) ?_
      refine AllReadyH.cons rfl (fun K2 hK2 => ?_) (AllReadyH.cons rfl (fun K2 hK2 => ?_) AllReadyH.nil)
      all_goals go_simp
      · with_reducible refine Calls.mono (few14 _ _ _ _ _ _ _) ?_
        rintro e u2 ⟨b0, l0, c0, p0, t0, rfl, hq0, hb⟩
        have HQ0 := Lib.hid hq0
        clear hq0
        have HB9n := Lib.hid (thn HB9.out hb)
        clear HB9
        have HB9 := HB9n
        clear HB9n
        have HA7n := Lib.hid (And.intro (HA7.out.1.below hb) HA7.out.2)
        clear HA7
        have HA7 := HA7n
        clear HA7n
        refine hK2.out _ _ (⟨hHeld.1.below hb, hHeld.2.below hb⟩) (fun hHeld2 => ?_)
        clear hb
        clear hK2 K2 hHeld
        have hHeld := hHeld2
        clear hHeld2
        try simp (maxSteps := 4000000) only [Act.put, List.setIfInBounds_toArray, List.set_cons_zero, List.set_cons_succ]
        refine wpAnyH_ready (rs := [3, 4]) (by kernel_rfl) (by simp) ?_
        refine AllReadyH.cons rfl (fun K2 hK2 => ?_) (AllReadyH.cons rfl (fun K2 hK2 => ?_) AllReadyH.nil)
        all_goals go_simp
        · with_reducible refine Calls.mono (few14 _ _ _ _ _ _ _) ?_
          rintro e u3 ⟨b1, l1, c1, p1, t1, rfl, hq1, hb⟩
          have HQ1 := Lib.hid hq1
          clear hq1
          have HB9n := Lib.hid (thn HB9.out hb)
          clear HB9
          have HB9 := HB9n
          clear HB9n
          have HA7n := Lib.hid (And.intro (HA7.out.1.below hb) HA7.out.2)
          clear HA7
          have HA7 := HA7n
          clear HA7n
          refine hK2.out _ _ (⟨hHeld.1.below hb, hHeld.2.below hb⟩) (fun hHeld2 => ?_)
          clear hb
          clear hK2 K2 hHeld
          have hHeld := hHeld2
          clear hHeld2
          try simp (maxSteps := 4000000) only [Act.put, List.setIfInBounds_toArray, List.set_cons_zero, List.set_cons_succ]
          refine wpAnyH_ready (rs := [4]) (by kernel_rfl) (by simp) ?_
          refine AllReadyH.cons rfl (fun K2 hK2 => ?_) AllReadyH.nil
          go_simp
          obtain ⟨x6, u4, hx6, hw9, hz9, hb⟩ := cz_next u3
          rw [hw9]
          try rw [hx6]
          clear hw9
          have HB9n := Lib.hid (thn HB9.out hb)
          have HA6n := Lib.hid (And.intro hz9 (show v3.heap.size ≤ x6 by have := HB9.out.size; omega))
          have hx67 : x6 ≠ x7 := by have h1 := HA7.out.1.1; omega
          clear hx6 hz9
          clear HB9
          have HB9 := HB9n
          clear HB9n
          have HA7n := Lib.hid (And.intro (HA7.out.1.below hb) HA7.out.2)
          clear HA7
          have HA7 := HA7n
          clear HA7n
          have HA6 := HA6n
          clear HA6n
          refine hK2.out _ _ (⟨hHeld.1.below hb, hHeld.2.below hb⟩) (fun hHeld2 => ?_)
          clear hb
          clear hK2 K2 hHeld
          have hHeld := hHeld2
          clear hHeld2
          try simp (maxSteps := 4000000) only [Act.put, List.setIfInBounds_toArray, List.set_cons_zero, List.set_cons_succ]
          obtain ⟨-, z60, z61, z62, z63, z64, z65, -⟩ := HA6.out.1
          obtain ⟨g60, g61, g62, g63, g64, g65⟩ := HA6.out.1.fz
          refine wpAnyH_ready (rs := [6]) (by kernel_rfl) (by simp) ?_
          refine AllReadyH.cons rfl (fun K2 hK2 => ?_) AllReadyH.nil
          go_simp
          obtain ⟨u5, hw9, hz9, hs9, hk9, hb9⟩ := cap_st HA6.out.1 HA6.out.2 HB9.out b0 l0 c0 p0 t0 true
          rw [hw9]
          clear hw9 z60 g60 z61 g61 z62 g62 z63 g63 z64 g64 z65 g65
          have HA6n := Lib.hid (And.intro hz9 HA6.out.2)
          have HA7n := Lib.hid (And.intro (HA7.out.1.keep (Nat.le_of_eq hs9.symm) (hk9 _ hx67.symm)) HA7.out.2)
          have HB9n := Lib.hid hb9
          refine hK2.out _ _ (⟨hHeld.1.keep (Nat.le_of_eq hs9.symm) (hk9 _ (by have := HLT.out; have := HA6.out.2; omega)), hHeld.2.keep (Nat.le_of_eq hs9.symm) (hk9 _ (by have := HLT.out; have := HA6.out.2; omega))⟩) (fun hHeld2 => ?_)
          clear HA6 HA7 HB9 hz9 hs9 hk9 hb9
          have HA6 := HA6n
          have HA7 := HA7n
          have HB9 := HB9n
          clear HA6n HA7n HB9n
          clear hK2 K2 hHeld
          have hHeld := hHeld2
          clear hHeld2
          try simp (maxSteps := 4000000) only [Act.put, List.setIfInBounds_toArray, List.set_cons_zero, List.set_cons_succ]
          obtain ⟨-, z70, z71, z72, z73, z74, z75, -⟩ := HA7.out.1
          obtain ⟨g70, g71, g72, g73, g74, g75⟩ := HA7.out.1.fz
          refine wpAnyH_ready (rs := [7]) (by kernel_rfl) (by simp) ?_
          refine AllReadyH.cons rfl (fun K2 hK2 => ?_) AllReadyH.nil
          go_simp
          obtain ⟨u6, hw9, hz9, hs9, hk9, hb9⟩ := cap_st HA7.out.1 HA7.out.2 HB9.out b1 l1 c1 p1 t1 true
          rw [hw9]
          clear hw9 z70 g70 z71 g71 z72 g72 z73 g73 z74 g74 z75 g75
          have HA7n := Lib.hid (And.intro hz9 HA7.out.2)
          have HA6n := Lib.hid (And.intro (HA6.out.1.keep (Nat.le_of_eq hs9.symm) (hk9 _ hx67)) HA6.out.2)
          have HB9n := Lib.hid hb9
          refine hK2.out _ _ (⟨hHeld.1.keep (Nat.le_of_eq hs9.symm) (hk9 _ (by have := HLT.out; have := HA7.out.2; omega)), hHeld.2.keep (Nat.le_of_eq hs9.symm) (hk9 _ (by have := HLT.out; have := HA7.out.2; omega))⟩) (fun hHeld2 => ?_)
          clear HA6 HA7 HB9 hz9 hs9 hk9 hb9
          have HA6 := HA6n
          have HA7 := HA7n
          have HB9 := HB9n
          clear HA6n HA7n HB9n
          clear hK2 K2 hHeld
          have hHeld := hHeld2
          clear hHeld2
          try simp (maxSteps := 4000000) only [Act.put, List.setIfInBounds_toArray, List.set_cons_zero, List.set_cons_succ]
          refine wpAnyH_done (by kernel_rfl) ?_ _
          go_wp2_with fail
          go_meet
          exact ⟨x6, x7, _, _, _, _, _, _, _, _, _, _, rfl, rfl, Lib.hid ⟨HQ0.out, HQ1.out⟩, Lib.hid ⟨HA6.out.1, HA7.out.1, hx67, HA6.out.2, HA7.out.2⟩, HB9⟩
        · obtain ⟨x6, u3, hx6, hw9, hz9, hb⟩ := cz_next u2
          rw [hw9]
          try rw [hx6]
          clear hw9
          have HB9n := Lib.hid (thn HB9.out hb)
          have HA6n := Lib.hid (And.intro hz9 (show v3.heap.size ≤ x6 by have := HB9.out.size; omega))
          have hx67 : x6 ≠ x7 := by have h1 := HA7.out.1.1; omega
          clear hx6 hz9
          clear HB9
          have HB9 := HB9n
          clear HB9n
          have HA7n := Lib.hid (And.intro (HA7.out.1.below hb) HA7.out.2)
          clear HA7
          have HA7 := HA7n
          clear HA7n
          have HA6 := HA6n
          clear HA6n
          refine hK2.out _ _ (⟨hHeld.1.below hb, hHeld.2.below hb⟩) (fun hHeld2 => ?_)
          clear hb
          clear hK2 K2 hHeld
          have hHeld := hHeld2
          clear hHeld2
          try simp (maxSteps := 4000000) only [Act.put, List.setIfInBounds_toArray, List.set_cons_zero, List.set_cons_succ]
          refine wpAnyH_ready (rs := [3]) (by kernel_rfl) (by simp) ?_
          refine AllReadyH.cons rfl (fun K2 hK2 => ?_) AllReadyH.nil
          go_simp
          with_reducible refine Calls.mono (few14 _ _ _ _ _ _ _) ?_
          rintro e u4 ⟨b1, l1, c1, p1, t1, rfl, hq1, hb⟩
          have HQ1 := Lib.hid hq1
          clear hq1
          have HB9n := Lib.hid (thn HB9.out hb)
          clear HB9
          have HB9 := HB9n
          clear HB9n
          have HA6n := Lib.hid (And.intro (HA6.out.1.below hb) HA6.out.2)
          clear HA6
          have HA6 := HA6n
          clear HA6n
          have HA7n := Lib.hid (And.intro (HA7.out.1.below hb) HA7.out.2)
          clear HA7
          have HA7 := HA7n
          clear HA7n
          refine hK2.out _ _ (⟨hHeld.1.below hb, hHeld.2.below hb⟩) (fun hHeld2 => ?_)
          clear hb
          clear hK2 K2 hHeld
          have hHeld := hHeld2
          clear hHeld2
          try simp (maxSteps := 4000000) only [Act.put, List.setIfInBounds_toArray, List.set_cons_zero, List.set_cons_succ]
          obtain ⟨-, z60, z61, z62, z63, z64, z65, -⟩ := HA6.out.1
          obtain ⟨g60, g61, g62, g63, g64, g65⟩ := HA6.out.1.fz
          refine wpAnyH_ready (rs := [6]) (by kernel_rfl) (by simp) ?_
          refine AllReadyH.cons rfl (fun K2 hK2 => ?_) AllReadyH.nil
          go_simp
          obtain ⟨u5, hw9, hz9, hs9, hk9, hb9⟩ := cap_st HA6.out.1 HA6.out.2 HB9.out b0 l0 c0 p0 t0 true
          rw [hw9]
          clear hw9 z60 g60 z61 g61 z62 g62 z63 g63 z64 g64 z65 g65
          have HA6n := Lib.hid (And.intro hz9 HA6.out.2)
          have HA7n := Lib.hid (And.intro (HA7.out.1.keep (Nat.le_of_eq hs9.symm) (hk9 _ hx67.symm)) HA7.out.2)
          have HB9n := Lib.hid hb9
          refine hK2.out _ _ (⟨hHeld.1.keep (Nat.le_of_eq hs9.symm) (hk9 _ (by have := HLT.out; have := HA6.out.2; omega)), hHeld.2.keep (Nat.le_of_eq hs9.symm) (hk9 _ (by have := HLT.out; have := HA6.out.2; omega))⟩) (fun hHeld2 => ?_)
          clear HA6 HA7 HB9 hz9 hs9 hk9 hb9
          have HA6 := HA6n
          have HA7 := HA7n
          have HB9 := HB9n
          clear HA6n HA7n HB9n
          clear hK2 K2 hHeld
          have hHeld := hHeld2
          clear hHeld2
          try simp (maxSteps := 4000000) only [Act.put, List.setIfInBounds_toArray, List.set_cons_zero, List.set_cons_succ]
          obtain ⟨-, z70, z71, z72, z73, z74, z75, -⟩ := HA7.out.1
          obtain ⟨g70, g71, g72, g73, g74, g75⟩ := HA7.out.1.fz
          refine wpAnyH_ready (rs := [7]) (by kernel_rfl) (by simp) ?_
          refine AllReadyH.cons rfl (fun K2 hK2 => ?_) AllReadyH.nil
          go_simp
          obtain ⟨u6, hw9, hz9, hs9, hk9, hb9⟩ := cap_st HA7.out.1 HA7.out.2 HB9.out b1 l1 c1 p1 t1 true
          rw [hw9]
          clear hw9 z70 g70 z71 g71 z72 g72 z73 g73 z74 g74 z75 g75
          have HA7n := Lib.hid (And.intro hz9 HA7.out.2)
          have HA6n := Lib.hid (And.intro (HA6.out.1.keep (Nat.le_of_eq hs9.symm) (hk9 _ hx67)) HA6.out.2)
          have HB9n := Lib.hid hb9
          refine hK2.out _ _ (⟨hHeld.1.keep (Nat.le_of_eq hs9.symm) (hk9 _ (by have := HLT.out; have := HA7.out.2; omega)), hHeld.2.keep (Nat.le_of_eq hs9.symm) (hk9 _ (by have := HLT.out; have := HA7.out.2; omega))⟩) (fun hHeld2 => ?_)
          clear HA6 HA7 HB9 hz9 hs9 hk9 hb9
          have HA6 := HA6n
          have HA7 := HA7n
          have HB9 := HB9n
          clear HA6n HA7n HB9n
          clear hK2 K2 hHeld
          have hHeld := hHeld2
          clear hHeld2
          try simp (maxSteps := 4000000) only [Act.put, List.setIfInBounds_toArray, List.set_cons_zero, List.set_cons_succ]
          refine wpAnyH_done (by kernel_rfl) ?_ _
          go_wp2_with fail
          go_meet
          exact ⟨x6, x7, _, _, _, _, _, _, _, _, _, _, rfl, rfl, Lib.hid ⟨HQ0.out, HQ1.out⟩, Lib.hid ⟨HA6.out.1, HA7.out.1, hx67, HA6.out.2, HA7.out.2⟩, HB9⟩
      · obtain ⟨x6, u2, hx6, hw9, hz9, hb⟩ := cz_next u1
        rw [hw9]
        try rw [hx6]
        clear hw9
        have HB9n := Lib.hid (thn HB9.out hb)
        have HA6n := Lib.hid (And.intro hz9 (show v3.heap.size ≤ x6 by have := HB9.out.size; omega))
        have hx67 : x6 ≠ x7 := by have h1 := HA7.out.1.1; omega
        clear hx6 hz9
        clear HB9
        have HB9 := HB9n
        clear HB9n
        have HA7n := Lib.hid (And.intro (HA7.out.1.below hb) HA7.out.2)
        clear HA7
        have HA7 := HA7n
        clear HA7n
        have HA6 := HA6n
        clear HA6n
        refine hK2.out _ _ (⟨hHeld.1.below hb, hHeld.2.below hb⟩) (fun hHeld2 => ?_)
        clear hb
        clear hK2 K2 hHeld
        have hHeld := hHeld2
        clear hHeld2
        try simp (maxSteps := 4000000) only [Act.put, List.setIfInBounds_toArray, List.set_cons_zero, List.set_cons_succ]
        refine wpAnyH_ready (rs := [1]) (by kernel_rfl) (by simp) ?_
        refine AllReadyH.cons rfl (fun K2 hK2 => ?_) AllReadyH.nil
        go_simp
        with_reducible refine Calls.mono (few14 _ _ _ _ _ _ _) ?_
        rintro e u3 ⟨b0, l0, c0, p0, t0, rfl, hq0, hb⟩
        have HQ0 := Lib.hid hq0
        clear hq0
        have HB9n := Lib.hid (thn HB9.out hb)
        clear HB9
        have HB9 := HB9n
        clear HB9n
        have HA6n := Lib.hid (And.intro (HA6.out.1.below hb) HA6.out.2)
        clear HA6
        have HA6 := HA6n
        clear HA6n
        have HA7n := Lib.hid (And.intro (HA7.out.1.below hb) HA7.out.2)
        clear HA7
        have HA7 := HA7n
        clear HA7n
        refine hK2.out _ _ (⟨hHeld.1.below hb, hHeld.2.below hb⟩) (fun hHeld2 => ?_)
        clear hb
        clear hK2 K2 hHeld
        have hHeld := hHeld2
        clear hHeld2
        try simp (maxSteps := 4000000) only [Act.put, List.setIfInBounds_toArray, List.set_cons_zero, List.set_cons_succ]
        refine wpAnyH_ready (rs := [3]) (by kernel_rfl) (by simp) ?_
        refine AllReadyH.cons rfl (fun K2 hK2 => ?_) AllReadyH.nil
        go_simp
        with_reducible refine Calls.mono (few14 _ _ _ _ _ _ _) ?_
        rintro e u4 ⟨b1, l1, c1, p1, t1, rfl, hq1, hb⟩
        have HQ1 := Lib.hid hq1
        clear hq1
        have HB9n := Lib.hid (thn HB9.out hb)
        clear HB9
        have HB9 := HB9n
        clear HB9n
        have HA6n := Lib.hid (And.intro (HA6.out.1.below hb) HA6.out.2)
        clear HA6
        have HA6 := HA6n
        clear HA6n
        have HA7n := Lib.hid (And.intro (HA7.out.1.below hb) HA7.out.2)
        clear HA7
        have HA7 := HA7n
        clear HA7n
        refine hK2.out _ _ (⟨hHeld.1.below hb, hHeld.2.below hb⟩) (fun hHeld2 => ?_)
        clear hb
        clear hK2 K2 hHeld
        have hHeld := hHeld2
        clear hHeld2
        try simp (maxSteps := 4000000) only [Act.put, List.setIfInBounds_toArray, List.set_cons_zero, List.set_cons_succ]
        obtain ⟨-, z60, z61, z62, z63, z64, z65, -⟩ := HA6.out.1
        obtain ⟨g60, g61, g62, g63, g64, g65⟩ := HA6.out.1.fz
        refine wpAnyH_ready (rs := [6]) (by kernel_rfl) (by simp) ?_
        refine AllReadyH.cons rfl (fun K2 hK2 => ?_) AllReadyH.nil
        go_simp
        obtain ⟨u5, hw9, hz9, hs9, hk9, hb9⟩ := cap_st HA6.out.1 HA6.out.2 HB9.out b0 l0 c0 p0 t0 true
        rw [hw9]
        clear hw9 z60 g60 z61 g61 z62 g62 z63 g63 z64 g64 z65 g65
        have HA6n := Lib.hid (And.intro hz9 HA6.out.2)
        have HA7n := Lib.hid (And.intro (HA7.out.1.keep (Nat.le_of_eq hs9.symm) (hk9 _ hx67.symm)) HA7.out.2)
        have HB9n := Lib.hid hb9
        refine hK2.out _ _ (⟨hHeld.1.keep (Nat.le_of_eq hs9.symm) (hk9 _ (by have := HLT.out; have := HA6.out.2; omega)), hHeld.2.keep (Nat.le_of_eq hs9.symm) (hk9 _ (by have := HLT.out; have := HA6.out.2; omega))⟩) (fun hHeld2 => ?_)
        clear HA6 HA7 HB9 hz9 hs9 hk9 hb9
        have HA6 := HA6n
        have HA7 := HA7n
        have HB9 := HB9n
        clear HA6n HA7n HB9n
        clear hK2 K2 hHeld
        have hHeld := hHeld2
        clear hHeld2
        try simp (maxSteps := 4000000) only [Act.put, List.setIfInBounds_toArray, List.set_cons_zero, List.set_cons_succ]
        obtain ⟨-, z70, z71, z72, z73, z74, z75, -⟩ := HA7.out.1
        obtain ⟨g70, g71, g72, g73, g74, g75⟩ := HA7.out.1.fz
        refine wpAnyH_ready (rs := [7]) (by kernel_rfl) (by simp) ?_
        refine AllReadyH.cons rfl (fun K2 hK2 => ?_) AllReadyH.nil
        go_simp
        obtain ⟨u6, hw9, hz9, hs9, hk9, hb9⟩ := cap_st HA7.out.1 HA7.out.2 HB9.out b1 l1 c1 p1 t1 true
        rw [hw9]
        clear hw9 z70 g70 z71 g71 z72 g72 z73 g73 z74 g74 z75 g75
        have HA7n := Lib.hid (And.intro hz9 HA7.out.2)
        have HA6n := Lib.hid (And.intro (HA6.out.1.keep (Nat.le_of_eq hs9.symm) (hk9 _ hx67)) HA6.out.2)
        have HB9n := Lib.hid hb9
        refine hK2.out _ _ (⟨hHeld.1.keep (Nat.le_of_eq hs9.symm) (hk9 _ (by have := HLT.out; have := HA7.out.2; omega)), hHeld.2.keep (Nat.le_of_eq hs9.symm) (hk9 _ (by have := HLT.out; have := HA7.out.2; omega))⟩) (fun hHeld2 => ?_)
        clear HA6 HA7 HB9 hz9 hs9 hk9 hb9
        have HA6 := HA6n
        have HA7 := HA7n
        have HB9 := HB9n
        clear HA6n HA7n HB9n
        clear hK2 K2 hHeld
        have hHeld := hHeld2
        clear hHeld2
        try simp (maxSteps := 4000000) only [Act.put, List.setIfInBounds_toArray, List.set_cons_zero, List.set_cons_succ]
        refine wpAnyH_done (by kernel_rfl) ?_ _
        go_wp2_with fail
        go_meet
        exact ⟨x6, x7, _, _, _, _, _, _, _, _, _, _, rfl, rfl, Lib.hid ⟨HQ0.out, HQ1.out⟩, Lib.hid ⟨HA6.out.1, HA7.out.1, hx67, HA6.out.2, HA7.out.2⟩, HB9⟩
  case rest =>
    obtain ⟨x6, x7, b1, l1, c1, p1, t1, b2, l2, c2, p2, t2, rfl, rfl, HF, HC, HB4⟩ := hcut
    rename World => w4
    clear HX3 HY3
    obtain ⟨⟨q1, q2, q3, q4, q5, q6, q7, q8, q9, q10, q11⟩, ⟨k1, k2, k3, k4, k5, k6, k7, k8, k9, k10, k11⟩⟩ := HF.out
    clear HF
    obtain ⟨hc6, hc7, h67, hl6, hl7⟩ := HC.out
    have HL := Lib.hid (And.intro h67 (And.intro hl6 hl7))
    obtain ⟨-, a0, a1, a2, a3, a4, a5, -⟩ := hc6
    obtain ⟨-, d0, d1, d2, d3, d4, d5, -⟩ := hc7
    obtain ⟨fa0, fa1, fa2, fa3, fa4, fa5⟩ := HC.out.1.fz
    obtain ⟨fd0, fd1, fd2, fd3, fd4, fd5⟩ := HC.out.2.1.fz
    have h76 : x7 ≠ x6 := fun h => h67 h.symm
    have wq : 0 ≤ b1 + 15 := by omega
    go_upto_region 8 with (fail)
    have HC6 : Hid (CapAt x6 ((((w4.setCell ⟨x6, 4, none⟩ (.int .i64 1)).setCell ⟨x7, 4, none⟩ (.int .i64 1)).setCell ⟨x6, 3, none⟩ (.int .i64 31)).setCell ⟨x6, 2, none⟩ (.int .i64 ((b1 + 15) / 16 * 16))) b1 l1 ((b1 + 15) / 16 * 16) 31 1 true) := Lib.hid ((((HC.out.1.s4 1).far h67).s3 31).s2 _)
    have HC7 : Hid (CapAt x7 ((((w4.setCell ⟨x6, 4, none⟩ (.int .i64 1)).setCell ⟨x7, 4, none⟩ (.int .i64 1)).setCell ⟨x6, 3, none⟩ (.int .i64 31)).setCell ⟨x6, 2, none⟩ (.int .i64 ((b1 + 15) / 16 * 16))) b2 l2 c2 p2 1 true) := Lib.hid ((((HC.out.2.1.far h76).s4 1).far h76).far h76)
    have HB5 : Hid (Below v3.heap.size v3 ((((w4.setCell ⟨x6, 4, none⟩ (.int .i64 1)).setCell ⟨x7, 4, none⟩ (.int .i64 1)).setCell ⟨x6, 3, none⟩ (.int .i64 31)).setCell ⟨x6, 2, none⟩ (.int .i64 ((b1 + 15) / 16 * 16)))) := Lib.hid ((((HB4.out.setCell hl6 _).setCell hl7 _).setCell hl6 _).setCell hl6 _)
    clear HC HB4 a0 a1 a2 a3 a4 a5 d0 d1 d2 d3 d4 d5 fa0 fa1 fa2 fa3 fa4 fa5 fd0 fd1 fd2 fd3 fd4 fd5 h67 h76 hl6 hl7 wq
    generalize hw5 : World.setCell (World.setCell (World.setCell (World.setCell w4 _ _) _ _) _ _) _ _ = w5 at *
    clear hw5
    have hC0 : 0 ≤ (b1 + 15) / 16 * 16 := by omega
    have hC1 : b1 ≤ (b1 + 15) / 16 * 16 := by omega
    have hC2 : (b1 + 15) / 16 * 16 ≤ b1 + 15 := by omega
    have HC3 : Hid ((b1 + 15) / 16 * 16 % 16 = 0) := Lib.hid (by omega)
    generalize (b1 + 15) / 16 * 16 = C0 at *
    obtain ⟨C, rfl⟩ : ∃ n : Nat, C0 = n := ⟨C0.toNat, by omega⟩
    clear hC0
    have HM5 := Lib.hid (HM3.out.later HB5.out)
    have HB5w := Lib.hid (HB3.out.trans (HB5.out.mono HB3.out.size))
    obtain ⟨-, a0, a1, a2, a3, a4, a5, -⟩ := HC6.out
    obtain ⟨-, d0, d1, d2, d3, d4, d5, -⟩ := HC7.out
    by_cases h48 : l1 < 48
    · go_wp2
      go_ret
      exact ⟨rfl, HB5w.out⟩
    · obtain ⟨L1, rfl⟩ : ∃ n : Nat, b2 = n := ⟨b2.toNat, by omega⟩
      obtain ⟨L2, rfl⟩ : ∃ n : Nat, l2 = n := ⟨l2.toNat, by omega⟩
      obtain ⟨L4, rfl⟩ : ∃ n : Nat, p2 = n := ⟨p2.toNat, by omega⟩
      obtain ⟨LD, hLD⟩ : ∃ n : Nat, c2 - L1 + 1048576 = n := ⟨(c2 - L1 + 1048576).toNat, by omega⟩
      have HLD := Lib.hid hLD
      clear hLD
      have HBD := Lib.hid (And.intro q1 (And.intro q2 (And.intro q3 (And.intro q4 (And.intro hC1 (And.intro (show (C : Int) ≤ b1 + 64 by omega) (show (C : Int) + 16 ≤ b1 + l1 by omega)))))))
      have HAL : Hid (aliveB s4b (L1 : Nat) (L2 : Nat) c2 (L4 : Nat) (1 : Nat) true = true) := Lib.hid (P4.start.alive k1 k2 k3 k4 k5 k6 k8 k9)
      have HSL : ∀ (σ : MS) (q : Int), P4 σ → phasB 31 q = true → slotE σ b1 l1 (C : Int) 31 1 true q = 0 := fun σ q h hq => h.slot HBD.out.1 HBD.out.2.1 HBD.out.2.2.1 HBD.out.2.2.2.1 HBD.out.2.2.2.2.1 HBD.out.2.2.2.2.2.1 HBD.out.2.2.2.2.2.2 HC3.out hq
      have HSL := Lib.hid HSL
      have HAC : ∀ (σ : MS) (q : Int), P4 σ → phasB 31 q = true → accE σ b1 l1 (C : Int) 31 1 true ((16 : Nat) : Int) q = 0 := fun σ q h hq => h.acc HBD.out.1 HBD.out.2.1 HBD.out.2.2.1 HBD.out.2.2.2.1 HBD.out.2.2.2.2.1 HBD.out.2.2.2.2.2.1 (by decide) HBD.out.2.2.2.2.2.2 hq
      have HAC := Lib.hid HAC
      have HL0 : Hid (col3 x6 = 0) := Lib.hid (HM3.out.old HL.out.2.1)
      clear q1 q2 q3 q4 q5 q6 q7 q8 q9 q10 q11 k1 k2 k3 k4 k5 k6 k7 k8 k9 k10 k11 hC1 hC2
      go_wp2_with fail
      with_reducible refine Calls.mono (hstore_yes b1 l1 31 1 C true L1 L2 LD L4 1 c2 HM5.out (HSL.out _ 8 P4.start (by decide)) HAL.out HLD.out) ?_
      rintro e v6 ⟨rfl, col6, hm6, hc6, ho6, hb6⟩
      have HX6 := Lib.hid (HC6.out.keep hb6.size (ho6 _ HC6.out.1 (by rw [HL0.out]; decide)))
      have HX60 : Hid (col6 x6 = 0) := Lib.hid ((hc6 _ HC6.out.1).trans HL0.out)
      have HM6 := Lib.hid hm6
      have HB6 := Lib.hid (HB5w.out.trans (hb6.mono HB0.out.size))
      clear hm6 hc6 ho6 hb6 a0 a1 a2 a3 a4 a5 d0 d1 d2 d3 d4 d5 HC6 HC7
      obtain ⟨-, a0, a1, a2, a3, a4, a5, -⟩ := HX6.out
      go_wp2_with fail
      refine (ckload_yes b1 l1 31 1 C 16 true HM6.out (by decide) (HAC.out _ 1 (P4.start.kp _ _) (by decide))).mono ?_
      rintro e v7 ⟨D, rfl, hD, hP, hb7⟩
      have HRW7 : Hid (RowU D 16 v7 (fun _ => 0)) := Lib.hid (hP.row (fun i hi => by
        show (if C ≤ C + i ∧ C + i < C + 16 then 0 else s4b.c (C + i)) = 0
        rw [if_pos (by omega)]))
      have HX7 := Lib.hid (HX6.out.below hb7)
      have HM7 := Lib.hid (HM6.out.later hb7)
      have HB7 := Lib.hid (HB6.out.trans (hb7.mono HB6.out.size))
      have HD : Hid (col6 D = 0) := Lib.hid (HM6.out.old hD)
      clear hP hb7 hD a0 a1 a2 a3 a4 a5
      obtain ⟨-, a0, a1, a2, a3, a4, a5, -⟩ := HX7.out
      go_wp2_with fail
      refine (ckstore_yes b1 l1 31 1 C 16 D 0 16 true (fun _ => 0) HM7.out (by decide) (by decide) (HAC.out _ 2 (P4.start.kp _ _) (by decide)) HRW7.out.at_ (fun _ _ => by decide) HD.out).mono ?_
      rintro e v8 ⟨rfl, col8, hm8, hc8, ho8, hb8⟩
      have HX8 := Lib.hid (HX7.out.keep hb8.size (ho8 _ HX7.out.1 (by rw [HX60.out]; decide)))
      have HRW8 := Lib.hid (HRW7.out.keep hb8.size (ho8 _ HRW7.out.1 (by rw [HD.out]; decide)))
      have HM8 := Lib.hid hm8
      have HB8 := Lib.hid (HB7.out.trans (hb8.mono HB0.out.size))
      clear hm8 hc8 ho8 hb8 a0 a1 a2 a3 a4 a5
      obtain ⟨-, a0, a1, a2, a3, a4, a5, -⟩ := HX8.out
      go_wp2_with fail
      refine (hload_none b1 l1 C 31 1 true HM8.out (HSL.out _ 4 ((P4.start.kp _ _).wr _ _ _) (by decide)) ?_).mono ?_
      · rw [show ((C : Int) / 16).toNat = C / 16 by omega]
        show (_ && !decide (grF (C : Int) ≤ C / 16 ∧ C / 16 < grF (C : Int) + grN (C : Int) ((16 : Nat) : Int))) = false
        rw [decide_eq_true (by unfold grF grN; omega), Bool.not_true, Bool.and_false]
      rintro e v9 ⟨rfl, hb9⟩
      have HRW9 := Lib.hid (HRW8.out.below hb9)
      have HB9 := Lib.hid (HB8.out.trans (hb9.mono HB8.out.size))
      clear hb9 a0 a1 a2 a3 a4 a5
      go_upto_region 14 with (fail)
      have HZ := Lib.hid (CapAt.new v9 0 0 0 0 0 false 31)
      have HRW := Lib.hid (HRW9.out.below (alc0 v9 (.cells #[.int .i64 0, .int .i64 0, .int .i64 0, .int .i64 0, .int .i64 0, .bool false] 31)))
      have HBZ := Lib.hid (HB9.out.alloc HB9.out.size (.cells #[.int .i64 0, .int .i64 0, .int .i64 0, .int .i64 0, .int .i64 0, .bool false] 31))
      generalize hx12 : v9.heap.size = x12 at *
      generalize hv10 : World.alloc v9 _ = v10 at *
      clear hv10
      have hmk := mk16
      have HTAKE := Lib.hid (fun (w' : World) (h : RowU D 16 w' (fun _ => 0) ∧ CapAt x12 w' 0 0 0 0 0 false) => And.intro (conv_row h.1 16) h.2.2)
      refine wp_region_held_drew (S := fun w' => RowU D 16 w' (fun _ => 0) ∧ CapAt x12 w' 0 0 0 0 0 false) (by kernel_rfl) ?_ (fun hHeld => ?_)
      · exact ⟨HRW.out.below (Below.refl _ _).drew, HZ.out.drew⟩
      refine wpAnyH_take (i := 0) (v := ?_) rfl (by kernel_rfl) (by kernel_rfl) (by kernel_rfl) (fun _ _ _ h => h) (Or.inl ⟨by kernel_rfl, ?_⟩) (by assumption) ?_
      rotate_left
      · (intro w hSw; (try dsimp only at hSw); (try have hTk := Hid.out HTAKE _ hSw); go_simp)
        try (with_reducible rfl)
      rotate_left
      try simp (maxSteps := 4000000) only [Act.put, List.setIfInBounds_toArray, List.set_cons_zero, List.set_cons_succ, List.getElem_toArray, List.getElem_cons_zero, List.getElem_cons_succ]
      refine wpAnyH_take (i := 1) (v := ?_) rfl (by kernel_rfl) (by kernel_rfl) (by kernel_rfl) (fun _ _ _ h => h) (Or.inl ⟨by kernel_rfl, ?_⟩) (by assumption) ?_
      rotate_left
      · (intro w hSw; (try dsimp only at hSw); (try have hTk := Hid.out HTAKE _ hSw); go_simp)
        try (with_reducible rfl)
      rotate_left
      try simp (maxSteps := 4000000) only [Act.put, List.setIfInBounds_toArray, List.set_cons_zero, List.set_cons_succ, List.getElem_toArray, List.getElem_cons_zero, List.getElem_cons_succ]
      refine wpAnyH_take (i := 2) (v := ?_) rfl (by kernel_rfl) (by kernel_rfl) (by kernel_rfl) (fun _ _ _ h => h) (Or.inl ⟨by kernel_rfl, ?_⟩) (by assumption) ?_
      rotate_left
      · (intro w hSw; (try dsimp only at hSw); (try have hTk := Hid.out HTAKE _ hSw); go_simp)
        try (with_reducible rfl)
      rotate_left
      try simp (maxSteps := 4000000) only [Act.put, List.setIfInBounds_toArray, List.set_cons_zero, List.set_cons_succ, List.getElem_toArray, List.getElem_cons_zero, List.getElem_cons_succ]
      refine wpAnyH_take (i := 3) (v := ?_) rfl (by kernel_rfl) (by kernel_rfl) (by kernel_rfl) (fun _ _ _ h => h) (Or.inl ⟨by kernel_rfl, ?_⟩) (by assumption) ?_
      rotate_left
      · (intro w hSw; (try dsimp only at hSw); (try have hTk := Hid.out HTAKE _ hSw); go_simp)
        try (with_reducible rfl)
      rotate_left
      try simp (maxSteps := 4000000) only [Act.put, List.setIfInBounds_toArray, List.set_cons_zero, List.set_cons_succ, List.getElem_toArray, List.getElem_cons_zero, List.getElem_cons_succ]
      refine wpAnyH_take (i := 4) (v := ?_) rfl (by kernel_rfl) (by kernel_rfl) (by kernel_rfl) (fun _ _ _ h => h) (Or.inl ⟨by kernel_rfl, ?_⟩) (by assumption) ?_
      rotate_left
      · (intro w hSw; (try dsimp only at hSw); (try have hTk := Hid.out HTAKE _ hSw); go_simp)
        try (with_reducible rfl)
      rotate_left
      try simp (maxSteps := 4000000) only [Act.put, List.setIfInBounds_toArray, List.set_cons_zero, List.set_cons_succ, List.getElem_toArray, List.getElem_cons_zero, List.getElem_cons_succ]
      refine wpAnyH_take (i := 5) (v := ?_) rfl (by kernel_rfl) (by kernel_rfl) (by kernel_rfl) (fun _ _ _ h => h) (Or.inl ⟨by kernel_rfl, ?_⟩) (by assumption) ?_
      rotate_left
      · (intro w hSw; (try dsimp only at hSw); (try have hTk := Hid.out HTAKE _ hSw); go_simp)
        try (with_reducible rfl)
      rotate_left
      try simp (maxSteps := 4000000) only [Act.put, List.setIfInBounds_toArray, List.set_cons_zero, List.set_cons_succ, List.getElem_toArray, List.getElem_cons_zero, List.getElem_cons_succ]
      refine wpAnyH_take (i := 6) (v := ?_) rfl (by kernel_rfl) (by kernel_rfl) (by kernel_rfl) (fun _ _ _ h => h) (Or.inl ⟨by kernel_rfl, ?_⟩) (by assumption) ?_
      rotate_left
      · (intro w hSw; (try dsimp only at hSw); (try have hTk := Hid.out HTAKE _ hSw); go_simp)
        try (with_reducible rfl)
      rotate_left
      try simp (maxSteps := 4000000) only [Act.put, List.setIfInBounds_toArray, List.set_cons_zero, List.set_cons_succ, List.getElem_toArray, List.getElem_cons_zero, List.getElem_cons_succ]
      refine wpAnyH_take (i := 7) (v := ?_) rfl (by kernel_rfl) (by kernel_rfl) (by kernel_rfl) (fun _ _ _ h => h) (Or.inl ⟨by kernel_rfl, ?_⟩) (by assumption) ?_
      rotate_left
      · (intro w hSw; (try dsimp only at hSw); (try have hTk := Hid.out HTAKE _ hSw); go_simp)
        try (with_reducible rfl)
      rotate_left
      try simp (maxSteps := 4000000) only [Act.put, List.setIfInBounds_toArray, List.set_cons_zero, List.set_cons_succ, List.getElem_toArray, List.getElem_cons_zero, List.getElem_cons_succ]
      refine wpAnyH_take (i := 8) (v := ?_) rfl (by kernel_rfl) (by kernel_rfl) (by kernel_rfl) (fun _ _ _ h => h) (Or.inl ⟨by kernel_rfl, ?_⟩) (by assumption) ?_
      rotate_left
      · (intro w hSw; (try dsimp only at hSw); (try have hTk := Hid.out HTAKE _ hSw); go_simp)
        try (with_reducible rfl)
      rotate_left
      try simp (maxSteps := 4000000) only [Act.put, List.setIfInBounds_toArray, List.set_cons_zero, List.set_cons_succ, List.getElem_toArray, List.getElem_cons_zero, List.getElem_cons_succ]
      refine wpAnyH_ready (rs := [9]) (by kernel_rfl) (by simp) ?_
      refine AllReadyH.cons rfl (fun K2 hK2 => ?_) AllReadyH.nil
      go_simp
      obtain ⟨v11, hv11⟩ : ∃ v, (v10.alloc (.cells (madeCells #[.int .u8 0] 16) 5)).drew = v := ⟨_, rfl⟩
      have hb11 : Below v10.heap.size v10 v11 := by rw [← hv11]; exact (alc0 _ _).drew
      have hcv := conv_row (show RowU v10.heap.size 16 v11 (fun _ => 0) by rw [← hv11]; exact (row16 v10).below (Below.refl _ _).drew) 16
      rw [hv11]
      have HBE := Lib.hid (HBZ.out.trans (hb11.mono HBZ.out.size))
      refine hK2.out _ _ (⟨HRW.out.below hb11, HZ.out.below hb11⟩) (fun hHeld2 => ?_)
      clear hK2 K2 hHeld
      have hHeld := hHeld2
      clear hHeld2
      try simp (maxSteps := 4000000) only [Act.put, List.setIfInBounds_toArray, List.set_cons_zero, List.set_cons_succ]
      clear hv11 hb11 hmk
      refine wpAnyH_ready (rs := [10]) (by kernel_rfl) (by simp) ?_
      refine AllReadyH.cons rfl (fun K2 hK2 => ?_) AllReadyH.nil
      go_simp
      refine hK2.out _ _ (hHeld) (fun hHeld2 => ?_)
      clear hK2 K2 hHeld
      have hHeld := hHeld2
      clear hHeld2
      try simp (maxSteps := 4000000) only [Act.put, List.setIfInBounds_toArray, List.set_cons_zero, List.set_cons_succ]
      refine wpAnyH_take (i := 11) (v := ?_) rfl (by kernel_rfl) (by kernel_rfl) (by kernel_rfl) (fun _ _ _ h => h) (Or.inl ⟨by kernel_rfl, ?_⟩) (by assumption) ?_
      rotate_left
      · (intro w hSw; (try dsimp only at hSw); (try have hTk := Hid.out HTAKE _ hSw); go_simp)
        try (with_reducible rfl)
      rotate_left
      try simp (maxSteps := 4000000) only [Act.put, List.setIfInBounds_toArray, List.set_cons_zero, List.set_cons_succ, List.getElem_toArray, List.getElem_cons_zero, List.getElem_cons_succ]
      refine wpAnyH_take (i := 12) (v := ?_) rfl (by kernel_rfl) (by kernel_rfl) (by kernel_rfl) (fun _ _ _ h => h) (Or.inl ⟨by kernel_rfl, ?_⟩) (by assumption) ?_
      rotate_left
      · (intro w hSw; (try dsimp only at hSw); (try have hTk := Hid.out HTAKE _ hSw); go_simp)
        try (with_reducible rfl)
      rotate_left
      try simp (maxSteps := 4000000) only [Act.put, List.setIfInBounds_toArray, List.set_cons_zero, List.set_cons_succ, List.getElem_toArray, List.getElem_cons_zero, List.getElem_cons_succ]
      refine wpAnyH_take (i := 13) (v := ?_) rfl (by kernel_rfl) (by kernel_rfl) (by kernel_rfl) (fun _ _ _ h => h) (Or.inl ⟨by kernel_rfl, ?_⟩) (by assumption) ?_
      rotate_left
      · (intro w hSw; (try dsimp only at hSw); (try have hTk := Hid.out HTAKE _ hSw); go_simp)
        try (with_reducible rfl)
      rotate_left
      try simp (maxSteps := 4000000) only [Act.put, List.setIfInBounds_toArray, List.set_cons_zero, List.set_cons_succ, List.getElem_toArray, List.getElem_cons_zero, List.getElem_cons_succ]
      refine wpAnyH_take (i := 14) (v := ?_) rfl (by kernel_rfl) (by kernel_rfl) (by kernel_rfl) (fun _ _ _ h => h) (Or.inl ⟨by kernel_rfl, ?_⟩) (by assumption) ?_
      rotate_left
      · (intro w hSw; (try dsimp only at hSw); (try have hTk := Hid.out HTAKE _ hSw); go_simp)
        try (with_reducible rfl)
      rotate_left
      try simp (maxSteps := 4000000) only [Act.put, List.setIfInBounds_toArray, List.set_cons_zero, List.set_cons_succ, List.getElem_toArray, List.getElem_cons_zero, List.getElem_cons_succ]
      refine wpAnyH_take (i := 15) (v := ?_) rfl (by kernel_rfl) (by kernel_rfl) (by kernel_rfl) (fun _ _ _ h => h) (Or.inl ⟨by kernel_rfl, ?_⟩) (by assumption) ?_
      rotate_left
      · (intro w hSw; (try dsimp only at hSw); (try have hTk := Hid.out HTAKE _ hSw); go_simp)
        try (with_reducible rfl)
      rotate_left
      try simp (maxSteps := 4000000) only [Act.put, List.setIfInBounds_toArray, List.set_cons_zero, List.set_cons_succ, List.getElem_toArray, List.getElem_cons_zero, List.getElem_cons_succ]
      refine wpAnyH_take (i := 16) (v := ?_) rfl (by kernel_rfl) (by kernel_rfl) (by kernel_rfl) (fun _ _ _ h => h) (Or.inl ⟨by kernel_rfl, ?_⟩) (by assumption) ?_
      rotate_left
      · (intro w hSw; (try dsimp only at hSw); (try have hTk := Hid.out HTAKE _ hSw); go_simp)
        try (with_reducible rfl)
      rotate_left
      try simp (maxSteps := 4000000) only [Act.put, List.setIfInBounds_toArray, List.set_cons_zero, List.set_cons_succ, List.getElem_toArray, List.getElem_cons_zero, List.getElem_cons_succ]
      refine wpAnyH_take (i := 17) (v := ?_) rfl (by kernel_rfl) (by kernel_rfl) (by kernel_rfl) (fun _ _ _ h => h) (Or.inl ⟨by kernel_rfl, ?_⟩) (by assumption) ?_
      rotate_left
      · (intro w hSw; (try dsimp only at hSw); (try have hTk := Hid.out HTAKE _ hSw); go_simp)
        try (with_reducible rfl)
      rotate_left
      try simp (maxSteps := 4000000) only [Act.put, List.setIfInBounds_toArray, List.set_cons_zero, List.set_cons_succ, List.getElem_toArray, List.getElem_cons_zero, List.getElem_cons_succ]
      refine wpAnyH_take (i := 18) (v := ?_) rfl (by kernel_rfl) (by kernel_rfl) (by kernel_rfl) (fun _ _ _ h => h) (Or.inl ⟨by kernel_rfl, ?_⟩) (by assumption) ?_
      rotate_left
      · (intro w hSw; (try dsimp only at hSw); (try have hTk := Hid.out HTAKE _ hSw); go_simp)
        try (with_reducible rfl)
      rotate_left
      try simp (maxSteps := 4000000) only [Act.put, List.setIfInBounds_toArray, List.set_cons_zero, List.set_cons_succ, List.getElem_toArray, List.getElem_cons_zero, List.getElem_cons_succ]
      refine wpAnyH_take (i := 19) (v := ?_) rfl (by kernel_rfl) (by kernel_rfl) (by kernel_rfl) (fun _ _ _ h => h) (Or.inl ⟨by kernel_rfl, ?_⟩) (by assumption) ?_
      rotate_left
      · (intro w hSw; (try dsimp only at hSw); (try have hTk := Hid.out HTAKE _ hSw); go_simp)
        try (with_reducible rfl)
      rotate_left
      try simp (maxSteps := 4000000) only [Act.put, List.setIfInBounds_toArray, List.set_cons_zero, List.set_cons_succ, List.getElem_toArray, List.getElem_cons_zero, List.getElem_cons_succ]
      refine wpAnyH_take (i := 20) (v := ?_) rfl (by kernel_rfl) (by kernel_rfl) (by kernel_rfl) (fun _ _ _ h => h) (Or.inl ⟨by kernel_rfl, ?_⟩) (by assumption) ?_
      rotate_left
      · (intro w hSw; (try dsimp only at hSw); (try have hTk := Hid.out HTAKE _ hSw); go_simp)
        try (with_reducible rfl)
      rotate_left
      try simp (maxSteps := 4000000) only [Act.put, List.setIfInBounds_toArray, List.set_cons_zero, List.set_cons_succ, List.getElem_toArray, List.getElem_cons_zero, List.getElem_cons_succ]
      refine wpAnyH_take (i := 21) (v := ?_) rfl (by kernel_rfl) (by kernel_rfl) (by kernel_rfl) (fun _ _ _ h => h) (Or.inl ⟨by kernel_rfl, ?_⟩) (by assumption) ?_
      rotate_left
      · (intro w hSw; (try dsimp only at hSw); (try have hTk := Hid.out HTAKE _ hSw); go_simp)
        try (with_reducible rfl)
      rotate_left
      try simp (maxSteps := 4000000) only [Act.put, List.setIfInBounds_toArray, List.set_cons_zero, List.set_cons_succ, List.getElem_toArray, List.getElem_cons_zero, List.getElem_cons_succ]
      refine wpAnyH_take (i := 22) (v := ?_) rfl (by kernel_rfl) (by kernel_rfl) (by kernel_rfl) (fun _ _ _ h => h) (Or.inl ⟨by kernel_rfl, ?_⟩) (by assumption) ?_
      rotate_left
      · (intro w hSw; (try dsimp only at hSw); (try have hTk := Hid.out HTAKE _ hSw); go_simp)
        try (with_reducible rfl)
      rotate_left
      try simp (maxSteps := 4000000) only [Act.put, List.setIfInBounds_toArray, List.set_cons_zero, List.set_cons_succ, List.getElem_toArray, List.getElem_cons_zero, List.getElem_cons_succ]
      refine wpAnyH_take (i := 23) (v := ?_) rfl (by kernel_rfl) (by kernel_rfl) (by kernel_rfl) (fun _ _ _ h => h) (Or.inl ⟨by kernel_rfl, ?_⟩) (by assumption) ?_
      rotate_left
      · (intro w hSw; (try dsimp only at hSw); (try have hTk := Hid.out HTAKE _ hSw); go_simp)
        try (with_reducible rfl)
      rotate_left
      try simp (maxSteps := 4000000) only [Act.put, List.setIfInBounds_toArray, List.set_cons_zero, List.set_cons_succ, List.getElem_toArray, List.getElem_cons_zero, List.getElem_cons_succ]
      refine wpAnyH_take (i := 24) (v := ?_) rfl (by kernel_rfl) (by kernel_rfl) (by kernel_rfl) (fun _ _ _ h => h) (Or.inl ⟨by kernel_rfl, ?_⟩) (by assumption) ?_
      rotate_left
      · (intro w hSw; (try dsimp only at hSw); (try have hTk := Hid.out HTAKE _ hSw); go_simp)
        try (with_reducible rfl)
      rotate_left
      try simp (maxSteps := 4000000) only [Act.put, List.setIfInBounds_toArray, List.set_cons_zero, List.set_cons_succ, List.getElem_toArray, List.getElem_cons_zero, List.getElem_cons_succ]
      refine wpAnyH_take (i := 25) (v := ?_) rfl (by kernel_rfl) (by kernel_rfl) (by kernel_rfl) (fun _ _ _ h => h) (Or.inl ⟨by kernel_rfl, ?_⟩) (by assumption) ?_
      rotate_left
      · (intro w hSw; (try dsimp only at hSw); (try have hTk := Hid.out HTAKE _ hSw); go_simp)
        try (with_reducible rfl)
      rotate_left
      try simp (maxSteps := 4000000) only [Act.put, List.setIfInBounds_toArray, List.set_cons_zero, List.set_cons_succ, List.getElem_toArray, List.getElem_cons_zero, List.getElem_cons_succ]
      refine wpAnyH_take (i := 26) (v := ?_) rfl (by kernel_rfl) (by kernel_rfl) (by kernel_rfl) (fun _ _ _ h => h) (Or.inl ⟨by kernel_rfl, ?_⟩) (by assumption) ?_
      rotate_left
      · (intro w hSw; (try dsimp only at hSw); (try have hTk := Hid.out HTAKE _ hSw); go_simp)
        try (with_reducible rfl)
      rotate_left
      try simp (maxSteps := 4000000) only [Act.put, List.setIfInBounds_toArray, List.set_cons_zero, List.set_cons_succ, List.getElem_toArray, List.getElem_cons_zero, List.getElem_cons_succ]
      refine wpAnyH_done (by kernel_rfl) ?_ _
      go_wp2
      go_ret
      exact ⟨rfl, HBE.out⟩
end Go.Proofs.YtgidnmjeifgciaaDoor
