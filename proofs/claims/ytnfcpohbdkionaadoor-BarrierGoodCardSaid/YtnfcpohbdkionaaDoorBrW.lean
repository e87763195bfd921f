/- The walk of BarrierGood. -/
import Derived.Test.YtnfcpohbdkionaaDoorBrG
import Derived.Deep.RegionHeld3
import Derived.Deep.RegionHeld3
import Derived.Deep.DeepCutAuto
namespace Go.Proofs.YtnfcpohbdkionaaDoor
set_option maxRecDepth 100000
open Go.RowKit Go.ChangeMaps Go.MapKept
set_option linter.unusedVariables false
set_option linter.unusedSimpArgs false

/-- A span in a block. -/
def SpAt (x : Nat) (W : World) (b l : Int) : Prop := x < W.heap.size ∧ W.cell? ⟨x, 0, none⟩ = some (.int .i64 b) ∧ W.cell? ⟨x, 1, none⟩ = some (.int .i64 l)
theorem SpAt.keep {x : Nat} {b l : Int} {W W' : World} (h : SpAt x W b l) (hs : W.heap.size ≤ W'.heap.size) (hk : W'.heap[x]? = W.heap[x]?) : SpAt x W' b l :=
  ⟨Nat.lt_of_lt_of_le h.1 hs, (World.cell?_of_block hk).trans h.2.1, (World.cell?_of_block hk).trans h.2.2⟩
theorem SpAt.below {x : Nat} {b l : Int} {W W' : World} (h : SpAt x W b l) (hb : Below W.heap.size W W') : SpAt x W' b l := h.keep hb.size (hb.block x h.1)
theorem SpAt.new (W : World) (b l : Int) (T : TypeId) : SpAt W.heap.size (W.alloc (.cells #[.int .i64 b, .int .i64 l] T)) b l := ⟨by simp, by simp, by simp⟩
/-- A place that is nothing yet, in a block. -/
def PnAt (x : Nat) (W : World) : Prop := x < W.heap.size ∧ (W.cell? ⟨x, 0, none⟩ = some (.pointer none) ∧ W.cell? ⟨x, 1, none⟩ = some (.pointer none) ∧ W.cell? ⟨x, 2, none⟩ = some (.pointer none)) ∧ W.frozen? ⟨x, 0, none⟩ = false ∧ W.frozen? ⟨x, 1, none⟩ = false ∧ W.frozen? ⟨x, 2, none⟩ = false
theorem PnAt.keep {x : Nat} {W W' : World} (h : PnAt x W) (hs : W.heap.size ≤ W'.heap.size) (hk : W'.heap[x]? = W.heap[x]?) : PnAt x W' :=
  ⟨Nat.lt_of_lt_of_le h.1 hs, ⟨(World.cell?_of_block hk).trans h.2.1.1, (World.cell?_of_block hk).trans h.2.1.2.1, (World.cell?_of_block hk).trans h.2.1.2.2⟩, (World.frozen?_of_block hk).trans h.2.2.1, (World.frozen?_of_block hk).trans h.2.2.2.1, (World.frozen?_of_block hk).trans h.2.2.2.2⟩
theorem PnAt.below {x : Nat} {W W' : World} (h : PnAt x W) (hb : Below W.heap.size W W') : PnAt x W' := h.keep hb.size (hb.block x h.1)
theorem PnAt.new (W : World) : PnAt W.heap.size (W.alloc (.cells #[.pointer none, .pointer none, .pointer none] 31)) := ⟨by simp, ⟨by simp, by simp, by simp⟩, by simp, by simp, by simp⟩
theorem cz_first (v : World) : ∃ x u, v.heap.size = x ∧ (v.alloc (.cells #[.int .i64 0, .int .i64 0, .int .i64 0, .int .i64 0, .int .i64 0, .bool false] 25)).drew = u ∧ CapAt x u 0 0 0 0 0 false ∧ Below v.heap.size v u :=
  ⟨_, _, rfl, rfl, (CapAt.new v 0 0 0 0 0 false 25).below (Below.refl _ _).drew, (alc0 _ _).drew⟩
theorem cz_next (v : World) : ∃ x u, v.heap.size = x ∧ v.alloc (.cells #[.int .i64 0, .int .i64 0, .int .i64 0, .int .i64 0, .int .i64 0, .bool false] 25) = u ∧ CapAt x u 0 0 0 0 0 false ∧ Below v.heap.size v u :=
  ⟨_, _, rfl, rfl, CapAt.new v 0 0 0 0 0 false 25, alc0 _ _⟩
theorem pz_first (v : World) : ∃ x u, v.heap.size = x ∧ (v.alloc (.cells #[.pointer none, .pointer none, .pointer none] 31)).drew = u ∧ PnAt x u ∧ Below v.heap.size v u :=
  ⟨_, _, rfl, rfl, (PnAt.new v).below (Below.refl _ _).drew, (alc0 _ _).drew⟩
theorem pz_next (v : World) : ∃ x u, v.heap.size = x ∧ v.alloc (.cells #[.pointer none, .pointer none, .pointer none] 31) = u ∧ PnAt x u ∧ Below v.heap.size v u :=
  ⟨_, _, rfl, rfl, PnAt.new v, alc0 _ _⟩
theorem cap_st {z N : Nat} {V u : World} {b l c p t : Int} {v : Bool} (h : CapAt z u b l c p t v) (hN : N ≤ z) (hB : Below N V u) (b' l' c' p' t' : Int) (v' : Bool) :
    ∃ u', (((((u.setCell ⟨z, 0, none⟩ (.int .i64 b')).setCell ⟨z, 1, none⟩ (.int .i64 l')).setCell ⟨z, 2, none⟩ (.int .i64 c')).setCell ⟨z, 3, none⟩ (.int .i64 p')).setCell ⟨z, 4, none⟩ (.int .i64 t')).setCell ⟨z, 5, none⟩ (.bool v') = u' ∧ CapAt z u' b' l' c' p' t' v' ∧ u'.heap.size = u.heap.size ∧ (∀ y, y ≠ z → u'.heap[y]? = u.heap[y]?) ∧ Below N V u' := by
  refine ⟨_, rfl, (((((h.s0 b').s1 l').s2 c').s3 p').s4 t').s5 v', by simp only [size_set'], fun y hy => ?_, (((((hB.setCell hN _).setCell hN _).setCell hN _).setCell hN _).setCell hN _).setCell hN _⟩
  have hn : ∀ (W : World) k (a : Value), (W.setCell ⟨z, k, none⟩ a).heap[y]? = W.heap[y]? := fun W k a => Below.heap_setCell _ _ _ _ (by simpa using hy)
  simp only [hn]
theorem pl_st {z N : Nat} {V u : World} (h : PnAt z u) (hN : N ≤ z) (hB : Below N V u) (M R P : Nat) :
    ∃ u', ((u.setCell ⟨z, 0, none⟩ (.pointer (some ⟨M, 0, none⟩))).setCell ⟨z, 1, none⟩ (.pointer (some ⟨R, 0, none⟩))).setCell ⟨z, 2, none⟩ (.pointer (some ⟨P, 0, none⟩)) = u' ∧ PlAt z u' M R P ∧ u'.heap.size = u.heap.size ∧ (∀ y, y ≠ z → u'.heap[y]? = u.heap[y]?) ∧ Below N V u' := by
  obtain ⟨h1, ⟨c0, c1, c2⟩, f0, f1, f2⟩ := h
  refine ⟨_, rfl, ?_, by simp only [size_set'], fun y hy => ?_, ((hB.setCell hN _).setCell hN _).setCell hN _⟩
  · have ot : ∀ (W : World) (i j : Nat) (a : Value), i ≠ j → (W.setCell ⟨z, j, none⟩ a).cell? ⟨z, i, none⟩ = W.cell? ⟨z, i, none⟩ := fun W i j a hij => World.cell?_setCell_other _ _ _ _ (by simp [hij])
    refine ⟨by simp only [size_set']; exact h1, ?_, ?_, ?_⟩
    · exact ((ot _ 0 2 _ (by decide)).trans (ot _ 0 1 _ (by decide))).trans (World.cell?_setCell_same _ _ _ c0)
    · exact (ot _ 1 2 _ (by decide)).trans (World.cell?_setCell_same _ _ _ ((ot _ 1 0 _ (by decide)).trans c1))
    · exact World.cell?_setCell_same _ _ _ (((ot _ 2 1 _ (by decide)).trans (ot _ 2 0 _ (by decide))).trans c2)
  · have hn : ∀ (W : World) k (a : Value), (W.setCell ⟨z, k, none⟩ a).heap[y]? = W.heap[y]? := fun W k a => Below.heap_setCell _ _ _ _ (by simpa using hy)
    simp only [hn]
/-- The bounds of few's capability. -/
def FB37 (b l c p t : Int) : Prop := 0 ≤ b ∧ b ≤ 1023 ∧ 1 ≤ l ∧ l ≤ 1024 - b ∧ b - 16 ≤ c ∧ c ≤ b + 80 ∧ 0 ≤ c ∧ 0 ≤ p ∧ p ≤ 31 ∧ 1 ≤ t ∧ t ≤ 2
/-- What the law has, ahead of its own acts. -/
def GOT (N x8 x9 : Nat) (V : World) (sb sl b l c p t : Int) (w : World) : Prop :=
  ∃ (B lo g : Nat) (col : Nat → Nat) (M R P pg : Nat) (pc : Int) (ws : List Nat), BPl B lo g col M R P pg w s37b zeroV pc ws ∧ PaintIs sb sl ws ∧ FB37 b l c p t ∧ PlAt x8 w M R P ∧ CapAt x9 w b l c p t true ∧ Away B col R g P x8 ∧ Away B col R g P x9 ∧ N ≤ B ∧ Below N V w
theorem FB37.b4 {b l c p t : Int} (h : FB37 b l c p t) : 0 ≤ b ∧ b ≤ 1023 ∧ 1 ≤ l ∧ l ≤ 1024 - b := by
  obtain ⟨h1, h2, h3, h4, -⟩ := h
  exact ⟨h1, h2, h3, h4⟩
theorem FB37.may {b l c p t : Int} (h : FB37 b l c p t) : capMayB b l c p t true = true := by
  obtain ⟨h1, h2, h3, h4, h5, h6, h7, h8, h9, h10, h11⟩ := h
  have hm : mayB b l = true := mayB_iff.2 (by omega)
  have hp : pmayB p = true := by simp only [pmayB, decide_eq_true_eq]; omega
  simp only [capMayB, capOkB, hm, hp, if_true, Bool.true_and, Bool.and_eq_true, decide_eq_true_eq]
  omega
theorem putV_at (V : Nat → Value) (n : Nat) (v0 v1 v2 v3 v4 v5 : Value) : putV V n #[v0, v1, v2, v3, v4, v5] (n * 6) = v0 ∧ putV V n #[v0, v1, v2, v3, v4, v5] (n * 6 + 1) = v1 ∧ putV V n #[v0, v1, v2, v3, v4, v5] (n * 6 + 2) = v2 ∧ putV V n #[v0, v1, v2, v3, v4, v5] (n * 6 + 3) = v3 ∧ putV V n #[v0, v1, v2, v3, v4, v5] (n * 6 + 4) = v4 ∧ putV V n #[v0, v1, v2, v3, v4, v5] (n * 6 + 5) = v5 := by
  refine ⟨?_, ?_, ?_, ?_, ?_, ?_⟩ <;> (unfold putV; rw [if_pos (by omega)])
  · rw [show n * 6 % 6 = 0 by omega]; rfl
  · rw [show (n * 6 + 1) % 6 = 1 by omega]; rfl
  · rw [show (n * 6 + 2) % 6 = 2 by omega]; rfl
  · rw [show (n * 6 + 3) % 6 = 3 by omega]; rfl
  · rw [show (n * 6 + 4) % 6 = 4 by omega]; rfl
  · rw [show (n * 6 + 5) % 6 = 5 by omega]; rfl
theorem GOT.bel {N x8 x9 : Nat} {V w : World} {sb sl b l c p t : Int} (h : GOT N x8 x9 V sb sl b l c p t w) : Below N V w := by
  obtain ⟨B, lo, g, col, M, R, P, pg, pc, ws, h1, h2, h3, h4, h5, h6, h7, h8, h9⟩ := h
  exact h9
set_option maxHeartbeats 40000000 in
theorem bgood_t (sb0 sl0 b l c p t : Int) (v : Bool) (h : Int) (W : World) (ht : TzTab W) :
    Calls Tryd.prog 3 #[.agg #[.int .i64 sb0, .int .i64 sl0], .agg #[.int .i64 b, .int .i64 l, .int .i64 c, .int .i64 p, .int .i64 t, .bool v], .int .i64 h] W fun e w' => e = .returned (.bool true) ∧ Below W.heap.size W w' := by
  have T := Lib.hid ht
  have HY0 := Lib.hid (CapAt.newB W (.cells #[.int .i64 sb0, .int .i64 sl0] 23) b l c p t v 25)
  have HX0 := Lib.hid ((SpAt.new W sb0 sl0 23).below (alc0 _ (.cells #[.int .i64 b, .int .i64 l, .int .i64 c, .int .i64 p, .int .i64 t, .bool v] 25)))
  have HB0 := Lib.hid (alc (alc0 W (.cells #[.int .i64 sb0, .int .i64 sl0] 23)) (.cells #[.int .i64 b, .int .i64 l, .int .i64 c, .int .i64 p, .int .i64 t, .bool v] 25))
  clear ht
  go_enter Tryd.func3, Tryd.ntmps3
  go_wp2_with fail
  refine (w37awake _ (T.out.later HB0.out)).mono ?_
  rintro e v0 ⟨rfl, hb⟩
  have HX1 := Lib.hid (HX0.out.below hb)
  have HY1 := Lib.hid (HY0.out.below hb)
  have HB1 := Lib.hid (thn HB0.out hb)
  clear hb HX0 HY0 HB0
  have e1 := and1023 sb0
  have e2 := and63 sl0
  obtain ⟨sb, hsb⟩ : ∃ sb, sb0 % 1024 = sb := ⟨_, rfl⟩
  obtain ⟨sl, hsl⟩ : ∃ sl, sl0 % 64 = sl := ⟨_, rfl⟩
  have HSB : Hid (0 ≤ sb ∧ sb ≤ 1023 ∧ 0 ≤ sl ∧ sl ≤ 63) := Lib.hid (by omega)
  rw [hsb] at e1
  rw [hsl] at e2
  clear hsb hsl
  obtain ⟨-, s0, s1⟩ := HX1.out
  go_upto_region 4 with (fail)
  clear e1 e2 s0 s1
  have HX2 := Lib.hid (SpAt.new v0 sb sl 23)
  have HY2 := Lib.hid (HY1.out.below (alc0 v0 (.cells #[.int .i64 sb, .int .i64 sl] 23)))
  have HB2 := Lib.hid (alc HB1.out (.cells #[.int .i64 sb, .int .i64 sl] 23))
  clear HX1 HY1 HB1
  generalize hv3 : v0.alloc (.cells #[.int .i64 sb, .int .i64 sl] 23) = v3 at *
  clear hv3
  generalize v0.heap.size = x7 at *
  have T3 := Lib.hid (T.out.later HB2.out)
  have HLT : Hid (x7 < v3.heap.size ∧ W.heap.size + 1 < v3.heap.size) := Lib.hid ⟨HX2.out.1, HY2.out.1⟩
  go_cut [8, 9] (fun v8 v9 wx => ∃ (x8 x9 : Nat) (b1 l1 c1 p1 t1 : Int), v8 = .pointer (some ⟨x8, 0, none⟩) ∧ v9 = .pointer (some ⟨x9, 0, none⟩) ∧ Hid (GOT v3.heap.size x8 x9 v3 sb sl b1 l1 c1 p1 t1 wx ∧ x8 ≠ x9 ∧ v3.heap.size ≤ x8 ∧ v3.heap.size ≤ x9))
  case first =>
    have HTAKE := Lib.hid (fun (w' : World) (h : SpAt x7 w' sb sl ∧ CapAt (W.heap.size + 1) w' b l c p t v) => And.intro h.1.2 h.2.2)
    refine wp_region_held_drew (S := fun w' => SpAt x7 w' sb sl ∧ CapAt (W.heap.size + 1) w' b l c p t v) (by kernel_rfl) ?_ (fun hHeld => ?_)
    · exact ⟨HX2.out.below (Below.refl _ _).drew, HY2.out.below (Below.refl _ _).drew⟩
    refine wpAnyH_take (i := 0) (v := ?_) rfl (by kernel_rfl) (by kernel_rfl) (by kernel_rfl) (fun _ _ _ h => h) (Or.inl ⟨by kernel_rfl, ?_⟩) (by assumption) ?_
    rotate_left
    · (intro w hSw; (try dsimp only at hSw); (try have hTk := Hid.out HTAKE _ hSw); go_simp)
      try (with_reducible rfl)
    rotate_left
    try simp (maxSteps := 4000000) only [Act.put, List.setIfInBounds_toArray, List.set_cons_zero, List.set_cons_succ, List.getElem_toArray, List.getElem_cons_zero, List.getElem_cons_succ]
    refine wpAnyH_take (i := 2) (v := ?_) rfl (by kernel_rfl) (by kernel_rfl) (by kernel_rfl) (fun _ _ _ h => h) (Or.inl ⟨by kernel_rfl, ?_⟩) (by assumption) ?_
    rotate_left
    · (intro w hSw; (try dsimp only at hSw); (try have hTk := Hid.out HTAKE _ hSw); go_simp)
      try (with_reducible rfl)
    rotate_left
    try simp (maxSteps := 4000000) only [Act.put, List.setIfInBounds_toArray, List.set_cons_zero, List.set_cons_succ, List.getElem_toArray, List.getElem_cons_zero, List.getElem_cons_succ]
    refine wpAnyH_ready (rs := [1, 4, 5]) (by kernel_rfl) (by simp) ?_
    refine AllReadyH.cons rfl (fun K2 hK2 => ?_) (AllReadyH.cons rfl (fun K2 hK2 => ?_) (AllReadyH.cons rfl (fun K2 hK2 => ?_) AllReadyH.nil))
    all_goals go_simp
    · with_reducible refine Calls.mono (w37made sb sl _ HSB.out.1 HSB.out.2.1 HSB.out.2.2.1 HSB.out.2.2.2 (T3.out.later (Below.refl _ _).drew)) ?_
      rintro e u1 ⟨B, lo, g, col, M, R, P, pg, pc, ws, rfl, hp0, hpa0, hB0, hb⟩
      have HPL := Lib.hid (And.intro hp0 (And.intro hpa0 (show v3.heap.size ≤ B by exact hB0)))
      clear hp0 hpa0 hB0
      have hb : Below v3.heap.size v3 u1 := thn (Below.refl _ _).drew hb
      have HB9 := Lib.hid hb
      refine hK2.out _ _ (⟨HX2.out.below hb, HY2.out.below hb⟩) (fun hHeld2 => ?_)
      clear hb
      clear hK2 K2 hHeld
      have hHeld := hHeld2
      clear hHeld2
      try simp (maxSteps := 4000000) only [Act.put, List.setIfInBounds_toArray, List.set_cons_zero, List.set_cons_succ]
      refine wpAnyH_ready (rs := [3, 4, 5]) (by kernel_rfl) (by simp) ?_
      refine AllReadyH.cons rfl (fun K2 hK2 => ?_) (AllReadyH.cons rfl (fun K2 hK2 => ?_) (AllReadyH.cons rfl (fun K2 hK2 => ?_) AllReadyH.nil))
      all_goals go_simp
      · with_reducible refine Calls.mono (few37 b l c p t v _) ?_
        rintro e u2 ⟨b1, l1, c1, p1, t1, rfl, hq1, hb⟩
        have HQ1 : Hid (FB37 b1 l1 c1 p1 t1) := Lib.hid hq1
        clear hq1
        have HB9n := Lib.hid (thn HB9.out hb)
        clear HB9
        have HB9 := HB9n
        clear HB9n
        have HPLn := Lib.hid (And.intro (HPL.out.1.later hb) HPL.out.2)
        clear HPL
        have HPL := HPLn
        clear HPLn
        refine hK2.out _ _ (⟨hHeld.1.below hb, hHeld.2.below hb⟩) (fun hHeld2 => ?_)
        clear hb
        clear hK2 K2 hHeld
        have hHeld := hHeld2
        clear hHeld2
        try simp (maxSteps := 4000000) only [Act.put, List.setIfInBounds_toArray, List.set_cons_zero, List.set_cons_succ]
        refine wpAnyH_ready (rs := [4, 5]) (by kernel_rfl) (by simp) ?_
        refine AllReadyH.cons rfl (fun K2 hK2 => ?_) (AllReadyH.cons rfl (fun K2 hK2 => ?_) AllReadyH.nil)
        all_goals go_simp
        · obtain ⟨x8, u3, hx8, hw9, hz9, hb⟩ := pz_next u2
          rw [hw9]
          try rw [hx8]
          clear hw9
          have HB9n := Lib.hid (thn HB9.out hb)
          have HA8n := Lib.hid (And.intro hz9 (show v3.heap.size ≤ x8 by have := HB9.out.size; omega))
          have HW8 : Hid (Away B col R g P x8) := Lib.hid (HPL.out.1.fresh (Nat.le_of_eq hx8))
          clear hx8 hz9
          clear HB9
          have HB9 := HB9n
          clear HB9n
          have HPLn := Lib.hid (And.intro (HPL.out.1.later hb) HPL.out.2)
          clear HPL
          have HPL := HPLn
          clear HPLn
          have HA8 := HA8n
          clear HA8n
          refine hK2.out _ _ (⟨hHeld.1.below hb, hHeld.2.below hb⟩) (fun hHeld2 => ?_)
          clear hb
          clear hK2 K2 hHeld
          have hHeld := hHeld2
          clear hHeld2
          try simp (maxSteps := 4000000) only [Act.put, List.setIfInBounds_toArray, List.set_cons_zero, List.set_cons_succ]
          refine wpAnyH_ready (rs := [5]) (by kernel_rfl) (by simp) ?_
          refine AllReadyH.cons rfl (fun K2 hK2 => ?_) AllReadyH.nil
          go_simp
          obtain ⟨x9, u4, hx9, hw9, hz9, hb⟩ := cz_next u3
          rw [hw9]
          try rw [hx9]
          clear hw9
          have HB9n := Lib.hid (thn HB9.out hb)
          have HA9n := Lib.hid (And.intro hz9 (show v3.heap.size ≤ x9 by have := HB9.out.size; omega))
          have hx89 : x8 ≠ x9 := by have h1 := HA8.out.1.1; omega
          have HW9 : Hid (Away B col R g P x9) := Lib.hid (HPL.out.1.fresh (Nat.le_of_eq hx9))
          clear hx9 hz9
          clear HB9
          have HB9 := HB9n
          clear HB9n
          have HA8n := Lib.hid (And.intro (HA8.out.1.below hb) HA8.out.2)
          clear HA8
          have HA8 := HA8n
          clear HA8n
          have HPLn := Lib.hid (And.intro (HPL.out.1.later hb) HPL.out.2)
          clear HPL
          have HPL := HPLn
          clear HPLn
          have HA9 := HA9n
          clear HA9n
          refine hK2.out _ _ (⟨hHeld.1.below hb, hHeld.2.below hb⟩) (fun hHeld2 => ?_)
          clear hb
          clear hK2 K2 hHeld
          have hHeld := hHeld2
          clear hHeld2
          try simp (maxSteps := 4000000) only [Act.put, List.setIfInBounds_toArray, List.set_cons_zero, List.set_cons_succ]
          obtain ⟨-, ⟨z80, z81, z82⟩, g80, g81, g82⟩ := HA8.out.1
          refine wpAnyH_ready (rs := [6]) (by kernel_rfl) (by simp) ?_
          refine AllReadyH.cons rfl (fun K2 hK2 => ?_) AllReadyH.nil
          go_simp
          obtain ⟨u5, hw9, hz9, hs9, hk9, hb9⟩ := pl_st HA8.out.1 HA8.out.2 HB9.out M R P
          rw [hw9]
          clear hw9 z80 z81 z82 g80 g81 g82
          have HA8n := Lib.hid (And.intro hz9 HA8.out.2)
          have HA9n := Lib.hid (And.intro (HA9.out.1.keep (Nat.le_of_eq hs9.symm) (hk9 _ hx89.symm)) HA9.out.2)
          have HPLn := Lib.hid (And.intro (HPL.out.1.away HW8.out T3.out HPL.out.2.2 hb9 hs9 hk9) HPL.out.2)
          have HB9n := Lib.hid hb9
          refine hK2.out _ _ (⟨hHeld.1.keep (Nat.le_of_eq hs9.symm) (hk9 _ (by have := HLT.out; have := HA8.out.2; omega)), hHeld.2.keep (Nat.le_of_eq hs9.symm) (hk9 _ (by have := HLT.out; have := HA8.out.2; omega))⟩) (fun hHeld2 => ?_)
          clear HA8 HA9 HB9 HPL hz9 hs9 hk9 hb9
          have HA8 := HA8n
          have HA9 := HA9n
          have HPL := HPLn
          have HB9 := HB9n
          clear HA8n HA9n HPLn HB9n
          clear hK2 K2 hHeld
          have hHeld := hHeld2
          clear hHeld2
          try simp (maxSteps := 4000000) only [Act.put, List.setIfInBounds_toArray, List.set_cons_zero, List.set_cons_succ]
          obtain ⟨-, z90, z91, z92, z93, z94, z95, -⟩ := HA9.out.1
          obtain ⟨g90, g91, g92, g93, g94, g95⟩ := HA9.out.1.fzB
          refine wpAnyH_ready (rs := [7]) (by kernel_rfl) (by simp) ?_
          refine AllReadyH.cons rfl (fun K2 hK2 => ?_) AllReadyH.nil
          go_simp
          obtain ⟨u6, hw9, hz9, hs9, hk9, hb9⟩ := cap_st HA9.out.1 HA9.out.2 HB9.out b1 l1 c1 p1 t1 true
          rw [hw9]
          clear hw9 z90 g90 z91 g91 z92 g92 z93 g93 z94 g94 z95 g95
          have HA9n := Lib.hid (And.intro hz9 HA9.out.2)
          have HA8n := Lib.hid (And.intro (HA8.out.1.keep (Nat.le_of_eq hs9.symm) (hk9 _ hx89)) HA8.out.2)
          have HPLn := Lib.hid (And.intro (HPL.out.1.away HW9.out T3.out HPL.out.2.2 hb9 hs9 hk9) HPL.out.2)
          have HB9n := Lib.hid hb9
          refine hK2.out _ _ (⟨hHeld.1.keep (Nat.le_of_eq hs9.symm) (hk9 _ (by have := HLT.out; have := HA9.out.2; omega)), hHeld.2.keep (Nat.le_of_eq hs9.symm) (hk9 _ (by have := HLT.out; have := HA9.out.2; omega))⟩) (fun hHeld2 => ?_)
          clear HA8 HA9 HB9 HPL hz9 hs9 hk9 hb9
          have HA8 := HA8n
          have HA9 := HA9n
          have HPL := HPLn
          have HB9 := HB9n
          clear HA8n HA9n HPLn HB9n
          clear hK2 K2 hHeld
          have hHeld := hHeld2
          clear hHeld2
          try simp (maxSteps := 4000000) only [Act.put, List.setIfInBounds_toArray, List.set_cons_zero, List.set_cons_succ]
          refine wpAnyH_done (by kernel_rfl) ?_ _
          go_wp2_with fail
          go_meet
          exact ⟨x8, x9, _, _, _, _, _, rfl, rfl, Lib.hid ⟨⟨B, lo, g, col, M, R, P, pg, pc, ws, HPL.out.1, HPL.out.2.1, HQ1.out, HA8.out.1, HA9.out.1, HW8.out, HW9.out, HPL.out.2.2, HB9.out⟩, hx89, HA8.out.2, HA9.out.2⟩⟩
        · obtain ⟨x9, u3, hx9, hw9, hz9, hb⟩ := cz_next u2
          rw [hw9]
          try rw [hx9]
          clear hw9
          have HB9n := Lib.hid (thn HB9.out hb)
          have HA9n := Lib.hid (And.intro hz9 (show v3.heap.size ≤ x9 by have := HB9.out.size; omega))
          have HW9 : Hid (Away B col R g P x9) := Lib.hid (HPL.out.1.fresh (Nat.le_of_eq hx9))
          clear hx9 hz9
          clear HB9
          have HB9 := HB9n
          clear HB9n
          have HPLn := Lib.hid (And.intro (HPL.out.1.later hb) HPL.out.2)
          clear HPL
          have HPL := HPLn
          clear HPLn
          have HA9 := HA9n
          clear HA9n
          refine hK2.out _ _ (⟨hHeld.1.below hb, hHeld.2.below hb⟩) (fun hHeld2 => ?_)
          clear hb
          clear hK2 K2 hHeld
          have hHeld := hHeld2
          clear hHeld2
          try simp (maxSteps := 4000000) only [Act.put, List.setIfInBounds_toArray, List.set_cons_zero, List.set_cons_succ]
          refine wpAnyH_ready (rs := [4]) (by kernel_rfl) (by simp) ?_
          refine AllReadyH.cons rfl (fun K2 hK2 => ?_) AllReadyH.nil
          go_simp
          obtain ⟨x8, u4, hx8, hw9, hz9, hb⟩ := pz_next u3
          rw [hw9]
          try rw [hx8]
          clear hw9
          have HB9n := Lib.hid (thn HB9.out hb)
          have HA8n := Lib.hid (And.intro hz9 (show v3.heap.size ≤ x8 by have := HB9.out.size; omega))
          have hx89 : x8 ≠ x9 := by have h1 := HA9.out.1.1; omega
          have HW8 : Hid (Away B col R g P x8) := Lib.hid (HPL.out.1.fresh (Nat.le_of_eq hx8))
          clear hx8 hz9
          clear HB9
          have HB9 := HB9n
          clear HB9n
          have HA9n := Lib.hid (And.intro (HA9.out.1.below hb) HA9.out.2)
          clear HA9
          have HA9 := HA9n
          clear HA9n
          have HPLn := Lib.hid (And.intro (HPL.out.1.later hb) HPL.out.2)
          clear HPL
          have HPL := HPLn
          clear HPLn
          have HA8 := HA8n
          clear HA8n
          refine hK2.out _ _ (⟨hHeld.1.below hb, hHeld.2.below hb⟩) (fun hHeld2 => ?_)
          clear hb
          clear hK2 K2 hHeld
          have hHeld := hHeld2
          clear hHeld2
          try simp (maxSteps := 4000000) only [Act.put, List.setIfInBounds_toArray, List.set_cons_zero, List.set_cons_succ]
          obtain ⟨-, ⟨z80, z81, z82⟩, g80, g81, g82⟩ := HA8.out.1
          refine wpAnyH_ready (rs := [6]) (by kernel_rfl) (by simp) ?_
          refine AllReadyH.cons rfl (fun K2 hK2 => ?_) AllReadyH.nil
          go_simp
          obtain ⟨u5, hw9, hz9, hs9, hk9, hb9⟩ := pl_st HA8.out.1 HA8.out.2 HB9.out M R P
          rw [hw9]
          clear hw9 z80 z81 z82 g80 g81 g82
          have HA8n := Lib.hid (And.intro hz9 HA8.out.2)
          have HA9n := Lib.hid (And.intro (HA9.out.1.keep (Nat.le_of_eq hs9.symm) (hk9 _ hx89.symm)) HA9.out.2)
          have HPLn := Lib.hid (And.intro (HPL.out.1.away HW8.out T3.out HPL.out.2.2 hb9 hs9 hk9) HPL.out.2)
          have HB9n := Lib.hid hb9
          refine hK2.out _ _ (⟨hHeld.1.keep (Nat.le_of_eq hs9.symm) (hk9 _ (by have := HLT.out; have := HA8.out.2; omega)), hHeld.2.keep (Nat.le_of_eq hs9.symm) (hk9 _ (by have := HLT.out; have := HA8.out.2; omega))⟩) (fun hHeld2 => ?_)
          clear HA8 HA9 HB9 HPL hz9 hs9 hk9 hb9
          have HA8 := HA8n
          have HA9 := HA9n
          have HPL := HPLn
          have HB9 := HB9n
          clear HA8n HA9n HPLn HB9n
          clear hK2 K2 hHeld
          have hHeld := hHeld2
          clear hHeld2
          try simp (maxSteps := 4000000) only [Act.put, List.setIfInBounds_toArray, List.set_cons_zero, List.set_cons_succ]
          obtain ⟨-, z90, z91, z92, z93, z94, z95, -⟩ := HA9.out.1
          obtain ⟨g90, g91, g92, g93, g94, g95⟩ := HA9.out.1.fzB
          refine wpAnyH_ready (rs := [7]) (by kernel_rfl) (by simp) ?_
          refine AllReadyH.cons rfl (fun K2 hK2 => ?_) AllReadyH.nil
          go_simp
          obtain ⟨u6, hw9, hz9, hs9, hk9, hb9⟩ := cap_st HA9.out.1 HA9.out.2 HB9.out b1 l1 c1 p1 t1 true
          rw [hw9]
          clear hw9 z90 g90 z91 g91 z92 g92 z93 g93 z94 g94 z95 g95
          have HA9n := Lib.hid (And.intro hz9 HA9.out.2)
          have HA8n := Lib.hid (And.intro (HA8.out.1.keep (Nat.le_of_eq hs9.symm) (hk9 _ hx89)) HA8.out.2)
          have HPLn := Lib.hid (And.intro (HPL.out.1.away HW9.out T3.out HPL.out.2.2 hb9 hs9 hk9) HPL.out.2)
          have HB9n := Lib.hid hb9
          refine hK2.out _ _ (⟨hHeld.1.keep (Nat.le_of_eq hs9.symm) (hk9 _ (by have := HLT.out; have := HA9.out.2; omega)), hHeld.2.keep (Nat.le_of_eq hs9.symm) (hk9 _ (by have := HLT.out; have := HA9.out.2; omega))⟩) (fun hHeld2 => ?_)
          clear HA8 HA9 HB9 HPL hz9 hs9 hk9 hb9
          have HA8 := HA8n
          have HA9 := HA9n
          have HPL := HPLn
          have HB9 := HB9n
          clear HA8n HA9n HPLn HB9n
          clear hK2 K2 hHeld
          have hHeld := hHeld2
          clear hHeld2
          try simp (maxSteps := 4000000) only [Act.put, List.setIfInBounds_toArray, List.set_cons_zero, List.set_cons_succ]
          refine wpAnyH_done (by kernel_rfl) ?_ _
          go_wp2_with fail
          go_meet
          exact ⟨x8, x9, _, _, _, _, _, rfl, rfl, Lib.hid ⟨⟨B, lo, g, col, M, R, P, pg, pc, ws, HPL.out.1, HPL.out.2.1, HQ1.out, HA8.out.1, HA9.out.1, HW8.out, HW9.out, HPL.out.2.2, HB9.out⟩, hx89, HA8.out.2, HA9.out.2⟩⟩
      · obtain ⟨x8, u2, hx8, hw9, hz9, hb⟩ := pz_next u1
        rw [hw9]
        try rw [hx8]
        clear hw9
        have HB9n := Lib.hid (thn HB9.out hb)
        have HA8n := Lib.hid (And.intro hz9 (show v3.heap.size ≤ x8 by have := HB9.out.size; omega))
        have HW8 : Hid (Away B col R g P x8) := Lib.hid (HPL.out.1.fresh (Nat.le_of_eq hx8))
        clear hx8 hz9
        clear HB9
        have HB9 := HB9n
        clear HB9n
        have HPLn := Lib.hid (And.intro (HPL.out.1.later hb) HPL.out.2)
        clear HPL
        have HPL := HPLn
        clear HPLn
        have HA8 := HA8n
        clear HA8n
        refine hK2.out _ _ (⟨hHeld.1.below hb, hHeld.2.below hb⟩) (fun hHeld2 => ?_)
        clear hb
        clear hK2 K2 hHeld
        have hHeld := hHeld2
        clear hHeld2
        try simp (maxSteps := 4000000) only [Act.put, List.setIfInBounds_toArray, List.set_cons_zero, List.set_cons_succ]
        refine wpAnyH_ready (rs := [3, 5]) (by kernel_rfl) (by simp) ?_
        refine AllReadyH.cons rfl (fun K2 hK2 => ?_) (AllReadyH.cons rfl (fun K2 hK2 => ?_) AllReadyH.nil)
        all_goals go_simp
        · with_reducible refine Calls.mono (few37 b l c p t v _) ?_
          rintro e u3 ⟨b1, l1, c1, p1, t1, rfl, hq1, hb⟩
          have HQ1 : Hid (FB37 b1 l1 c1 p1 t1) := Lib.hid hq1
          clear hq1
          have HB9n := Lib.hid (thn HB9.out hb)
          clear HB9
          have HB9 := HB9n
          clear HB9n
          have HA8n := Lib.hid (And.intro (HA8.out.1.below hb) HA8.out.2)
          clear HA8
          have HA8 := HA8n
          clear HA8n
          have HPLn := Lib.hid (And.intro (HPL.out.1.later hb) HPL.out.2)
          clear HPL
          have HPL := HPLn
          clear HPLn
          refine hK2.out _ _ (⟨hHeld.1.below hb, hHeld.2.below hb⟩) (fun hHeld2 => ?_)
          clear hb
          clear hK2 K2 hHeld
          have hHeld := hHeld2
          clear hHeld2
          try simp (maxSteps := 4000000) only [Act.put, List.setIfInBounds_toArray, List.set_cons_zero, List.set_cons_succ]
          refine wpAnyH_ready (rs := [5]) (by kernel_rfl) (by simp) ?_
          refine AllReadyH.cons rfl (fun K2 hK2 => ?_) AllReadyH.nil
          go_simp
          obtain ⟨x9, u4, hx9, hw9, hz9, hb⟩ := cz_next u3
          rw [hw9]
          try rw [hx9]
          clear hw9
          have HB9n := Lib.hid (thn HB9.out hb)
          have HA9n := Lib.hid (And.intro hz9 (show v3.heap.size ≤ x9 by have := HB9.out.size; omega))
          have hx89 : x8 ≠ x9 := by have h1 := HA8.out.1.1; omega
          have HW9 : Hid (Away B col R g P x9) := Lib.hid (HPL.out.1.fresh (Nat.le_of_eq hx9))
          clear hx9 hz9
          clear HB9
          have HB9 := HB9n
          clear HB9n
          have HA8n := Lib.hid (And.intro (HA8.out.1.below hb) HA8.out.2)
          clear HA8
          have HA8 := HA8n
          clear HA8n
          have HPLn := Lib.hid (And.intro (HPL.out.1.later hb) HPL.out.2)
          clear HPL
          have HPL := HPLn
          clear HPLn
          have HA9 := HA9n
          clear HA9n
          refine hK2.out _ _ (⟨hHeld.1.below hb, hHeld.2.below hb⟩) (fun hHeld2 => ?_)
          clear hb
          clear hK2 K2 hHeld
          have hHeld := hHeld2
          clear hHeld2
          try simp (maxSteps := 4000000) only [Act.put, List.setIfInBounds_toArray, List.set_cons_zero, List.set_cons_succ]
          obtain ⟨-, ⟨z80, z81, z82⟩, g80, g81, g82⟩ := HA8.out.1
          refine wpAnyH_ready (rs := [6]) (by kernel_rfl) (by simp) ?_
          refine AllReadyH.cons rfl (fun K2 hK2 => ?_) AllReadyH.nil
          go_simp
          obtain ⟨u5, hw9, hz9, hs9, hk9, hb9⟩ := pl_st HA8.out.1 HA8.out.2 HB9.out M R P
          rw [hw9]
          clear hw9 z80 z81 z82 g80 g81 g82
          have HA8n := Lib.hid (And.intro hz9 HA8.out.2)
          have HA9n := Lib.hid (And.intro (HA9.out.1.keep (Nat.le_of_eq hs9.symm) (hk9 _ hx89.symm)) HA9.out.2)
          have HPLn := Lib.hid (And.intro (HPL.out.1.away HW8.out T3.out HPL.out.2.2 hb9 hs9 hk9) HPL.out.2)
          have HB9n := Lib.hid hb9
          refine hK2.out _ _ (⟨hHeld.1.keep (Nat.le_of_eq hs9.symm) (hk9 _ (by have := HLT.out; have := HA8.out.2; omega)), hHeld.2.keep (Nat.le_of_eq hs9.symm) (hk9 _ (by have := HLT.out; have := HA8.out.2; omega))⟩) (fun hHeld2 => ?_)
          clear HA8 HA9 HB9 HPL hz9 hs9 hk9 hb9
          have HA8 := HA8n
          have HA9 := HA9n
          have HPL := HPLn
          have HB9 := HB9n
          clear HA8n HA9n HPLn HB9n
          clear hK2 K2 hHeld
          have hHeld := hHeld2
          clear hHeld2
          try simp (maxSteps := 4000000) only [Act.put, List.setIfInBounds_toArray, List.set_cons_zero, List.set_cons_succ]
          obtain ⟨-, z90, z91, z92, z93, z94, z95, -⟩ := HA9.out.1
          obtain ⟨g90, g91, g92, g93, g94, g95⟩ := HA9.out.1.fzB
          refine wpAnyH_ready (rs := [7]) (by kernel_rfl) (by simp) ?_
          refine AllReadyH.cons rfl (fun K2 hK2 => ?_) AllReadyH.nil
          go_simp
          obtain ⟨u6, hw9, hz9, hs9, hk9, hb9⟩ := cap_st HA9.out.1 HA9.out.2 HB9.out b1 l1 c1 p1 t1 true
          rw [hw9]
          clear hw9 z90 g90 z91 g91 z92 g92 z93 g93 z94 g94 z95 g95
          have HA9n := Lib.hid (And.intro hz9 HA9.out.2)
          have HA8n := Lib.hid (And.intro (HA8.out.1.keep (Nat.le_of_eq hs9.symm) (hk9 _ hx89)) HA8.out.2)
          have HPLn := Lib.hid (And.intro (HPL.out.1.away HW9.out T3.out HPL.out.2.2 hb9 hs9 hk9) HPL.out.2)
          have HB9n := Lib.hid hb9
          refine hK2.out _ _ (⟨hHeld.1.keep (Nat.le_of_eq hs9.symm) (hk9 _ (by have := HLT.out; have := HA9.out.2; omega)), hHeld.2.keep (Nat.le_of_eq hs9.symm) (hk9 _ (by have := HLT.out; have := HA9.out.2; omega))⟩) (fun hHeld2 => ?_)
          clear HA8 HA9 HB9 HPL hz9 hs9 hk9 hb9
          have HA8 := HA8n
          have HA9 := HA9n
          have HPL := HPLn
          have HB9 := HB9n
          clear HA8n HA9n HPLn HB9n
          clear hK2 K2 hHeld
          have hHeld := hHeld2
          clear hHeld2
          try simp (maxSteps := 4000000) only [Act.put, List.setIfInBounds_toArray, List.set_cons_zero, List.set_cons_succ]
          refine wpAnyH_done (by kernel_rfl) ?_ _
          go_wp2_with fail
          go_meet
          exact ⟨x8, x9, _, _, _, _, _, rfl, rfl, Lib.hid ⟨⟨B, lo, g, col, M, R, P, pg, pc, ws, HPL.out.1, HPL.out.2.1, HQ1.out, HA8.out.1, HA9.out.1, HW8.out, HW9.out, HPL.out.2.2, HB9.out⟩, hx89, HA8.out.2, HA9.out.2⟩⟩
        · obtain ⟨x9, u3, hx9, hw9, hz9, hb⟩ := cz_next u2
          rw [hw9]
          try rw [hx9]
          clear hw9
          have HB9n := Lib.hid (thn HB9.out hb)
          have HA9n := Lib.hid (And.intro hz9 (show v3.heap.size ≤ x9 by have := HB9.out.size; omega))
          have hx89 : x8 ≠ x9 := by have h1 := HA8.out.1.1; omega
          have HW9 : Hid (Away B col R g P x9) := Lib.hid (HPL.out.1.fresh (Nat.le_of_eq hx9))
          clear hx9 hz9
          clear HB9
          have HB9 := HB9n
          clear HB9n
          have HA8n := Lib.hid (And.intro (HA8.out.1.below hb) HA8.out.2)
          clear HA8
          have HA8 := HA8n
          clear HA8n
          have HPLn := Lib.hid (And.intro (HPL.out.1.later hb) HPL.out.2)
          clear HPL
          have HPL := HPLn
          clear HPLn
          have HA9 := HA9n
          clear HA9n
          refine hK2.out _ _ (⟨hHeld.1.below hb, hHeld.2.below hb⟩) (fun hHeld2 => ?_)
          clear hb
          clear hK2 K2 hHeld
          have hHeld := hHeld2
          clear hHeld2
          try simp (maxSteps := 4000000) only [Act.put, List.setIfInBounds_toArray, List.set_cons_zero, List.set_cons_succ]
          refine wpAnyH_ready (rs := [3]) (by kernel_rfl) (by simp) ?_
          refine AllReadyH.cons rfl (fun K2 hK2 => ?_) AllReadyH.nil
          go_simp
          with_reducible refine Calls.mono (few37 b l c p t v _) ?_
          rintro e u4 ⟨b1, l1, c1, p1, t1, rfl, hq1, hb⟩
          have HQ1 : Hid (FB37 b1 l1 c1 p1 t1) := Lib.hid hq1
          clear hq1
          have HB9n := Lib.hid (thn HB9.out hb)
          clear HB9
          have HB9 := HB9n
          clear HB9n
          have HA8n := Lib.hid (And.intro (HA8.out.1.below hb) HA8.out.2)
          clear HA8
          have HA8 := HA8n
          clear HA8n
          have HA9n := Lib.hid (And.intro (HA9.out.1.below hb) HA9.out.2)
          clear HA9
          have HA9 := HA9n
          clear HA9n
          have HPLn := Lib.hid (And.intro (HPL.out.1.later hb) HPL.out.2)
          clear HPL
          have HPL := HPLn
          clear HPLn
          refine hK2.out _ _ (⟨hHeld.1.below hb, hHeld.2.below hb⟩) (fun hHeld2 => ?_)
          clear hb
          clear hK2 K2 hHeld
          have hHeld := hHeld2
          clear hHeld2
          try simp (maxSteps := 4000000) only [Act.put, List.setIfInBounds_toArray, List.set_cons_zero, List.set_cons_succ]
          obtain ⟨-, ⟨z80, z81, z82⟩, g80, g81, g82⟩ := HA8.out.1
          refine wpAnyH_ready (rs := [6]) (by kernel_rfl) (by simp) ?_
          refine AllReadyH.cons rfl (fun K2 hK2 => ?_) AllReadyH.nil
          go_simp
          obtain ⟨u5, hw9, hz9, hs9, hk9, hb9⟩ := pl_st HA8.out.1 HA8.out.2 HB9.out M R P
          rw [hw9]
          clear hw9 z80 z81 z82 g80 g81 g82
          have HA8n := Lib.hid (And.intro hz9 HA8.out.2)
          have HA9n := Lib.hid (And.intro (HA9.out.1.keep (Nat.le_of_eq hs9.symm) (hk9 _ hx89.symm)) HA9.out.2)
          have HPLn := Lib.hid (And.intro (HPL.out.1.away HW8.out T3.out HPL.out.2.2 hb9 hs9 hk9) HPL.out.2)
          have HB9n := Lib.hid hb9
          refine hK2.out _ _ (⟨hHeld.1.keep (Nat.le_of_eq hs9.symm) (hk9 _ (by have := HLT.out; have := HA8.out.2; omega)), hHeld.2.keep (Nat.le_of_eq hs9.symm) (hk9 _ (by have := HLT.out; have := HA8.out.2; omega))⟩) (fun hHeld2 => ?_)
          clear HA8 HA9 HB9 HPL hz9 hs9 hk9 hb9
          have HA8 := HA8n
          have HA9 := HA9n
          have HPL := HPLn
          have HB9 := HB9n
          clear HA8n HA9n HPLn HB9n
          clear hK2 K2 hHeld
          have hHeld := hHeld2
          clear hHeld2
          try simp (maxSteps := 4000000) only [Act.put, List.setIfInBounds_toArray, List.set_cons_zero, List.set_cons_succ]
          obtain ⟨-, z90, z91, z92, z93, z94, z95, -⟩ := HA9.out.1
          obtain ⟨g90, g91, g92, g93, g94, g95⟩ := HA9.out.1.fzB
          refine wpAnyH_ready (rs := [7]) (by kernel_rfl) (by simp) ?_
          refine AllReadyH.cons rfl (fun K2 hK2 => ?_) AllReadyH.nil
          go_simp
          obtain ⟨u6, hw9, hz9, hs9, hk9, hb9⟩ := cap_st HA9.out.1 HA9.out.2 HB9.out b1 l1 c1 p1 t1 true
          rw [hw9]
          clear hw9 z90 g90 z91 g91 z92 g92 z93 g93 z94 g94 z95 g95
          have HA9n := Lib.hid (And.intro hz9 HA9.out.2)
          have HA8n := Lib.hid (And.intro (HA8.out.1.keep (Nat.le_of_eq hs9.symm) (hk9 _ hx89)) HA8.out.2)
          have HPLn := Lib.hid (And.intro (HPL.out.1.away HW9.out T3.out HPL.out.2.2 hb9 hs9 hk9) HPL.out.2)
          have HB9n := Lib.hid hb9
          refine hK2.out _ _ (⟨hHeld.1.keep (Nat.le_of_eq hs9.symm) (hk9 _ (by have := HLT.out; have := HA9.out.2; omega)), hHeld.2.keep (Nat.le_of_eq hs9.symm) (hk9 _ (by have := HLT.out; have := HA9.out.2; omega))⟩) (fun hHeld2 => ?_)
          clear HA8 HA9 HB9 HPL hz9 hs9 hk9 hb9
          have HA8 := HA8n
          have HA9 := HA9n
          have HPL := HPLn
          have HB9 := HB9n
          clear HA8n HA9n HPLn HB9n
          clear hK2 K2 hHeld
          have hHeld := hHeld2
          clear hHeld2
          try simp (maxSteps := 4000000) only [Act.put, List.setIfInBounds_toArray, List.set_cons_zero, List.set_cons_succ]
          refine wpAnyH_done (by kernel_rfl) ?_ _
          go_wp2_with fail
          go_meet
          exact ⟨x8, x9, _, _, _, _, _, rfl, rfl, Lib.hid ⟨⟨B, lo, g, col, M, R, P, pg, pc, ws, HPL.out.1, HPL.out.2.1, HQ1.out, HA8.out.1, HA9.out.1, HW8.out, HW9.out, HPL.out.2.2, HB9.out⟩, hx89, HA8.out.2, HA9.out.2⟩⟩
      · obtain ⟨x9, u2, hx9, hw9, hz9, hb⟩ := cz_next u1
        rw [hw9]
        try rw [hx9]
        clear hw9
        have HB9n := Lib.hid (thn HB9.out hb)
        have HA9n := Lib.hid (And.intro hz9 (show v3.heap.size ≤ x9 by have := HB9.out.size; omega))
        have HW9 : Hid (Away B col R g P x9) := Lib.hid (HPL.out.1.fresh (Nat.le_of_eq hx9))
        clear hx9 hz9
        clear HB9
        have HB9 := HB9n
        clear HB9n
        have HPLn := Lib.hid (And.intro (HPL.out.1.later hb) HPL.out.2)
        clear HPL
        have HPL := HPLn
        clear HPLn
        have HA9 := HA9n
        clear HA9n
        refine hK2.out _ _ (⟨hHeld.1.below hb, hHeld.2.below hb⟩) (fun hHeld2 => ?_)
        clear hb
        clear hK2 K2 hHeld
        have hHeld := hHeld2
        clear hHeld2
        try simp (maxSteps := 4000000) only [Act.put, List.setIfInBounds_toArray, List.set_cons_zero, List.set_cons_succ]
        refine wpAnyH_ready (rs := [3, 4]) (by kernel_rfl) (by simp) ?_
        refine AllReadyH.cons rfl (fun K2 hK2 => ?_) (AllReadyH.cons rfl (fun K2 hK2 => ?_) AllReadyH.nil)
        all_goals go_simp
        · with_reducible refine Calls.mono (few37 b l c p t v _) ?_
          rintro e u3 ⟨b1, l1, c1, p1, t1, rfl, hq1, hb⟩
          have HQ1 : Hid (FB37 b1 l1 c1 p1 t1) := Lib.hid hq1
          clear hq1
          have HB9n := Lib.hid (thn HB9.out hb)
          clear HB9
          have HB9 := HB9n
          clear HB9n
          have HA9n := Lib.hid (And.intro (HA9.out.1.below hb) HA9.out.2)
          clear HA9
          have HA9 := HA9n
          clear HA9n
          have HPLn := Lib.hid (And.intro (HPL.out.1.later hb) HPL.out.2)
          clear HPL
          have HPL := HPLn
          clear HPLn
          refine hK2.out _ _ (⟨hHeld.1.below hb, hHeld.2.below hb⟩) (fun hHeld2 => ?_)
          clear hb
          clear hK2 K2 hHeld
          have hHeld := hHeld2
          clear hHeld2
          try simp (maxSteps := 4000000) only [Act.put, List.setIfInBounds_toArray, List.set_cons_zero, List.set_cons_succ]
          refine wpAnyH_ready (rs := [4]) (by kernel_rfl) (by simp) ?_
          refine AllReadyH.cons rfl (fun K2 hK2 => ?_) AllReadyH.nil
          go_simp
          obtain ⟨x8, u4, hx8, hw9, hz9, hb⟩ := pz_next u3
          rw [hw9]
          try rw [hx8]
          clear hw9
          have HB9n := Lib.hid (thn HB9.out hb)
          have HA8n := Lib.hid (And.intro hz9 (show v3.heap.size ≤ x8 by have := HB9.out.size; omega))
          have hx89 : x8 ≠ x9 := by have h1 := HA9.out.1.1; omega
          have HW8 : Hid (Away B col R g P x8) := Lib.hid (HPL.out.1.fresh (Nat.le_of_eq hx8))
          clear hx8 hz9
          clear HB9
          have HB9 := HB9n
          clear HB9n
          have HA9n := Lib.hid (And.intro (HA9.out.1.below hb) HA9.out.2)
          clear HA9
          have HA9 := HA9n
          clear HA9n
          have HPLn := Lib.hid (And.intro (HPL.out.1.later hb) HPL.out.2)
          clear HPL
          have HPL := HPLn
          clear HPLn
          have HA8 := HA8n
          clear HA8n
          refine hK2.out _ _ (⟨hHeld.1.below hb, hHeld.2.below hb⟩) (fun hHeld2 => ?_)
          clear hb
          clear hK2 K2 hHeld
          have hHeld := hHeld2
          clear hHeld2
          try simp (maxSteps := 4000000) only [Act.put, List.setIfInBounds_toArray, List.set_cons_zero, List.set_cons_succ]
          obtain ⟨-, ⟨z80, z81, z82⟩, g80, g81, g82⟩ := HA8.out.1
          refine wpAnyH_ready (rs := [6]) (by kernel_rfl) (by simp) ?_
          refine AllReadyH.cons rfl (fun K2 hK2 => ?_) AllReadyH.nil
          go_simp
          obtain ⟨u5, hw9, hz9, hs9, hk9, hb9⟩ := pl_st HA8.out.1 HA8.out.2 HB9.out M R P
          rw [hw9]
          clear hw9 z80 z81 z82 g80 g81 g82
          have HA8n := Lib.hid (And.intro hz9 HA8.out.2)
          have HA9n := Lib.hid (And.intro (HA9.out.1.keep (Nat.le_of_eq hs9.symm) (hk9 _ hx89.symm)) HA9.out.2)
          have HPLn := Lib.hid (And.intro (HPL.out.1.away HW8.out T3.out HPL.out.2.2 hb9 hs9 hk9) HPL.out.2)
          have HB9n := Lib.hid hb9
          refine hK2.out _ _ (⟨hHeld.1.keep (Nat.le_of_eq hs9.symm) (hk9 _ (by have := HLT.out; have := HA8.out.2; omega)), hHeld.2.keep (Nat.le_of_eq hs9.symm) (hk9 _ (by have := HLT.out; have := HA8.out.2; omega))⟩) (fun hHeld2 => ?_)
          clear HA8 HA9 HB9 HPL hz9 hs9 hk9 hb9
          have HA8 := HA8n
          have HA9 := HA9n
          have HPL := HPLn
          have HB9 := HB9n
          clear HA8n HA9n HPLn HB9n
          clear hK2 K2 hHeld
          have hHeld := hHeld2
          clear hHeld2
          try simp (maxSteps := 4000000) only [Act.put, List.setIfInBounds_toArray, List.set_cons_zero, List.set_cons_succ]
          obtain ⟨-, z90, z91, z92, z93, z94, z95, -⟩ := HA9.out.1
          obtain ⟨g90, g91, g92, g93, g94, g95⟩ := HA9.out.1.fzB
          refine wpAnyH_ready (rs := [7]) (by kernel_rfl) (by simp) ?_
          refine AllReadyH.cons rfl (fun K2 hK2 => ?_) AllReadyH.nil
          go_simp
          obtain ⟨u6, hw9, hz9, hs9, hk9, hb9⟩ := cap_st HA9.out.1 HA9.out.2 HB9.out b1 l1 c1 p1 t1 true
          rw [hw9]
          clear hw9 z90 g90 z91 g91 z92 g92 z93 g93 z94 g94 z95 g95
          have HA9n := Lib.hid (And.intro hz9 HA9.out.2)
          have HA8n := Lib.hid (And.intro (HA8.out.1.keep (Nat.le_of_eq hs9.symm) (hk9 _ hx89)) HA8.out.2)
          have HPLn := Lib.hid (And.intro (HPL.out.1.away HW9.out T3.out HPL.out.2.2 hb9 hs9 hk9) HPL.out.2)
          have HB9n := Lib.hid hb9
          refine hK2.out _ _ (⟨hHeld.1.keep (Nat.le_of_eq hs9.symm) (hk9 _ (by have := HLT.out; have := HA9.out.2; omega)), hHeld.2.keep (Nat.le_of_eq hs9.symm) (hk9 _ (by have := HLT.out; have := HA9.out.2; omega))⟩) (fun hHeld2 => ?_)
          clear HA8 HA9 HB9 HPL hz9 hs9 hk9 hb9
          have HA8 := HA8n
          have HA9 := HA9n
          have HPL := HPLn
          have HB9 := HB9n
          clear HA8n HA9n HPLn HB9n
          clear hK2 K2 hHeld
          have hHeld := hHeld2
          clear hHeld2
          try simp (maxSteps := 4000000) only [Act.put, List.setIfInBounds_toArray, List.set_cons_zero, List.set_cons_succ]
          refine wpAnyH_done (by kernel_rfl) ?_ _
          go_wp2_with fail
          go_meet
          exact ⟨x8, x9, _, _, _, _, _, rfl, rfl, Lib.hid ⟨⟨B, lo, g, col, M, R, P, pg, pc, ws, HPL.out.1, HPL.out.2.1, HQ1.out, HA8.out.1, HA9.out.1, HW8.out, HW9.out, HPL.out.2.2, HB9.out⟩, hx89, HA8.out.2, HA9.out.2⟩⟩
        · obtain ⟨x8, u3, hx8, hw9, hz9, hb⟩ := pz_next u2
          rw [hw9]
          try rw [hx8]
          clear hw9
          have HB9n := Lib.hid (thn HB9.out hb)
          have HA8n := Lib.hid (And.intro hz9 (show v3.heap.size ≤ x8 by have := HB9.out.size; omega))
          have hx89 : x8 ≠ x9 := by have h1 := HA9.out.1.1; omega
          have HW8 : Hid (Away B col R g P x8) := Lib.hid (HPL.out.1.fresh (Nat.le_of_eq hx8))
          clear hx8 hz9
          clear HB9
          have HB9 := HB9n
          clear HB9n
          have HA9n := Lib.hid (And.intro (HA9.out.1.below hb) HA9.out.2)
          clear HA9
          have HA9 := HA9n
          clear HA9n
          have HPLn := Lib.hid (And.intro (HPL.out.1.later hb) HPL.out.2)
          clear HPL
          have HPL := HPLn
          clear HPLn
          have HA8 := HA8n
          clear HA8n
          refine hK2.out _ _ (⟨hHeld.1.below hb, hHeld.2.below hb⟩) (fun hHeld2 => ?_)
          clear hb
          clear hK2 K2 hHeld
          have hHeld := hHeld2
          clear hHeld2
          try simp (maxSteps := 4000000) only [Act.put, List.setIfInBounds_toArray, List.set_cons_zero, List.set_cons_succ]
          refine wpAnyH_ready (rs := [3]) (by kernel_rfl) (by simp) ?_
          refine AllReadyH.cons rfl (fun K2 hK2 => ?_) AllReadyH.nil
          go_simp
          with_reducible refine Calls.mono (few37 b l c p t v _) ?_
          rintro e u4 ⟨b1, l1, c1, p1, t1, rfl, hq1, hb⟩
          have HQ1 : Hid (FB37 b1 l1 c1 p1 t1) := Lib.hid hq1
          clear hq1
          have HB9n := Lib.hid (thn HB9.out hb)
          clear HB9
          have HB9 := HB9n
          clear HB9n
          have HA8n := Lib.hid (And.intro (HA8.out.1.below hb) HA8.out.2)
          clear HA8
          have HA8 := HA8n
          clear HA8n
          have HA9n := Lib.hid (And.intro (HA9.out.1.below hb) HA9.out.2)
          clear HA9
          have HA9 := HA9n
          clear HA9n
          have HPLn := Lib.hid (And.intro (HPL.out.1.later hb) HPL.out.2)
          clear HPL
          have HPL := HPLn
          clear HPLn
          refine hK2.out _ _ (⟨hHeld.1.below hb, hHeld.2.below hb⟩) (fun hHeld2 => ?_)
          clear hb
          clear hK2 K2 hHeld
          have hHeld := hHeld2
          clear hHeld2
          try simp (maxSteps := 4000000) only [Act.put, List.setIfInBounds_toArray, List.set_cons_zero, List.set_cons_succ]
          obtain ⟨-, ⟨z80, z81, z82⟩, g80, g81, g82⟩ := HA8.out.1
          refine wpAnyH_ready (rs := [6]) (by kernel_rfl) (by simp) ?_
          refine AllReadyH.cons rfl (fun K2 hK2 => ?_) AllReadyH.nil
          go_simp
          obtain ⟨u5, hw9, hz9, hs9, hk9, hb9⟩ := pl_st HA8.out.1 HA8.out.2 HB9.out M R P
          rw [hw9]
          clear hw9 z80 z81 z82 g80 g81 g82
          have HA8n := Lib.hid (And.intro hz9 HA8.out.2)
          have HA9n := Lib.hid (And.intro (HA9.out.1.keep (Nat.le_of_eq hs9.symm) (hk9 _ hx89.symm)) HA9.out.2)
          have HPLn := Lib.hid (And.intro (HPL.out.1.away HW8.out T3.out HPL.out.2.2 hb9 hs9 hk9) HPL.out.2)
          have HB9n := Lib.hid hb9
          refine hK2.out _ _ (⟨hHeld.1.keep (Nat.le_of_eq hs9.symm) (hk9 _ (by have := HLT.out; have := HA8.out.2; omega)), hHeld.2.keep (Nat.le_of_eq hs9.symm) (hk9 _ (by have := HLT.out; have := HA8.out.2; omega))⟩) (fun hHeld2 => ?_)
          clear HA8 HA9 HB9 HPL hz9 hs9 hk9 hb9
          have HA8 := HA8n
          have HA9 := HA9n
          have HPL := HPLn
          have HB9 := HB9n
          clear HA8n HA9n HPLn HB9n
          clear hK2 K2 hHeld
          have hHeld := hHeld2
          clear hHeld2
          try simp (maxSteps := 4000000) only [Act.put, List.setIfInBounds_toArray, List.set_cons_zero, List.set_cons_succ]
          obtain ⟨-, z90, z91, z92, z93, z94, z95, -⟩ := HA9.out.1
          obtain ⟨g90, g91, g92, g93, g94, g95⟩ := HA9.out.1.fzB
          refine wpAnyH_ready (rs := [7]) (by kernel_rfl) (by simp) ?_
          refine AllReadyH.cons rfl (fun K2 hK2 => ?_) AllReadyH.nil
          go_simp
          obtain ⟨u6, hw9, hz9, hs9, hk9, hb9⟩ := cap_st HA9.out.1 HA9.out.2 HB9.out b1 l1 c1 p1 t1 true
          rw [hw9]
          clear hw9 z90 g90 z91 g91 z92 g92 z93 g93 z94 g94 z95 g95
          have HA9n := Lib.hid (And.intro hz9 HA9.out.2)
          have HA8n := Lib.hid (And.intro (HA8.out.1.keep (Nat.le_of_eq hs9.symm) (hk9 _ hx89)) HA8.out.2)
          have HPLn := Lib.hid (And.intro (HPL.out.1.away HW9.out T3.out HPL.out.2.2 hb9 hs9 hk9) HPL.out.2)
          have HB9n := Lib.hid hb9
          refine hK2.out _ _ (⟨hHeld.1.keep (Nat.le_of_eq hs9.symm) (hk9 _ (by have := HLT.out; have := HA9.out.2; omega)), hHeld.2.keep (Nat.le_of_eq hs9.symm) (hk9 _ (by have := HLT.out; have := HA9.out.2; omega))⟩) (fun hHeld2 => ?_)
          clear HA8 HA9 HB9 HPL hz9 hs9 hk9 hb9
          have HA8 := HA8n
          have HA9 := HA9n
          have HPL := HPLn
          have HB9 := HB9n
          clear HA8n HA9n HPLn HB9n
          clear hK2 K2 hHeld
          have hHeld := hHeld2
          clear hHeld2
          try simp (maxSteps := 4000000) only [Act.put, List.setIfInBounds_toArray, List.set_cons_zero, List.set_cons_succ]
          refine wpAnyH_done (by kernel_rfl) ?_ _
          go_wp2_with fail
          go_meet
          exact ⟨x8, x9, _, _, _, _, _, rfl, rfl, Lib.hid ⟨⟨B, lo, g, col, M, R, P, pg, pc, ws, HPL.out.1, HPL.out.2.1, HQ1.out, HA8.out.1, HA9.out.1, HW8.out, HW9.out, HPL.out.2.2, HB9.out⟩, hx89, HA8.out.2, HA9.out.2⟩⟩
    · obtain ⟨x8, u1, hx8, hw9, hz9, hb⟩ := pz_first v3
      rw [hw9]
      try rw [hx8]
      clear hw9
      have HB9 := Lib.hid hb
      have HA8n := Lib.hid (And.intro hz9 (show v3.heap.size ≤ x8 by omega))
      clear hx8 hz9
      have HA8 := HA8n
      clear HA8n
      refine hK2.out _ _ (⟨HX2.out.below hb, HY2.out.below hb⟩) (fun hHeld2 => ?_)
      clear hb
      clear hK2 K2 hHeld
      have hHeld := hHeld2
      clear hHeld2
      try simp (maxSteps := 4000000) only [Act.put, List.setIfInBounds_toArray, List.set_cons_zero, List.set_cons_succ]
      refine wpAnyH_ready (rs := [1, 5]) (by kernel_rfl) (by simp) ?_
      refine AllReadyH.cons rfl (fun K2 hK2 => ?_) (AllReadyH.cons rfl (fun K2 hK2 => ?_) AllReadyH.nil)
      all_goals go_simp
      · with_reducible refine Calls.mono (w37made sb sl _ HSB.out.1 HSB.out.2.1 HSB.out.2.2.1 HSB.out.2.2.2 (T3.out.later HB9.out)) ?_
        rintro e u2 ⟨B, lo, g, col, M, R, P, pg, pc, ws, rfl, hp0, hpa0, hB0, hb⟩
        have HPL := Lib.hid (And.intro hp0 (And.intro hpa0 (show v3.heap.size ≤ B by have := HB9.out.size; omega)))
        have HW8 : Hid (Away B col R g P x8) := Lib.hid (.inl (Nat.lt_of_lt_of_le HA8.out.1.1 hB0))
        clear hp0 hpa0 hB0
        have HB9n := Lib.hid (thn HB9.out hb)
        clear HB9
        have HB9 := HB9n
        clear HB9n
        have HA8n := Lib.hid (And.intro (HA8.out.1.below hb) HA8.out.2)
        clear HA8
        have HA8 := HA8n
        clear HA8n
        refine hK2.out _ _ (⟨hHeld.1.below hb, hHeld.2.below hb⟩) (fun hHeld2 => ?_)
        clear hb
        clear hK2 K2 hHeld
        have hHeld := hHeld2
        clear hHeld2
        try simp (maxSteps := 4000000) only [Act.put, List.setIfInBounds_toArray, List.set_cons_zero, List.set_cons_succ]
        refine wpAnyH_ready (rs := [3, 5]) (by kernel_rfl) (by simp) ?_
        refine AllReadyH.cons rfl (fun K2 hK2 => ?_) (AllReadyH.cons rfl (fun K2 hK2 => ?_) AllReadyH.nil)
        all_goals go_simp
        · with_reducible refine Calls.mono (few37 b l c p t v _) ?_
          rintro e u3 ⟨b1, l1, c1, p1, t1, rfl, hq1, hb⟩
          have HQ1 : Hid (FB37 b1 l1 c1 p1 t1) := Lib.hid hq1
          clear hq1
          have HB9n := Lib.hid (thn HB9.out hb)
          clear HB9
          have HB9 := HB9n
          clear HB9n
          have HA8n := Lib.hid (And.intro (HA8.out.1.below hb) HA8.out.2)
          clear HA8
          have HA8 := HA8n
          clear HA8n
          have HPLn := Lib.hid (And.intro (HPL.out.1.later hb) HPL.out.2)
          clear HPL
          have HPL := HPLn
          clear HPLn
          refine hK2.out _ _ (⟨hHeld.1.below hb, hHeld.2.below hb⟩) (fun hHeld2 => ?_)
          clear hb
          clear hK2 K2 hHeld
          have hHeld := hHeld2
          clear hHeld2
          try simp (maxSteps := 4000000) only [Act.put, List.setIfInBounds_toArray, List.set_cons_zero, List.set_cons_succ]
          refine wpAnyH_ready (rs := [5]) (by kernel_rfl) (by simp) ?_
          refine AllReadyH.cons rfl (fun K2 hK2 => ?_) AllReadyH.nil
          go_simp
          obtain ⟨x9, u4, hx9, hw9, hz9, hb⟩ := cz_next u3
          rw [hw9]
          try rw [hx9]
          clear hw9
          have HB9n := Lib.hid (thn HB9.out hb)
          have HA9n := Lib.hid (And.intro hz9 (show v3.heap.size ≤ x9 by have := HB9.out.size; omega))
          have hx89 : x8 ≠ x9 := by have h1 := HA8.out.1.1; omega
          have HW9 : Hid (Away B col R g P x9) := Lib.hid (HPL.out.1.fresh (Nat.le_of_eq hx9))
          clear hx9 hz9
          clear HB9
          have HB9 := HB9n
          clear HB9n
          have HA8n := Lib.hid (And.intro (HA8.out.1.below hb) HA8.out.2)
          clear HA8
          have HA8 := HA8n
          clear HA8n
          have HPLn := Lib.hid (And.intro (HPL.out.1.later hb) HPL.out.2)
          clear HPL
          have HPL := HPLn
          clear HPLn
          have HA9 := HA9n
          clear HA9n
          refine hK2.out _ _ (⟨hHeld.1.below hb, hHeld.2.below hb⟩) (fun hHeld2 => ?_)
          clear hb
          clear hK2 K2 hHeld
          have hHeld := hHeld2
          clear hHeld2
          try simp (maxSteps := 4000000) only [Act.put, List.setIfInBounds_toArray, List.set_cons_zero, List.set_cons_succ]
          obtain ⟨-, ⟨z80, z81, z82⟩, g80, g81, g82⟩ := HA8.out.1
          refine wpAnyH_ready (rs := [6]) (by kernel_rfl) (by simp) ?_
          refine AllReadyH.cons rfl (fun K2 hK2 => ?_) AllReadyH.nil
          go_simp
          obtain ⟨u5, hw9, hz9, hs9, hk9, hb9⟩ := pl_st HA8.out.1 HA8.out.2 HB9.out M R P
          rw [hw9]
          clear hw9 z80 z81 z82 g80 g81 g82
          have HA8n := Lib.hid (And.intro hz9 HA8.out.2)
          have HA9n := Lib.hid (And.intro (HA9.out.1.keep (Nat.le_of_eq hs9.symm) (hk9 _ hx89.symm)) HA9.out.2)
          have HPLn := Lib.hid (And.intro (HPL.out.1.away HW8.out T3.out HPL.out.2.2 hb9 hs9 hk9) HPL.out.2)
          have HB9n := Lib.hid hb9
          refine hK2.out _ _ (⟨hHeld.1.keep (Nat.le_of_eq hs9.symm) (hk9 _ (by have := HLT.out; have := HA8.out.2; omega)), hHeld.2.keep (Nat.le_of_eq hs9.symm) (hk9 _ (by have := HLT.out; have := HA8.out.2; omega))⟩) (fun hHeld2 => ?_)
          clear HA8 HA9 HB9 HPL hz9 hs9 hk9 hb9
          have HA8 := HA8n
          have HA9 := HA9n
          have HPL := HPLn
          have HB9 := HB9n
          clear HA8n HA9n HPLn HB9n
          clear hK2 K2 hHeld
          have hHeld := hHeld2
          clear hHeld2
          try simp (maxSteps := 4000000) only [Act.put, List.setIfInBounds_toArray, List.set_cons_zero, List.set_cons_succ]
          obtain ⟨-, z90, z91, z92, z93, z94, z95, -⟩ := HA9.out.1
          obtain ⟨g90, g91, g92, g93, g94, g95⟩ := HA9.out.1.fzB
          refine wpAnyH_ready (rs := [7]) (by kernel_rfl) (by simp) ?_
          refine AllReadyH.cons rfl (fun K2 hK2 => ?_) AllReadyH.nil
          go_simp
          obtain ⟨u6, hw9, hz9, hs9, hk9, hb9⟩ := cap_st HA9.out.1 HA9.out.2 HB9.out b1 l1 c1 p1 t1 true
          rw [hw9]
          clear hw9 z90 g90 z91 g91 z92 g92 z93 g93 z94 g94 z95 g95
          have HA9n := Lib.hid (And.intro hz9 HA9.out.2)
          have HA8n := Lib.hid (And.intro (HA8.out.1.keep (Nat.le_of_eq hs9.symm) (hk9 _ hx89)) HA8.out.2)
          have HPLn := Lib.hid (And.intro (HPL.out.1.away HW9.out T3.out HPL.out.2.2 hb9 hs9 hk9) HPL.out.2)
          have HB9n := Lib.hid hb9
          refine hK2.out _ _ (⟨hHeld.1.keep (Nat.le_of_eq hs9.symm) (hk9 _ (by have := HLT.out; have := HA9.out.2; omega)), hHeld.2.keep (Nat.le_of_eq hs9.symm) (hk9 _ (by have := HLT.out; have := HA9.out.2; omega))⟩) (fun hHeld2 => ?_)
          clear HA8 HA9 HB9 HPL hz9 hs9 hk9 hb9
          have HA8 := HA8n
          have HA9 := HA9n
          have HPL := HPLn
          have HB9 := HB9n
          clear HA8n HA9n HPLn HB9n
          clear hK2 K2 hHeld
          have hHeld := hHeld2
          clear hHeld2
          try simp (maxSteps := 4000000) only [Act.put, List.setIfInBounds_toArray, List.set_cons_zero, List.set_cons_succ]
          refine wpAnyH_done (by kernel_rfl) ?_ _
          go_wp2_with fail
          go_meet
          exact ⟨x8, x9, _, _, _, _, _, rfl, rfl, Lib.hid ⟨⟨B, lo, g, col, M, R, P, pg, pc, ws, HPL.out.1, HPL.out.2.1, HQ1.out, HA8.out.1, HA9.out.1, HW8.out, HW9.out, HPL.out.2.2, HB9.out⟩, hx89, HA8.out.2, HA9.out.2⟩⟩
        · obtain ⟨x9, u3, hx9, hw9, hz9, hb⟩ := cz_next u2
          rw [hw9]
          try rw [hx9]
          clear hw9
          have HB9n := Lib.hid (thn HB9.out hb)
          have HA9n := Lib.hid (And.intro hz9 (show v3.heap.size ≤ x9 by have := HB9.out.size; omega))
          have hx89 : x8 ≠ x9 := by have h1 := HA8.out.1.1; omega
          have HW9 : Hid (Away B col R g P x9) := Lib.hid (HPL.out.1.fresh (Nat.le_of_eq hx9))
          clear hx9 hz9
          clear HB9
          have HB9 := HB9n
          clear HB9n
          have HA8n := Lib.hid (And.intro (HA8.out.1.below hb) HA8.out.2)
          clear HA8
          have HA8 := HA8n
          clear HA8n
          have HPLn := Lib.hid (And.intro (HPL.out.1.later hb) HPL.out.2)
          clear HPL
          have HPL := HPLn
          clear HPLn
          have HA9 := HA9n
          clear HA9n
          refine hK2.out _ _ (⟨hHeld.1.below hb, hHeld.2.below hb⟩) (fun hHeld2 => ?_)
          clear hb
          clear hK2 K2 hHeld
          have hHeld := hHeld2
          clear hHeld2
          try simp (maxSteps := 4000000) only [Act.put, List.setIfInBounds_toArray, List.set_cons_zero, List.set_cons_succ]
          refine wpAnyH_ready (rs := [3]) (by kernel_rfl) (by simp) ?_
          refine AllReadyH.cons rfl (fun K2 hK2 => ?_) AllReadyH.nil
          go_simp
          with_reducible refine Calls.mono (few37 b l c p t v _) ?_
          rintro e u4 ⟨b1, l1, c1, p1, t1, rfl, hq1, hb⟩
          have HQ1 : Hid (FB37 b1 l1 c1 p1 t1) := Lib.hid hq1
          clear hq1
          have HB9n := Lib.hid (thn HB9.out hb)
          clear HB9
          have HB9 := HB9n
          clear HB9n
          have HA8n := Lib.hid (And.intro (HA8.out.1.below hb) HA8.out.2)
          clear HA8
          have HA8 := HA8n
          clear HA8n
          have HA9n := Lib.hid (And.intro (HA9.out.1.below hb) HA9.out.2)
          clear HA9
          have HA9 := HA9n
          clear HA9n
          have HPLn := Lib.hid (And.intro (HPL.out.1.later hb) HPL.out.2)
          clear HPL
          have HPL := HPLn
          clear HPLn
          refine hK2.out _ _ (⟨hHeld.1.below hb, hHeld.2.below hb⟩) (fun hHeld2 => ?_)
          clear hb
          clear hK2 K2 hHeld
          have hHeld := hHeld2
          clear hHeld2
          try simp (maxSteps := 4000000) only [Act.put, List.setIfInBounds_toArray, List.set_cons_zero, List.set_cons_succ]
          obtain ⟨-, ⟨z80, z81, z82⟩, g80, g81, g82⟩ := HA8.out.1
          refine wpAnyH_ready (rs := [6]) (by kernel_rfl) (by simp) ?_
          refine AllReadyH.cons rfl (fun K2 hK2 => ?_) AllReadyH.nil
          go_simp
          obtain ⟨u5, hw9, hz9, hs9, hk9, hb9⟩ := pl_st HA8.out.1 HA8.out.2 HB9.out M R P
          rw [hw9]
          clear hw9 z80 z81 z82 g80 g81 g82
          have HA8n := Lib.hid (And.intro hz9 HA8.out.2)
          have HA9n := Lib.hid (And.intro (HA9.out.1.keep (Nat.le_of_eq hs9.symm) (hk9 _ hx89.symm)) HA9.out.2)
          have HPLn := Lib.hid (And.intro (HPL.out.1.away HW8.out T3.out HPL.out.2.2 hb9 hs9 hk9) HPL.out.2)
          have HB9n := Lib.hid hb9
          refine hK2.out _ _ (⟨hHeld.1.keep (Nat.le_of_eq hs9.symm) (hk9 _ (by have := HLT.out; have := HA8.out.2; omega)), hHeld.2.keep (Nat.le_of_eq hs9.symm) (hk9 _ (by have := HLT.out; have := HA8.out.2; omega))⟩) (fun hHeld2 => ?_)
          clear HA8 HA9 HB9 HPL hz9 hs9 hk9 hb9
          have HA8 := HA8n
          have HA9 := HA9n
          have HPL := HPLn
          have HB9 := HB9n
          clear HA8n HA9n HPLn HB9n
          clear hK2 K2 hHeld
          have hHeld := hHeld2
          clear hHeld2
          try simp (maxSteps := 4000000) only [Act.put, List.setIfInBounds_toArray, List.set_cons_zero, List.set_cons_succ]
          obtain ⟨-, z90, z91, z92, z93, z94, z95, -⟩ := HA9.out.1
          obtain ⟨g90, g91, g92, g93, g94, g95⟩ := HA9.out.1.fzB
          refine wpAnyH_ready (rs := [7]) (by kernel_rfl) (by simp) ?_
          refine AllReadyH.cons rfl (fun K2 hK2 => ?_) AllReadyH.nil
          go_simp
          obtain ⟨u6, hw9, hz9, hs9, hk9, hb9⟩ := cap_st HA9.out.1 HA9.out.2 HB9.out b1 l1 c1 p1 t1 true
          rw [hw9]
          clear hw9 z90 g90 z91 g91 z92 g92 z93 g93 z94 g94 z95 g95
          have HA9n := Lib.hid (And.intro hz9 HA9.out.2)
          have HA8n := Lib.hid (And.intro (HA8.out.1.keep (Nat.le_of_eq hs9.symm) (hk9 _ hx89)) HA8.out.2)
          have HPLn := Lib.hid (And.intro (HPL.out.1.away HW9.out T3.out HPL.out.2.2 hb9 hs9 hk9) HPL.out.2)
          have HB9n := Lib.hid hb9
          refine hK2.out _ _ (⟨hHeld.1.keep (Nat.le_of_eq hs9.symm) (hk9 _ (by have := HLT.out; have := HA9.out.2; omega)), hHeld.2.keep (Nat.le_of_eq hs9.symm) (hk9 _ (by have := HLT.out; have := HA9.out.2; omega))⟩) (fun hHeld2 => ?_)
          clear HA8 HA9 HB9 HPL hz9 hs9 hk9 hb9
          have HA8 := HA8n
          have HA9 := HA9n
          have HPL := HPLn
          have HB9 := HB9n
          clear HA8n HA9n HPLn HB9n
          clear hK2 K2 hHeld
          have hHeld := hHeld2
          clear hHeld2
          try simp (maxSteps := 4000000) only [Act.put, List.setIfInBounds_toArray, List.set_cons_zero, List.set_cons_succ]
          refine wpAnyH_done (by kernel_rfl) ?_ _
          go_wp2_with fail
          go_meet
          exact ⟨x8, x9, _, _, _, _, _, rfl, rfl, Lib.hid ⟨⟨B, lo, g, col, M, R, P, pg, pc, ws, HPL.out.1, HPL.out.2.1, HQ1.out, HA8.out.1, HA9.out.1, HW8.out, HW9.out, HPL.out.2.2, HB9.out⟩, hx89, HA8.out.2, HA9.out.2⟩⟩
      · obtain ⟨x9, u2, hx9, hw9, hz9, hb⟩ := cz_next u1
        rw [hw9]
        try rw [hx9]
        clear hw9
        have HB9n := Lib.hid (thn HB9.out hb)
        have HA9n := Lib.hid (And.intro hz9 (show v3.heap.size ≤ x9 by have := HB9.out.size; omega))
        have hx89 : x8 ≠ x9 := by have h1 := HA8.out.1.1; omega
        clear hx9 hz9
        clear HB9
        have HB9 := HB9n
        clear HB9n
        have HA8n := Lib.hid (And.intro (HA8.out.1.below hb) HA8.out.2)
        clear HA8
        have HA8 := HA8n
        clear HA8n
        have HA9 := HA9n
        clear HA9n
        refine hK2.out _ _ (⟨hHeld.1.below hb, hHeld.2.below hb⟩) (fun hHeld2 => ?_)
        clear hb
        clear hK2 K2 hHeld
        have hHeld := hHeld2
        clear hHeld2
        try simp (maxSteps := 4000000) only [Act.put, List.setIfInBounds_toArray, List.set_cons_zero, List.set_cons_succ]
        refine wpAnyH_ready (rs := [1]) (by kernel_rfl) (by simp) ?_
        refine AllReadyH.cons rfl (fun K2 hK2 => ?_) AllReadyH.nil
        go_simp
        with_reducible refine Calls.mono (w37made sb sl _ HSB.out.1 HSB.out.2.1 HSB.out.2.2.1 HSB.out.2.2.2 (T3.out.later HB9.out)) ?_
        rintro e u3 ⟨B, lo, g, col, M, R, P, pg, pc, ws, rfl, hp0, hpa0, hB0, hb⟩
        have HPL := Lib.hid (And.intro hp0 (And.intro hpa0 (show v3.heap.size ≤ B by have := HB9.out.size; omega)))
        have HW8 : Hid (Away B col R g P x8) := Lib.hid (.inl (Nat.lt_of_lt_of_le HA8.out.1.1 hB0))
        have HW9 : Hid (Away B col R g P x9) := Lib.hid (.inl (Nat.lt_of_lt_of_le HA9.out.1.1 hB0))
        clear hp0 hpa0 hB0
        have HB9n := Lib.hid (thn HB9.out hb)
        clear HB9
        have HB9 := HB9n
        clear HB9n
        have HA8n := Lib.hid (And.intro (HA8.out.1.below hb) HA8.out.2)
        clear HA8
        have HA8 := HA8n
        clear HA8n
        have HA9n := Lib.hid (And.intro (HA9.out.1.below hb) HA9.out.2)
        clear HA9
        have HA9 := HA9n
        clear HA9n
        refine hK2.out _ _ (⟨hHeld.1.below hb, hHeld.2.below hb⟩) (fun hHeld2 => ?_)
        clear hb
        clear hK2 K2 hHeld
        have hHeld := hHeld2
        clear hHeld2
        try simp (maxSteps := 4000000) only [Act.put, List.setIfInBounds_toArray, List.set_cons_zero, List.set_cons_succ]
        refine wpAnyH_ready (rs := [3]) (by kernel_rfl) (by simp) ?_
        refine AllReadyH.cons rfl (fun K2 hK2 => ?_) AllReadyH.nil
        go_simp
        with_reducible refine Calls.mono (few37 b l c p t v _) ?_
        rintro e u4 ⟨b1, l1, c1, p1, t1, rfl, hq1, hb⟩
        have HQ1 : Hid (FB37 b1 l1 c1 p1 t1) := Lib.hid hq1
        clear hq1
        have HB9n := Lib.hid (thn HB9.out hb)
        clear HB9
        have HB9 := HB9n
        clear HB9n
        have HA8n := Lib.hid (And.intro (HA8.out.1.below hb) HA8.out.2)
        clear HA8
        have HA8 := HA8n
        clear HA8n
        have HA9n := Lib.hid (And.intro (HA9.out.1.below hb) HA9.out.2)
        clear HA9
        have HA9 := HA9n
        clear HA9n
        have HPLn := Lib.hid (And.intro (HPL.out.1.later hb) HPL.out.2)
        clear HPL
        have HPL := HPLn
        clear HPLn
        refine hK2.out _ _ (⟨hHeld.1.below hb, hHeld.2.below hb⟩) (fun hHeld2 => ?_)
        clear hb
        clear hK2 K2 hHeld
        have hHeld := hHeld2
        clear hHeld2
        try simp (maxSteps := 4000000) only [Act.put, List.setIfInBounds_toArray, List.set_cons_zero, List.set_cons_succ]
        obtain ⟨-, ⟨z80, z81, z82⟩, g80, g81, g82⟩ := HA8.out.1
        refine wpAnyH_ready (rs := [6]) (by kernel_rfl) (by simp) ?_
        refine AllReadyH.cons rfl (fun K2 hK2 => ?_) AllReadyH.nil
        go_simp
        obtain ⟨u5, hw9, hz9, hs9, hk9, hb9⟩ := pl_st HA8.out.1 HA8.out.2 HB9.out M R P
        rw [hw9]
        clear hw9 z80 z81 z82 g80 g81 g82
        have HA8n := Lib.hid (And.intro hz9 HA8.out.2)
        have HA9n := Lib.hid (And.intro (HA9.out.1.keep (Nat.le_of_eq hs9.symm) (hk9 _ hx89.symm)) HA9.out.2)
        have HPLn := Lib.hid (And.intro (HPL.out.1.away HW8.out T3.out HPL.out.2.2 hb9 hs9 hk9) HPL.out.2)
        have HB9n := Lib.hid hb9
        refine hK2.out _ _ (⟨hHeld.1.keep (Nat.le_of_eq hs9.symm) (hk9 _ (by have := HLT.out; have := HA8.out.2; omega)), hHeld.2.keep (Nat.le_of_eq hs9.symm) (hk9 _ (by have := HLT.out; have := HA8.out.2; omega))⟩) (fun hHeld2 => ?_)
        clear HA8 HA9 HB9 HPL hz9 hs9 hk9 hb9
        have HA8 := HA8n
        have HA9 := HA9n
        have HPL := HPLn
        have HB9 := HB9n
        clear HA8n HA9n HPLn HB9n
        clear hK2 K2 hHeld
        have hHeld := hHeld2
        clear hHeld2
        try simp (maxSteps := 4000000) only [Act.put, List.setIfInBounds_toArray, List.set_cons_zero, List.set_cons_succ]
        obtain ⟨-, z90, z91, z92, z93, z94, z95, -⟩ := HA9.out.1
        obtain ⟨g90, g91, g92, g93, g94, g95⟩ := HA9.out.1.fzB
        refine wpAnyH_ready (rs := [7]) (by kernel_rfl) (by simp) ?_
        refine AllReadyH.cons rfl (fun K2 hK2 => ?_) AllReadyH.nil
        go_simp
        obtain ⟨u6, hw9, hz9, hs9, hk9, hb9⟩ := cap_st HA9.out.1 HA9.out.2 HB9.out b1 l1 c1 p1 t1 true
        rw [hw9]
        clear hw9 z90 g90 z91 g91 z92 g92 z93 g93 z94 g94 z95 g95
        have HA9n := Lib.hid (And.intro hz9 HA9.out.2)
        have HA8n := Lib.hid (And.intro (HA8.out.1.keep (Nat.le_of_eq hs9.symm) (hk9 _ hx89)) HA8.out.2)
        have HPLn := Lib.hid (And.intro (HPL.out.1.away HW9.out T3.out HPL.out.2.2 hb9 hs9 hk9) HPL.out.2)
        have HB9n := Lib.hid hb9
        refine hK2.out _ _ (⟨hHeld.1.keep (Nat.le_of_eq hs9.symm) (hk9 _ (by have := HLT.out; have := HA9.out.2; omega)), hHeld.2.keep (Nat.le_of_eq hs9.symm) (hk9 _ (by have := HLT.out; have := HA9.out.2; omega))⟩) (fun hHeld2 => ?_)
        clear HA8 HA9 HB9 HPL hz9 hs9 hk9 hb9
        have HA8 := HA8n
        have HA9 := HA9n
        have HPL := HPLn
        have HB9 := HB9n
        clear HA8n HA9n HPLn HB9n
        clear hK2 K2 hHeld
        have hHeld := hHeld2
        clear hHeld2
        try simp (maxSteps := 4000000) only [Act.put, List.setIfInBounds_toArray, List.set_cons_zero, List.set_cons_succ]
        refine wpAnyH_done (by kernel_rfl) ?_ _
        go_wp2_with fail
        go_meet
        exact ⟨x8, x9, _, _, _, _, _, rfl, rfl, Lib.hid ⟨⟨B, lo, g, col, M, R, P, pg, pc, ws, HPL.out.1, HPL.out.2.1, HQ1.out, HA8.out.1, HA9.out.1, HW8.out, HW9.out, HPL.out.2.2, HB9.out⟩, hx89, HA8.out.2, HA9.out.2⟩⟩
    · obtain ⟨x9, u1, hx9, hw9, hz9, hb⟩ := cz_first v3
      rw [hw9]
      try rw [hx9]
      clear hw9
      have HB9 := Lib.hid hb
      have HA9n := Lib.hid (And.intro hz9 (show v3.heap.size ≤ x9 by omega))
      clear hx9 hz9
      have HA9 := HA9n
      clear HA9n
      refine hK2.out _ _ (⟨HX2.out.below hb, HY2.out.below hb⟩) (fun hHeld2 => ?_)
      clear hb
      clear hK2 K2 hHeld
      have hHeld := hHeld2
      clear hHeld2
      try simp (maxSteps := 4000000) only [Act.put, List.setIfInBounds_toArray, List.set_cons_zero, List.set_cons_succ]
      refine wpAnyH_ready (rs := [1, 4]) (by kernel_rfl) (by simp) ?_
      refine AllReadyH.cons rfl (fun K2 hK2 => ?_) (AllReadyH.cons rfl (fun K2 hK2 => ?_) AllReadyH.nil)
      all_goals go_simp
      · with_reducible refine Calls.mono (w37made sb sl _ HSB.out.1 HSB.out.2.1 HSB.out.2.2.1 HSB.out.2.2.2 (T3.out.later HB9.out)) ?_
        rintro e u2 ⟨B, lo, g, col, M, R, P, pg, pc, ws, rfl, hp0, hpa0, hB0, hb⟩
        have HPL := Lib.hid (And.intro hp0 (And.intro hpa0 (show v3.heap.size ≤ B by have := HB9.out.size; omega)))
        have HW9 : Hid (Away B col R g P x9) := Lib.hid (.inl (Nat.lt_of_lt_of_le HA9.out.1.1 hB0))
        clear hp0 hpa0 hB0
        have HB9n := Lib.hid (thn HB9.out hb)
        clear HB9
        have HB9 := HB9n
        clear HB9n
        have HA9n := Lib.hid (And.intro (HA9.out.1.below hb) HA9.out.2)
        clear HA9
        have HA9 := HA9n
        clear HA9n
        refine hK2.out _ _ (⟨hHeld.1.below hb, hHeld.2.below hb⟩) (fun hHeld2 => ?_)
        clear hb
        clear hK2 K2 hHeld
        have hHeld := hHeld2
        clear hHeld2
        try simp (maxSteps := 4000000) only [Act.put, List.setIfInBounds_toArray, List.set_cons_zero, List.set_cons_succ]
        refine wpAnyH_ready (rs := [3, 4]) (by kernel_rfl) (by simp) ?_
        refine AllReadyH.cons rfl (fun K2 hK2 => ?_) (AllReadyH.cons rfl (fun K2 hK2 => ?_) AllReadyH.nil)
        all_goals go_simp
        · with_reducible refine Calls.mono (few37 b l c p t v _) ?_
          rintro e u3 ⟨b1, l1, c1, p1, t1, rfl, hq1, hb⟩
          have HQ1 : Hid (FB37 b1 l1 c1 p1 t1) := Lib.hid hq1
          clear hq1
          have HB9n := Lib.hid (thn HB9.out hb)
          clear HB9
          have HB9 := HB9n
          clear HB9n
          have HA9n := Lib.hid (And.intro (HA9.out.1.below hb) HA9.out.2)
          clear HA9
          have HA9 := HA9n
          clear HA9n
          have HPLn := Lib.hid (And.intro (HPL.out.1.later hb) HPL.out.2)
          clear HPL
          have HPL := HPLn
          clear HPLn
          refine hK2.out _ _ (⟨hHeld.1.below hb, hHeld.2.below hb⟩) (fun hHeld2 => ?_)
          clear hb
          clear hK2 K2 hHeld
          have hHeld := hHeld2
          clear hHeld2
          try simp (maxSteps := 4000000) only [Act.put, List.setIfInBounds_toArray, List.set_cons_zero, List.set_cons_succ]
          refine wpAnyH_ready (rs := [4]) (by kernel_rfl) (by simp) ?_
          refine AllReadyH.cons rfl (fun K2 hK2 => ?_) AllReadyH.nil
          go_simp
          obtain ⟨x8, u4, hx8, hw9, hz9, hb⟩ := pz_next u3
          rw [hw9]
          try rw [hx8]
          clear hw9
          have HB9n := Lib.hid (thn HB9.out hb)
          have HA8n := Lib.hid (And.intro hz9 (show v3.heap.size ≤ x8 by have := HB9.out.size; omega))
          have hx89 : x8 ≠ x9 := by have h1 := HA9.out.1.1; omega
          have HW8 : Hid (Away B col R g P x8) := Lib.hid (HPL.out.1.fresh (Nat.le_of_eq hx8))
          clear hx8 hz9
          clear HB9
          have HB9 := HB9n
          clear HB9n
          have HA9n := Lib.hid (And.intro (HA9.out.1.below hb) HA9.out.2)
          clear HA9
          have HA9 := HA9n
          clear HA9n
          have HPLn := Lib.hid (And.intro (HPL.out.1.later hb) HPL.out.2)
          clear HPL
          have HPL := HPLn
          clear HPLn
          have HA8 := HA8n
          clear HA8n
          refine hK2.out _ _ (⟨hHeld.1.below hb, hHeld.2.below hb⟩) (fun hHeld2 => ?_)
          clear hb
          clear hK2 K2 hHeld
          have hHeld := hHeld2
          clear hHeld2
          try simp (maxSteps := 4000000) only [Act.put, List.setIfInBounds_toArray, List.set_cons_zero, List.set_cons_succ]
          obtain ⟨-, ⟨z80, z81, z82⟩, g80, g81, g82⟩ := HA8.out.1
          refine wpAnyH_ready (rs := [6]) (by kernel_rfl) (by simp) ?_
          refine AllReadyH.cons rfl (fun K2 hK2 => ?_) AllReadyH.nil
          go_simp
          obtain ⟨u5, hw9, hz9, hs9, hk9, hb9⟩ := pl_st HA8.out.1 HA8.out.2 HB9.out M R P
          rw [hw9]
          clear hw9 z80 z81 z82 g80 g81 g82
          have HA8n := Lib.hid (And.intro hz9 HA8.out.2)
          have HA9n := Lib.hid (And.intro (HA9.out.1.keep (Nat.le_of_eq hs9.symm) (hk9 _ hx89.symm)) HA9.out.2)
          have HPLn := Lib.hid (And.intro (HPL.out.1.away HW8.out T3.out HPL.out.2.2 hb9 hs9 hk9) HPL.out.2)
          have HB9n := Lib.hid hb9
          refine hK2.out _ _ (⟨hHeld.1.keep (Nat.le_of_eq hs9.symm) (hk9 _ (by have := HLT.out; have := HA8.out.2; omega)), hHeld.2.keep (Nat.le_of_eq hs9.symm) (hk9 _ (by have := HLT.out; have := HA8.out.2; omega))⟩) (fun hHeld2 => ?_)
          clear HA8 HA9 HB9 HPL hz9 hs9 hk9 hb9
          have HA8 := HA8n
          have HA9 := HA9n
          have HPL := HPLn
          have HB9 := HB9n
          clear HA8n HA9n HPLn HB9n
          clear hK2 K2 hHeld
          have hHeld := hHeld2
          clear hHeld2
          try simp (maxSteps := 4000000) only [Act.put, List.setIfInBounds_toArray, List.set_cons_zero, List.set_cons_succ]
          obtain ⟨-, z90, z91, z92, z93, z94, z95, -⟩ := HA9.out.1
          obtain ⟨g90, g91, g92, g93, g94, g95⟩ := HA9.out.1.fzB
          refine wpAnyH_ready (rs := [7]) (by kernel_rfl) (by simp) ?_
          refine AllReadyH.cons rfl (fun K2 hK2 => ?_) AllReadyH.nil
          go_simp
          obtain ⟨u6, hw9, hz9, hs9, hk9, hb9⟩ := cap_st HA9.out.1 HA9.out.2 HB9.out b1 l1 c1 p1 t1 true
          rw [hw9]
          clear hw9 z90 g90 z91 g91 z92 g92 z93 g93 z94 g94 z95 g95
          have HA9n := Lib.hid (And.intro hz9 HA9.out.2)
          have HA8n := Lib.hid (And.intro (HA8.out.1.keep (Nat.le_of_eq hs9.symm) (hk9 _ hx89)) HA8.out.2)
          have HPLn := Lib.hid (And.intro (HPL.out.1.away HW9.out T3.out HPL.out.2.2 hb9 hs9 hk9) HPL.out.2)
          have HB9n := Lib.hid hb9
          refine hK2.out _ _ (⟨hHeld.1.keep (Nat.le_of_eq hs9.symm) (hk9 _ (by have := HLT.out; have := HA9.out.2; omega)), hHeld.2.keep (Nat.le_of_eq hs9.symm) (hk9 _ (by have := HLT.out; have := HA9.out.2; omega))⟩) (fun hHeld2 => ?_)
          clear HA8 HA9 HB9 HPL hz9 hs9 hk9 hb9
          have HA8 := HA8n
          have HA9 := HA9n
          have HPL := HPLn
          have HB9 := HB9n
          clear HA8n HA9n HPLn HB9n
          clear hK2 K2 hHeld
          have hHeld := hHeld2
          clear hHeld2
          try simp (maxSteps := 4000000) only [Act.put, List.setIfInBounds_toArray, List.set_cons_zero, List.set_cons_succ]
          refine wpAnyH_done (by kernel_rfl) ?_ _
          go_wp2_with fail
          go_meet
          exact ⟨x8, x9, _, _, _, _, _, rfl, rfl, Lib.hid ⟨⟨B, lo, g, col, M, R, P, pg, pc, ws, HPL.out.1, HPL.out.2.1, HQ1.out, HA8.out.1, HA9.out.1, HW8.out, HW9.out, HPL.out.2.2, HB9.out⟩, hx89, HA8.out.2, HA9.out.2⟩⟩
        · obtain ⟨x8, u3, hx8, hw9, hz9, hb⟩ := pz_next u2
          rw [hw9]
          try rw [hx8]
          clear hw9
          have HB9n := Lib.hid (thn HB9.out hb)
          have HA8n := Lib.hid (And.intro hz9 (show v3.heap.size ≤ x8 by have := HB9.out.size; omega))
          have hx89 : x8 ≠ x9 := by have h1 := HA9.out.1.1; omega
          have HW8 : Hid (Away B col R g P x8) := Lib.hid (HPL.out.1.fresh (Nat.le_of_eq hx8))
          clear hx8 hz9
          clear HB9
          have HB9 := HB9n
          clear HB9n
          have HA9n := Lib.hid (And.intro (HA9.out.1.below hb) HA9.out.2)
          clear HA9
          have HA9 := HA9n
          clear HA9n
          have HPLn := Lib.hid (And.intro (HPL.out.1.later hb) HPL.out.2)
          clear HPL
          have HPL := HPLn
          clear HPLn
          have HA8 := HA8n
          clear HA8n
          refine hK2.out _ _ (⟨hHeld.1.below hb, hHeld.2.below hb⟩) (fun hHeld2 => ?_)
          clear hb
          clear hK2 K2 hHeld
          have hHeld := hHeld2
          clear hHeld2
          try simp (maxSteps := 4000000) only [Act.put, List.setIfInBounds_toArray, List.set_cons_zero, List.set_cons_succ]
          refine wpAnyH_ready (rs := [3]) (by kernel_rfl) (by simp) ?_
          refine AllReadyH.cons rfl (fun K2 hK2 => ?_) AllReadyH.nil
          go_simp
          with_reducible refine Calls.mono (few37 b l c p t v _) ?_
          rintro e u4 ⟨b1, l1, c1, p1, t1, rfl, hq1, hb⟩
          have HQ1 : Hid (FB37 b1 l1 c1 p1 t1) := Lib.hid hq1
          clear hq1
          have HB9n := Lib.hid (thn HB9.out hb)
          clear HB9
          have HB9 := HB9n
          clear HB9n
          have HA8n := Lib.hid (And.intro (HA8.out.1.below hb) HA8.out.2)
          clear HA8
          have HA8 := HA8n
          clear HA8n
          have HA9n := Lib.hid (And.intro (HA9.out.1.below hb) HA9.out.2)
          clear HA9
          have HA9 := HA9n
          clear HA9n
          have HPLn := Lib.hid (And.intro (HPL.out.1.later hb) HPL.out.2)
          clear HPL
          have HPL := HPLn
          clear HPLn
          refine hK2.out _ _ (⟨hHeld.1.below hb, hHeld.2.below hb⟩) (fun hHeld2 => ?_)
          clear hb
          clear hK2 K2 hHeld
          have hHeld := hHeld2
          clear hHeld2
          try simp (maxSteps := 4000000) only [Act.put, List.setIfInBounds_toArray, List.set_cons_zero, List.set_cons_succ]
          obtain ⟨-, ⟨z80, z81, z82⟩, g80, g81, g82⟩ := HA8.out.1
          refine wpAnyH_ready (rs := [6]) (by kernel_rfl) (by simp) ?_
          refine AllReadyH.cons rfl (fun K2 hK2 => ?_) AllReadyH.nil
          go_simp
          obtain ⟨u5, hw9, hz9, hs9, hk9, hb9⟩ := pl_st HA8.out.1 HA8.out.2 HB9.out M R P
          rw [hw9]
          clear hw9 z80 z81 z82 g80 g81 g82
          have HA8n := Lib.hid (And.intro hz9 HA8.out.2)
          have HA9n := Lib.hid (And.intro (HA9.out.1.keep (Nat.le_of_eq hs9.symm) (hk9 _ hx89.symm)) HA9.out.2)
          have HPLn := Lib.hid (And.intro (HPL.out.1.away HW8.out T3.out HPL.out.2.2 hb9 hs9 hk9) HPL.out.2)
          have HB9n := Lib.hid hb9
          refine hK2.out _ _ (⟨hHeld.1.keep (Nat.le_of_eq hs9.symm) (hk9 _ (by have := HLT.out; have := HA8.out.2; omega)), hHeld.2.keep (Nat.le_of_eq hs9.symm) (hk9 _ (by have := HLT.out; have := HA8.out.2; omega))⟩) (fun hHeld2 => ?_)
          clear HA8 HA9 HB9 HPL hz9 hs9 hk9 hb9
          have HA8 := HA8n
          have HA9 := HA9n
          have HPL := HPLn
          have HB9 := HB9n
          clear HA8n HA9n HPLn HB9n
          clear hK2 K2 hHeld
          have hHeld := hHeld2
          clear hHeld2
          try simp (maxSteps := 4000000) only [Act.put, List.setIfInBounds_toArray, List.set_cons_zero, List.set_cons_succ]
          obtain ⟨-, z90, z91, z92, z93, z94, z95, -⟩ := HA9.out.1
          obtain ⟨g90, g91, g92, g93, g94, g95⟩ := HA9.out.1.fzB
          refine wpAnyH_ready (rs := [7]) (by kernel_rfl) (by simp) ?_
          refine AllReadyH.cons rfl (fun K2 hK2 => ?_) AllReadyH.nil
          go_simp
          obtain ⟨u6, hw9, hz9, hs9, hk9, hb9⟩ := cap_st HA9.out.1 HA9.out.2 HB9.out b1 l1 c1 p1 t1 true
          rw [hw9]
          clear hw9 z90 g90 z91 g91 z92 g92 z93 g93 z94 g94 z95 g95
          have HA9n := Lib.hid (And.intro hz9 HA9.out.2)
          have HA8n := Lib.hid (And.intro (HA8.out.1.keep (Nat.le_of_eq hs9.symm) (hk9 _ hx89)) HA8.out.2)
          have HPLn := Lib.hid (And.intro (HPL.out.1.away HW9.out T3.out HPL.out.2.2 hb9 hs9 hk9) HPL.out.2)
          have HB9n := Lib.hid hb9
          refine hK2.out _ _ (⟨hHeld.1.keep (Nat.le_of_eq hs9.symm) (hk9 _ (by have := HLT.out; have := HA9.out.2; omega)), hHeld.2.keep (Nat.le_of_eq hs9.symm) (hk9 _ (by have := HLT.out; have := HA9.out.2; omega))⟩) (fun hHeld2 => ?_)
          clear HA8 HA9 HB9 HPL hz9 hs9 hk9 hb9
          have HA8 := HA8n
          have HA9 := HA9n
          have HPL := HPLn
          have HB9 := HB9n
          clear HA8n HA9n HPLn HB9n
          clear hK2 K2 hHeld
          have hHeld := hHeld2
          clear hHeld2
          try simp (maxSteps := 4000000) only [Act.put, List.setIfInBounds_toArray, List.set_cons_zero, List.set_cons_succ]
          refine wpAnyH_done (by kernel_rfl) ?_ _
          go_wp2_with fail
          go_meet
          exact ⟨x8, x9, _, _, _, _, _, rfl, rfl, Lib.hid ⟨⟨B, lo, g, col, M, R, P, pg, pc, ws, HPL.out.1, HPL.out.2.1, HQ1.out, HA8.out.1, HA9.out.1, HW8.out, HW9.out, HPL.out.2.2, HB9.out⟩, hx89, HA8.out.2, HA9.out.2⟩⟩
      · obtain ⟨x8, u2, hx8, hw9, hz9, hb⟩ := pz_next u1
        rw [hw9]
        try rw [hx8]
        clear hw9
        have HB9n := Lib.hid (thn HB9.out hb)
        have HA8n := Lib.hid (And.intro hz9 (show v3.heap.size ≤ x8 by have := HB9.out.size; omega))
        have hx89 : x8 ≠ x9 := by have h1 := HA9.out.1.1; omega
        clear hx8 hz9
        clear HB9
        have HB9 := HB9n
        clear HB9n
        have HA9n := Lib.hid (And.intro (HA9.out.1.below hb) HA9.out.2)
        clear HA9
        have HA9 := HA9n
        clear HA9n
        have HA8 := HA8n
        clear HA8n
        refine hK2.out _ _ (⟨hHeld.1.below hb, hHeld.2.below hb⟩) (fun hHeld2 => ?_)
        clear hb
        clear hK2 K2 hHeld
        have hHeld := hHeld2
        clear hHeld2
        try simp (maxSteps := 4000000) only [Act.put, List.setIfInBounds_toArray, List.set_cons_zero, List.set_cons_succ]
        refine wpAnyH_ready (rs := [1]) (by kernel_rfl) (by simp) ?_
        refine AllReadyH.cons rfl (fun K2 hK2 => ?_) AllReadyH.nil
        go_simp
        with_reducible refine Calls.mono (w37made sb sl _ HSB.out.1 HSB.out.2.1 HSB.out.2.2.1 HSB.out.2.2.2 (T3.out.later HB9.out)) ?_
        rintro e u3 ⟨B, lo, g, col, M, R, P, pg, pc, ws, rfl, hp0, hpa0, hB0, hb⟩
        have HPL := Lib.hid (And.intro hp0 (And.intro hpa0 (show v3.heap.size ≤ B by have := HB9.out.size; omega)))
        have HW8 : Hid (Away B col R g P x8) := Lib.hid (.inl (Nat.lt_of_lt_of_le HA8.out.1.1 hB0))
        have HW9 : Hid (Away B col R g P x9) := Lib.hid (.inl (Nat.lt_of_lt_of_le HA9.out.1.1 hB0))
        clear hp0 hpa0 hB0
        have HB9n := Lib.hid (thn HB9.out hb)
        clear HB9
        have HB9 := HB9n
        clear HB9n
        have HA8n := Lib.hid (And.intro (HA8.out.1.below hb) HA8.out.2)
        clear HA8
        have HA8 := HA8n
        clear HA8n
        have HA9n := Lib.hid (And.intro (HA9.out.1.below hb) HA9.out.2)
        clear HA9
        have HA9 := HA9n
        clear HA9n
        refine hK2.out _ _ (⟨hHeld.1.below hb, hHeld.2.below hb⟩) (fun hHeld2 => ?_)
        clear hb
        clear hK2 K2 hHeld
        have hHeld := hHeld2
        clear hHeld2
        try simp (maxSteps := 4000000) only [Act.put, List.setIfInBounds_toArray, List.set_cons_zero, List.set_cons_succ]
        refine wpAnyH_ready (rs := [3]) (by kernel_rfl) (by simp) ?_
        refine AllReadyH.cons rfl (fun K2 hK2 => ?_) AllReadyH.nil
        go_simp
        with_reducible refine Calls.mono (few37 b l c p t v _) ?_
        rintro e u4 ⟨b1, l1, c1, p1, t1, rfl, hq1, hb⟩
        have HQ1 : Hid (FB37 b1 l1 c1 p1 t1) := Lib.hid hq1
        clear hq1
        have HB9n := Lib.hid (thn HB9.out hb)
        clear HB9
        have HB9 := HB9n
        clear HB9n
        have HA8n := Lib.hid (And.intro (HA8.out.1.below hb) HA8.out.2)
        clear HA8
        have HA8 := HA8n
        clear HA8n
        have HA9n := Lib.hid (And.intro (HA9.out.1.below hb) HA9.out.2)
        clear HA9
        have HA9 := HA9n
        clear HA9n
        have HPLn := Lib.hid (And.intro (HPL.out.1.later hb) HPL.out.2)
        clear HPL
        have HPL := HPLn
        clear HPLn
        refine hK2.out _ _ (⟨hHeld.1.below hb, hHeld.2.below hb⟩) (fun hHeld2 => ?_)
        clear hb
        clear hK2 K2 hHeld
        have hHeld := hHeld2
        clear hHeld2
        try simp (maxSteps := 4000000) only [Act.put, List.setIfInBounds_toArray, List.set_cons_zero, List.set_cons_succ]
        obtain ⟨-, ⟨z80, z81, z82⟩, g80, g81, g82⟩ := HA8.out.1
        refine wpAnyH_ready (rs := [6]) (by kernel_rfl) (by simp) ?_
        refine AllReadyH.cons rfl (fun K2 hK2 => ?_) AllReadyH.nil
        go_simp
        obtain ⟨u5, hw9, hz9, hs9, hk9, hb9⟩ := pl_st HA8.out.1 HA8.out.2 HB9.out M R P
        rw [hw9]
        clear hw9 z80 z81 z82 g80 g81 g82
        have HA8n := Lib.hid (And.intro hz9 HA8.out.2)
        have HA9n := Lib.hid (And.intro (HA9.out.1.keep (Nat.le_of_eq hs9.symm) (hk9 _ hx89.symm)) HA9.out.2)
        have HPLn := Lib.hid (And.intro (HPL.out.1.away HW8.out T3.out HPL.out.2.2 hb9 hs9 hk9) HPL.out.2)
        have HB9n := Lib.hid hb9
        refine hK2.out _ _ (⟨hHeld.1.keep (Nat.le_of_eq hs9.symm) (hk9 _ (by have := HLT.out; have := HA8.out.2; omega)), hHeld.2.keep (Nat.le_of_eq hs9.symm) (hk9 _ (by have := HLT.out; have := HA8.out.2; omega))⟩) (fun hHeld2 => ?_)
        clear HA8 HA9 HB9 HPL hz9 hs9 hk9 hb9
        have HA8 := HA8n
        have HA9 := HA9n
        have HPL := HPLn
        have HB9 := HB9n
        clear HA8n HA9n HPLn HB9n
        clear hK2 K2 hHeld
        have hHeld := hHeld2
        clear hHeld2
        try simp (maxSteps := 4000000) only [Act.put, List.setIfInBounds_toArray, List.set_cons_zero, List.set_cons_succ]
        obtain ⟨-, z90, z91, z92, z93, z94, z95, -⟩ := HA9.out.1
        obtain ⟨g90, g91, g92, g93, g94, g95⟩ := HA9.out.1.fzB
        refine wpAnyH_ready (rs := [7]) (by kernel_rfl) (by simp) ?_
        refine AllReadyH.cons rfl (fun K2 hK2 => ?_) AllReadyH.nil
        go_simp
        obtain ⟨u6, hw9, hz9, hs9, hk9, hb9⟩ := cap_st HA9.out.1 HA9.out.2 HB9.out b1 l1 c1 p1 t1 true
        rw [hw9]
        clear hw9 z90 g90 z91 g91 z92 g92 z93 g93 z94 g94 z95 g95
        have HA9n := Lib.hid (And.intro hz9 HA9.out.2)
        have HA8n := Lib.hid (And.intro (HA8.out.1.keep (Nat.le_of_eq hs9.symm) (hk9 _ hx89)) HA8.out.2)
        have HPLn := Lib.hid (And.intro (HPL.out.1.away HW9.out T3.out HPL.out.2.2 hb9 hs9 hk9) HPL.out.2)
        have HB9n := Lib.hid hb9
        refine hK2.out _ _ (⟨hHeld.1.keep (Nat.le_of_eq hs9.symm) (hk9 _ (by have := HLT.out; have := HA9.out.2; omega)), hHeld.2.keep (Nat.le_of_eq hs9.symm) (hk9 _ (by have := HLT.out; have := HA9.out.2; omega))⟩) (fun hHeld2 => ?_)
        clear HA8 HA9 HB9 HPL hz9 hs9 hk9 hb9
        have HA8 := HA8n
        have HA9 := HA9n
        have HPL := HPLn
        have HB9 := HB9n
        clear HA8n HA9n HPLn HB9n
        clear hK2 K2 hHeld
        have hHeld := hHeld2
        clear hHeld2
        try simp (maxSteps := 4000000) only [Act.put, List.setIfInBounds_toArray, List.set_cons_zero, List.set_cons_succ]
        refine wpAnyH_done (by kernel_rfl) ?_ _
        go_wp2_with fail
        go_meet
        exact ⟨x8, x9, _, _, _, _, _, rfl, rfl, Lib.hid ⟨⟨B, lo, g, col, M, R, P, pg, pc, ws, HPL.out.1, HPL.out.2.1, HQ1.out, HA8.out.1, HA9.out.1, HW8.out, HW9.out, HPL.out.2.2, HB9.out⟩, hx89, HA8.out.2, HA9.out.2⟩⟩
  case rest =>
    rename World => w4
    obtain ⟨x8, x9, b1, l1, c1, p1, t1, rfl, rfl, HG⟩ := hcut
    have HX4 := Lib.hid (HX2.out.keep (GOT.bel HG.out.1).size ((GOT.bel HG.out.1).block _ HLT.out.1))
    have HWL := Lib.hid (show W.heap.size ≤ v3.heap.size by have := HLT.out.2; omega)
    obtain ⟨⟨B, lo, g, col, M, R, P, pg, pc, ws, hp, hpa, hf, hx8, hx9, hw8, hw9, hnb, hb4⟩, h89, h8n, h9n⟩ := HG.out
    have HP4 := Lib.hid hp
    have HF := Lib.hid hf
    have HX8 := Lib.hid hx8
    have HX9 := Lib.hid hx9
    have HB4 := Lib.hid (HB2.out.trans (hb4.mono HWL.out))
    have HNB := Lib.hid (show W.heap.size ≤ B by have := HWL.out; omega)
    have HNG := Lib.hid (show W.heap.size ≤ g by have := HWL.out; have := hp.br.2.1; omega)
    have HN8 := Lib.hid (And.intro (hp.ng hw8) (And.intro (hp.ng hw9) h89))
    have HGD := Lib.hid (few_good (c := c1) (p := p1) hf hpa HSB.out)
    clear hp hpa hf hx8 hx9 hw8 hw9 hnb hb4 h89 h8n h9n HG HX2 HY2 HB2 T3 HLT
    obtain ⟨-, s0, s1⟩ := HX4.out
    obtain ⟨-, y0, y1, y2, y3, y4, y5, -⟩ := HX9.out
    go_upto_region 6 with (fail)
    have hbq := alc0 w4 (.cells #[.int .i64 0, .int .i64 0, .int .i64 0, .int .i64 0, .int .i64 0, .bool false] 25)
    have HZ5 := Lib.hid (CapAt.new w4 0 0 0 0 0 false 25)
    have HX5 := Lib.hid (HX4.out.below hbq)
    have HA5 := Lib.hid (HX8.out.below hbq)
    have HC5 := Lib.hid (HX9.out.below hbq)
    have HP5 := Lib.hid (HP4.out.later hbq)
    have HB5 := Lib.hid (thn HB4.out hbq)
    have HN5 := Lib.hid (And.intro (HP4.out.ng2 (Nat.le_refl _)) (And.intro (show x8 ≠ w4.heap.size by have := HX8.out.1; omega) (And.intro (show x9 ≠ w4.heap.size by have := HX9.out.1; omega) (And.intro (HP4.out.fresh (Nat.le_refl _)) (show W.heap.size ≤ w4.heap.size from HB4.out.size)))))
    clear hbq HP4 HB4 HX4 HX8 HX9 s0 s1 y0 y1 y2 y3 y4 y5
    generalize hw5 : w4.alloc (.cells #[.int .i64 0, .int .i64 0, .int .i64 0, .int .i64 0, .int .i64 0, .bool false] 25) = w5 at *
    clear hw5
    generalize w4.heap.size = x10 at *
    obtain ⟨-, s0, s1⟩ := HX5.out
    obtain ⟨-, y0, y1, y2, y3, y4, y5, -⟩ := HC5.out
    go_wp2_with fail
    with_reducible refine Calls.mono (w37good b1 l1 c1 p1 t1 true sb sl _ HF.out.b4 HSB.out) ?_
    rintro e w6 ⟨rfl, hb⟩
    have HZ6 := Lib.hid (HZ5.out.below hb)
    have HA6 := Lib.hid (HA5.out.below hb)
    have HC6 := Lib.hid (HC5.out.below hb)
    have HP6 := Lib.hid (HP5.out.later hb)
    have HB6 := Lib.hid (thn HB5.out hb)
    clear hb HZ5 HA5 HC5 HP5 HB5 HX5 s0 s1 y0 y1 y2 y3 y4 y5
    obtain ⟨gd, hgd⟩ : ∃ gd, goodB b1 l1 t1 sb sl = gd := ⟨_, rfl⟩
    rw [hgd] at HGD ⊢
    clear hgd
    go_upto_if 33 with (fail)
    go_cut [] (fun wx => Hid (∃ (b2 l2 c2 p2 t2 : Int) (v2 : Bool), CapAt x10 wx b2 l2 c2 p2 t2 v2 ∧ GoodIs s37b ws b1 l1 c1 p1 t1 true b2 l2 c2 p2 t2 v2 ∧ PlAt x8 wx M R P ∧ CapAt x9 wx b1 l1 c1 p1 t1 true ∧ BPl B lo g col M R P pg wx s37b zeroV pc ws ∧ Below W.heap.size W wx))
    case first =>
      cases gd with
      | true =>
        have HGT := Lib.hid (HGD.out.1 rfl)
        obtain ⟨-, y0, y1, y2, y3, y4, y5, -⟩ := HC6.out
        obtain ⟨-, z0, z1, z2, z3, z4, z5, -⟩ := HZ6.out
        obtain ⟨g0, g1, g2, g3, g4, g5⟩ := HZ6.out.fzB
        go_wp2_with fail
        obtain ⟨u, hu, hz, hs, hk, hb⟩ := cap_st HZ6.out HN5.out.2.2.2.2 HB6.out b1 l1 c1 p1 t1 true
        rw [hu]
        go_meet
        exact Lib.hid ⟨b1, l1, c1, p1, t1, true, hz, HGT.out, HA6.out.keep (Nat.le_of_eq hs.symm) (hk _ HN5.out.2.1), HC6.out.keep (Nat.le_of_eq hs.symm) (hk _ HN5.out.2.2.1), HP6.out.away HN5.out.2.2.2.1 T.out HNB.out hb hs hk, hb⟩
      | false =>
        have HGT := Lib.hid (HGD.out.2 rfl)
        go_wp2_with fail
        go_meet
        exact Lib.hid ⟨0, 0, 0, 0, 0, false, HZ6.out, HGT.out, HA6.out, HC6.out, HP6.out, HB6.out⟩
    case rest =>
      obtain ⟨b2, l2, c2, p2, t2, v2, hz, hg, ha, hc, hp, hb⟩ := (hcut : Hid _).out
      rename World => w7
      have HZ7 := Lib.hid hz
      have HGI := Lib.hid hg
      have HA7 := Lib.hid ha
      have HC7 := Lib.hid hc
      have HP7 := Lib.hid hp
      have HB7 := Lib.hid hb
      have HMY := Lib.hid HF.out.may
      clear hz hg ha hc hp hb hcut HGD HZ6 HA6 HC6 HP6 HB6 HSB HF
      obtain ⟨-, k0, k1, k2⟩ := HA7.out
      obtain ⟨-, y0, y1, y2, y3, y4, y5, -⟩ := HC7.out
      by_cases hq : 0 ≤ h ∧ h < ((4 : Nat) : Int)
      · obtain ⟨n, rfl⟩ : ∃ n : Nat, h = n := ⟨h.toNat, by omega⟩
        have hn : n < 4 := by omega
        have HNN := Lib.hid hn
        clear hq hn
        go_wp2_with fail
        with_reducible refine Calls.mono (brput_in n b1 l1 c1 p1 t1 true b2 l2 c2 p2 t2 v2 HP7.out HNN.out HGI.out) ?_
        rintro e w8 ⟨rfl, hp8, hk8, hs8, hb8⟩
        have HP8 := Lib.hid hp8
        have HB8 := Lib.hid (HB7.out.trans (hb8.mono HNB.out))
        have HA8 := Lib.hid (HA7.out.keep hs8 (hk8 _ HA7.out.1 HN8.out.1))
        have HC8 := Lib.hid (HC7.out.keep hs8 (hk8 _ HC7.out.1 HN8.out.2.1))
        have HZ8 := Lib.hid (HZ7.out.keep hs8 (hk8 _ HZ7.out.1 HN5.out.1))
        clear hp8 hk8 hs8 hb8 HP7 HB7 HA7 HC7 HZ7 k0 k1 k2 y0 y1 y2 y3 y4 y5
        obtain ⟨-, k0, k1, k2⟩ := HA8.out
        go_wp2_with fail
        with_reducible refine Calls.mono (brget_in n b2 l2 c2 p2 t2 v2 b2 l2 c2 p2 t2 v2 HP8.out HNN.out (putV_at _ _ _ _ _ _ _ _) HGI.out.again) ?_
        rintro e w9 ⟨rfl, hb⟩
        have HB9 := Lib.hid (thn HB8.out hb)
        have HP9 := Lib.hid (HP8.out.later hb)
        have HA9 := Lib.hid (HA8.out.below hb)
        have HC9 := Lib.hid (HC8.out.below hb)
        have HZ9 := Lib.hid (HZ8.out.below hb)
        clear hb HP8 HB8 HA8 HC8 HZ8 k0 k1 k2
        go_upto_region 10 with (fail)
        have hbq := alc0 w9 (.cells #[.int .i64 b2, .int .i64 l2, .int .i64 c2, .int .i64 p2, .int .i64 t2, .bool v2] 25)
        have HG10 := Lib.hid (CapAt.new w9 b2 l2 c2 p2 t2 v2 25)
        have HB10 := Lib.hid (thn HB9.out hbq)
        have HP10 := Lib.hid (HP9.out.later hbq)
        have HA10 := Lib.hid (HA9.out.below hbq)
        have HC10 := Lib.hid (HC9.out.below hbq)
        have HZ10 := Lib.hid (HZ9.out.below hbq)
        have HN12 := Lib.hid (HP9.out.ng2 (Nat.le_refl _))
        clear hbq HB9 HP9 HA9 HC9 HZ9
        generalize hw10 : w9.alloc (.cells #[.int .i64 b2, .int .i64 l2, .int .i64 c2, .int .i64 p2, .int .i64 t2, .bool v2] 25) = w10 at *
        clear hw10
        generalize w9.heap.size = x12 at *
        obtain ⟨-, k0, k1, k2⟩ := HA10.out
        obtain ⟨-, y0, y1, y2, y3, y4, y5, -⟩ := HC10.out
        have hn0 : (0 : Int) ≤ (n : Int) := by omega
        have hn4 : (n : Int) < 4 := by have := HNN.out; omega
        go_wp2_with fail
        with_reducible refine Calls.mono (rput_in R g 4 0 b1 l1 c1 p1 t1 true _ _ HP10.out.reg (by decide) HMY.out) ?_
        rintro e w11 ⟨rfl, hr, hk⟩
        have HB11 := Lib.hid (HB10.out.trans (hk.1.mono HNG.out))
        have HP11 := Lib.hid (HP10.out.put hr hk)
        have HA11 := Lib.hid (HA10.out.keep hk.1.size (hk.2 _ HA10.out.1 HN8.out.1))
        have HC11 := Lib.hid (HC10.out.keep hk.1.size (hk.2 _ HC10.out.1 HN8.out.2.1))
        have HZ11 := Lib.hid (HZ10.out.keep hk.1.size (hk.2 _ HZ10.out.1 HN5.out.1))
        have HG11 := Lib.hid (HG10.out.keep hk.1.size (hk.2 _ HG10.out.1 HN12.out))
        clear hr hk HB10 HP10 HA10 HC10 HZ10 HG10 k0 k1 k2 y0 y1 y2 y3 y4 y5
        obtain ⟨-, k0, k1, k2⟩ := HA11.out
        go_wp2_with fail
        with_reducible refine Calls.mono (brget_in 0 b1 l1 c1 p1 t1 true b2 l2 c2 p2 t2 v2 HP11.out (by decide) (putV_at _ _ _ _ _ _ _ _) HGI.out) ?_
        rintro e w12 ⟨rfl, hb⟩
        have HB12 := Lib.hid (thn HB11.out hb)
        have HP12 := Lib.hid (HP11.out.later hb)
        have HA12 := Lib.hid (HA11.out.below hb)
        have HC12 := Lib.hid (HC11.out.below hb)
        have HZ12 := Lib.hid (HZ11.out.below hb)
        have HG12 := Lib.hid (HG11.out.below hb)
        clear hb HB11 HP11 HA11 HC11 HZ11 HG11 k0 k1 k2
        go_upto_region 15 with (fail)
        have hbq := alc0 w12 (.cells #[.int .i64 b2, .int .i64 l2, .int .i64 c2, .int .i64 p2, .int .i64 t2, .bool v2] 25)
        have HH13 := Lib.hid (CapAt.new w12 b2 l2 c2 p2 t2 v2 25)
        have HB13 := Lib.hid (thn HB12.out hbq)
        have HP13 := Lib.hid (HP12.out.later hbq)
        have HA13 := Lib.hid (HA12.out.below hbq)
        have HC13 := Lib.hid (HC12.out.below hbq)
        have HZ13 := Lib.hid (HZ12.out.below hbq)
        have HG13 := Lib.hid (HG12.out.below hbq)
        clear hbq HB12 HP12 HA12 HC12 HZ12 HG12
        generalize hw13 : w12.alloc (.cells #[.int .i64 b2, .int .i64 l2, .int .i64 c2, .int .i64 p2, .int .i64 t2, .bool v2] 25) = w13 at *
        clear hw13
        generalize w12.heap.size = x15 at *
        have HTAKE := Lib.hid (fun (w' : World) (h : PlAt x8 w' M R P ∧ CapAt x9 w' b1 l1 c1 p1 t1 true ∧ CapAt x10 w' b2 l2 c2 p2 t2 v2 ∧ CapAt x12 w' b2 l2 c2 p2 t2 v2 ∧ CapAt x15 w' b2 l2 c2 p2 t2 v2) => And.intro h.1.2 (And.intro h.2.1.2 (And.intro h.2.2.1.2 (And.intro h.2.2.2.1.2 h.2.2.2.2.2))))
        refine wp_region_held_drew (S := fun w' => PlAt x8 w' M R P ∧ CapAt x9 w' b1 l1 c1 p1 t1 true ∧ CapAt x10 w' b2 l2 c2 p2 t2 v2 ∧ CapAt x12 w' b2 l2 c2 p2 t2 v2 ∧ CapAt x15 w' b2 l2 c2 p2 t2 v2) (by kernel_rfl) ?_ (fun hHeld => ?_)
        · exact ⟨HA13.out.below (Below.refl _ _).drew, HC13.out.below (Below.refl _ _).drew, HZ13.out.below (Below.refl _ _).drew, HG13.out.below (Below.refl _ _).drew, HH13.out.below (Below.refl _ _).drew⟩
        try simp only [List.append_eq, List.cons_append, List.nil_append]
        refine wpAnyH_take (i := 0) (v := ?_) rfl (by kernel_rfl) (by kernel_rfl) (by kernel_rfl) (fun _ _ _ h => h) (Or.inl ⟨by kernel_rfl, ?_⟩) (by assumption) ?_
        rotate_left
        · (intro w hSw; (try dsimp only at hSw); (try have hTk := Hid.out HTAKE _ hSw); go_simp)
          try (with_reducible rfl)
        rotate_left
        try simp (maxSteps := 4000000) only [Act.put, List.setIfInBounds_toArray, List.set_cons_zero, List.set_cons_succ, List.getElem_toArray, List.getElem_cons_zero, List.getElem_cons_succ]
        refine wpAnyH_take (i := 1) (v := ?_) rfl (by kernel_rfl) (by kernel_rfl) (by kernel_rfl) (fun _ _ _ h => h) (Or.inl ⟨by kernel_rfl, ?_⟩) (by assumption) ?_
        rotate_left
        · (intro w hSw; (try dsimp only at hSw); (try have hTk := Hid.out HTAKE _ hSw); go_simp)
          try (with_reducible rfl)
        rotate_left
        try simp (maxSteps := 4000000) only [Act.put, List.setIfInBounds_toArray, List.set_cons_zero, List.set_cons_succ, List.getElem_toArray, List.getElem_cons_zero, List.getElem_cons_succ]
        refine wpAnyH_take (i := 3) (v := ?_) rfl (by kernel_rfl) (by kernel_rfl) (by kernel_rfl) (fun _ _ _ h => h) (Or.inl ⟨by kernel_rfl, ?_⟩) (by assumption) ?_
        rotate_left
        · (intro w hSw; (try dsimp only at hSw); (try have hTk := Hid.out HTAKE _ hSw); go_simp)
          try (with_reducible rfl)
        rotate_left
        try simp (maxSteps := 4000000) only [Act.put, List.setIfInBounds_toArray, List.set_cons_zero, List.set_cons_succ, List.getElem_toArray, List.getElem_cons_zero, List.getElem_cons_succ]
        refine wpAnyH_ready (rs := [2]) (by kernel_rfl) (by simp) ?_
        refine AllReadyH.cons rfl (fun K2 hK2 => ?_) AllReadyH.nil
        go_simp
        with_reducible refine Calls.mono (brgood_any (HP13.out.later (Below.refl _ _).drew) HGI.out) ?_
        rintro e w14 ⟨rfl, hb⟩
        have HP14 := Lib.hid ((HP13.out.later (Below.refl _ _).drew).later hb)
        have HB14 := Lib.hid (thn HB13.out.drew hb)
        refine hK2.out _ _ (⟨hHeld.1.below hb, hHeld.2.1.below hb, hHeld.2.2.1.below hb, hHeld.2.2.2.1.below hb, hHeld.2.2.2.2.below hb⟩) (fun hHeld2 => ?_)
        clear hK2 K2 hHeld
        have hHeld := hHeld2
        clear hHeld2
        try simp (maxSteps := 4000000) only [Act.put, List.setIfInBounds_toArray, List.set_cons_zero, List.set_cons_succ]
        clear hb
        refine wpAnyH_take (i := 4) (v := ?_) rfl (by kernel_rfl) (by kernel_rfl) (by kernel_rfl) (fun _ _ _ h => h) (Or.inl ⟨by kernel_rfl, ?_⟩) (by assumption) ?_
        rotate_left
        · (intro w hSw; (try dsimp only at hSw); (try have hTk := Hid.out HTAKE _ hSw); go_simp)
          try (with_reducible rfl)
        rotate_left
        try simp (maxSteps := 4000000) only [Act.put, List.setIfInBounds_toArray, List.set_cons_zero, List.set_cons_succ, List.getElem_toArray, List.getElem_cons_zero, List.getElem_cons_succ]
        refine wpAnyH_take (i := 5) (v := ?_) rfl (by kernel_rfl) (by kernel_rfl) (by kernel_rfl) (fun _ _ _ h => h) (Or.inl ⟨by kernel_rfl, ?_⟩) (by assumption) ?_
        rotate_left
        · (intro w hSw; (try dsimp only at hSw); (try have hTk := Hid.out HTAKE _ hSw); go_simp)
          try (with_reducible rfl)
        rotate_left
        try simp (maxSteps := 4000000) only [Act.put, List.setIfInBounds_toArray, List.set_cons_zero, List.set_cons_succ, List.getElem_toArray, List.getElem_cons_zero, List.getElem_cons_succ]
        refine wpAnyH_take (i := 6) (v := ?_) rfl (by kernel_rfl) (by kernel_rfl) (by kernel_rfl) (fun _ _ _ h => h) (Or.inl ⟨by kernel_rfl, ?_⟩) (by assumption) ?_
        rotate_left
        · (intro w hSw; (try dsimp only at hSw); (try have hTk := Hid.out HTAKE _ hSw); go_simp)
          try (with_reducible rfl)
        rotate_left
        try simp (maxSteps := 4000000) only [Act.put, List.setIfInBounds_toArray, List.set_cons_zero, List.set_cons_succ, List.getElem_toArray, List.getElem_cons_zero, List.getElem_cons_succ]
        refine wpAnyH_take (i := 7) (v := ?_) rfl (by kernel_rfl) (by kernel_rfl) (by kernel_rfl) (fun _ _ _ h => h) (Or.inl ⟨by kernel_rfl, ?_⟩) (by assumption) ?_
        rotate_left
        · (intro w hSw; (try dsimp only at hSw); (try have hTk := Hid.out HTAKE _ hSw); go_simp)
          try (with_reducible rfl)
        rotate_left
        try simp (maxSteps := 4000000) only [Act.put, List.setIfInBounds_toArray, List.set_cons_zero, List.set_cons_succ, List.getElem_toArray, List.getElem_cons_zero, List.getElem_cons_succ]
        refine wpAnyH_take (i := 8) (v := ?_) rfl (by kernel_rfl) (by kernel_rfl) (by kernel_rfl) (fun _ _ _ h => h) (Or.inl ⟨by kernel_rfl, ?_⟩) (by assumption) ?_
        rotate_left
        · (intro w hSw; (try dsimp only at hSw); (try have hTk := Hid.out HTAKE _ hSw); go_simp)
          try (with_reducible rfl)
        rotate_left
        try simp (maxSteps := 4000000) only [Act.put, List.setIfInBounds_toArray, List.set_cons_zero, List.set_cons_succ, List.getElem_toArray, List.getElem_cons_zero, List.getElem_cons_succ]
        refine wpAnyH_take (i := 9) (v := ?_) rfl (by kernel_rfl) (by kernel_rfl) (by kernel_rfl) (fun _ _ _ h => h) (Or.inl ⟨by kernel_rfl, ?_⟩) (by assumption) ?_
        rotate_left
        · (intro w hSw; (try dsimp only at hSw); (try have hTk := Hid.out HTAKE _ hSw); go_simp)
          try (with_reducible rfl)
        rotate_left
        try simp (maxSteps := 4000000) only [Act.put, List.setIfInBounds_toArray, List.set_cons_zero, List.set_cons_succ, List.getElem_toArray, List.getElem_cons_zero, List.getElem_cons_succ]
        refine wpAnyH_take (i := 10) (v := ?_) rfl (by kernel_rfl) (by kernel_rfl) (by kernel_rfl) (fun _ _ _ h => h) (Or.inl ⟨by kernel_rfl, ?_⟩) (by assumption) ?_
        rotate_left
        · (intro w hSw; (try dsimp only at hSw); (try have hTk := Hid.out HTAKE _ hSw); go_simp)
          try (with_reducible rfl)
        rotate_left
        try simp (maxSteps := 4000000) only [Act.put, List.setIfInBounds_toArray, List.set_cons_zero, List.set_cons_succ, List.getElem_toArray, List.getElem_cons_zero, List.getElem_cons_succ]
        refine wpAnyH_take (i := 11) (v := ?_) rfl (by kernel_rfl) (by kernel_rfl) (by kernel_rfl) (fun _ _ _ h => h) (Or.inl ⟨by kernel_rfl, ?_⟩) (by assumption) ?_
        rotate_left
        · (intro w hSw; (try dsimp only at hSw); (try have hTk := Hid.out HTAKE _ hSw); go_simp)
          try (with_reducible rfl)
        rotate_left
        try simp (maxSteps := 4000000) only [Act.put, List.setIfInBounds_toArray, List.set_cons_zero, List.set_cons_succ, List.getElem_toArray, List.getElem_cons_zero, List.getElem_cons_succ]
        refine wpAnyH_take (i := 12) (v := ?_) rfl (by kernel_rfl) (by kernel_rfl) (by kernel_rfl) (fun _ _ _ h => h) (Or.inl ⟨by kernel_rfl, ?_⟩) (by assumption) ?_
        rotate_left
        · (intro w hSw; (try dsimp only at hSw); (try have hTk := Hid.out HTAKE _ hSw); go_simp)
          try (with_reducible rfl)
        rotate_left
        try simp (maxSteps := 4000000) only [Act.put, List.setIfInBounds_toArray, List.set_cons_zero, List.set_cons_succ, List.getElem_toArray, List.getElem_cons_zero, List.getElem_cons_succ]
        refine wpAnyH_take (i := 13) (v := ?_) rfl (by kernel_rfl) (by kernel_rfl) (by kernel_rfl) (fun _ _ _ h => h) (Or.inl ⟨by kernel_rfl, ?_⟩) (by assumption) ?_
        rotate_left
        · (intro w hSw; (try dsimp only at hSw); (try have hTk := Hid.out HTAKE _ hSw); go_simp)
          try (with_reducible rfl)
        rotate_left
        try simp (maxSteps := 4000000) only [Act.put, List.setIfInBounds_toArray, List.set_cons_zero, List.set_cons_succ, List.getElem_toArray, List.getElem_cons_zero, List.getElem_cons_succ]
        refine wpAnyH_take (i := 14) (v := ?_) rfl (by kernel_rfl) (by kernel_rfl) (by kernel_rfl) (fun _ _ _ h => h) (Or.inl ⟨by kernel_rfl, ?_⟩) (by assumption) ?_
        rotate_left
        · (intro w hSw; (try dsimp only at hSw); (try have hTk := Hid.out HTAKE _ hSw); go_simp)
          try (with_reducible rfl)
        rotate_left
        try simp (maxSteps := 4000000) only [Act.put, List.setIfInBounds_toArray, List.set_cons_zero, List.set_cons_succ, List.getElem_toArray, List.getElem_cons_zero, List.getElem_cons_succ]
        refine wpAnyH_take (i := 15) (v := ?_) rfl (by kernel_rfl) (by kernel_rfl) (by kernel_rfl) (fun _ _ _ h => h) (Or.inl ⟨by kernel_rfl, ?_⟩) (by assumption) ?_
        rotate_left
        · (intro w hSw; (try dsimp only at hSw); (try have hTk := Hid.out HTAKE _ hSw); go_simp)
          try (with_reducible rfl)
        rotate_left
        try simp (maxSteps := 4000000) only [Act.put, List.setIfInBounds_toArray, List.set_cons_zero, List.set_cons_succ, List.getElem_toArray, List.getElem_cons_zero, List.getElem_cons_succ]
        refine wpAnyH_take (i := 16) (v := ?_) rfl (by kernel_rfl) (by kernel_rfl) (by kernel_rfl) (fun _ _ _ h => h) (Or.inl ⟨by kernel_rfl, ?_⟩) (by assumption) ?_
        rotate_left
        · (intro w hSw; (try dsimp only at hSw); (try have hTk := Hid.out HTAKE _ hSw); go_simp)
          try (with_reducible rfl)
        rotate_left
        try simp (maxSteps := 4000000) only [Act.put, List.setIfInBounds_toArray, List.set_cons_zero, List.set_cons_succ, List.getElem_toArray, List.getElem_cons_zero, List.getElem_cons_succ]
        refine wpAnyH_take (i := 17) (v := ?_) rfl (by kernel_rfl) (by kernel_rfl) (by kernel_rfl) (fun _ _ _ h => h) (Or.inl ⟨by kernel_rfl, ?_⟩) (by assumption) ?_
        rotate_left
        · (intro w hSw; (try dsimp only at hSw); (try have hTk := Hid.out HTAKE _ hSw); go_simp)
          try (with_reducible rfl)
        rotate_left
        try simp (maxSteps := 4000000) only [Act.put, List.setIfInBounds_toArray, List.set_cons_zero, List.set_cons_succ, List.getElem_toArray, List.getElem_cons_zero, List.getElem_cons_succ]
        refine wpAnyH_take (i := 18) (v := ?_) rfl (by kernel_rfl) (by kernel_rfl) (by kernel_rfl) (fun _ _ _ h => h) (Or.inl ⟨by kernel_rfl, ?_⟩) (by assumption) ?_
        rotate_left
        · (intro w hSw; (try dsimp only at hSw); (try have hTk := Hid.out HTAKE _ hSw); go_simp)
          try (with_reducible rfl)
        rotate_left
        try simp (maxSteps := 4000000) only [Act.put, List.setIfInBounds_toArray, List.set_cons_zero, List.set_cons_succ, List.getElem_toArray, List.getElem_cons_zero, List.getElem_cons_succ]
        refine wpAnyH_take (i := 19) (v := ?_) rfl (by kernel_rfl) (by kernel_rfl) (by kernel_rfl) (fun _ _ _ h => h) (Or.inl ⟨by kernel_rfl, ?_⟩) (by assumption) ?_
        rotate_left
        · (intro w hSw; (try dsimp only at hSw); (try have hTk := Hid.out HTAKE _ hSw); go_simp)
          try (with_reducible rfl)
        rotate_left
        try simp (maxSteps := 4000000) only [Act.put, List.setIfInBounds_toArray, List.set_cons_zero, List.set_cons_succ, List.getElem_toArray, List.getElem_cons_zero, List.getElem_cons_succ]
        refine wpAnyH_take (i := 20) (v := ?_) rfl (by kernel_rfl) (by kernel_rfl) (by kernel_rfl) (fun _ _ _ h => h) (Or.inl ⟨by kernel_rfl, ?_⟩) (by assumption) ?_
        rotate_left
        · (intro w hSw; (try dsimp only at hSw); (try have hTk := Hid.out HTAKE _ hSw); go_simp)
          try (with_reducible rfl)
        rotate_left
        try simp (maxSteps := 4000000) only [Act.put, List.setIfInBounds_toArray, List.set_cons_zero, List.set_cons_succ, List.getElem_toArray, List.getElem_cons_zero, List.getElem_cons_succ]
        refine wpAnyH_take (i := 21) (v := ?_) rfl (by kernel_rfl) (by kernel_rfl) (by kernel_rfl) (fun _ _ _ h => h) (Or.inl ⟨by kernel_rfl, ?_⟩) (by assumption) ?_
        rotate_left
        · (intro w hSw; (try dsimp only at hSw); (try have hTk := Hid.out HTAKE _ hSw); go_simp)
          try (with_reducible rfl)
        rotate_left
        try simp (maxSteps := 4000000) only [Act.put, List.setIfInBounds_toArray, List.set_cons_zero, List.set_cons_succ, List.getElem_toArray, List.getElem_cons_zero, List.getElem_cons_succ]
        refine wpAnyH_take (i := 22) (v := ?_) rfl (by kernel_rfl) (by kernel_rfl) (by kernel_rfl) (fun _ _ _ h => h) (Or.inl ⟨by kernel_rfl, ?_⟩) (by assumption) ?_
        rotate_left
        · (intro w hSw; (try dsimp only at hSw); (try have hTk := Hid.out HTAKE _ hSw); go_simp)
          try (with_reducible rfl)
        rotate_left
        try simp (maxSteps := 4000000) only [Act.put, List.setIfInBounds_toArray, List.set_cons_zero, List.set_cons_succ, List.getElem_toArray, List.getElem_cons_zero, List.getElem_cons_succ]
        refine wpAnyH_take (i := 23) (v := ?_) rfl (by kernel_rfl) (by kernel_rfl) (by kernel_rfl) (fun _ _ _ h => h) (Or.inl ⟨by kernel_rfl, ?_⟩) (by assumption) ?_
        rotate_left
        · (intro w hSw; (try dsimp only at hSw); (try have hTk := Hid.out HTAKE _ hSw); go_simp)
          try (with_reducible rfl)
        rotate_left
        try simp (maxSteps := 4000000) only [Act.put, List.setIfInBounds_toArray, List.set_cons_zero, List.set_cons_succ, List.getElem_toArray, List.getElem_cons_zero, List.getElem_cons_succ]
        refine wpAnyH_take (i := 24) (v := ?_) rfl (by kernel_rfl) (by kernel_rfl) (by kernel_rfl) (fun _ _ _ h => h) (Or.inl ⟨by kernel_rfl, ?_⟩) (by assumption) ?_
        rotate_left
        · (intro w hSw; (try dsimp only at hSw); (try have hTk := Hid.out HTAKE _ hSw); go_simp)
          try (with_reducible rfl)
        rotate_left
        try simp (maxSteps := 4000000) only [Act.put, List.setIfInBounds_toArray, List.set_cons_zero, List.set_cons_succ, List.getElem_toArray, List.getElem_cons_zero, List.getElem_cons_succ]
        refine wpAnyH_take (i := 25) (v := ?_) rfl (by kernel_rfl) (by kernel_rfl) (by kernel_rfl) (fun _ _ _ h => h) (Or.inl ⟨by kernel_rfl, ?_⟩) (by assumption) ?_
        rotate_left
        · (intro w hSw; (try dsimp only at hSw); (try have hTk := Hid.out HTAKE _ hSw); go_simp)
          try (with_reducible rfl)
        rotate_left
        try simp (maxSteps := 4000000) only [Act.put, List.setIfInBounds_toArray, List.set_cons_zero, List.set_cons_succ, List.getElem_toArray, List.getElem_cons_zero, List.getElem_cons_succ]
        refine wpAnyH_take (i := 26) (v := ?_) rfl (by kernel_rfl) (by kernel_rfl) (by kernel_rfl) (fun _ _ _ h => h) (Or.inl ⟨by kernel_rfl, ?_⟩) (by assumption) ?_
        rotate_left
        · (intro w hSw; (try dsimp only at hSw); (try have hTk := Hid.out HTAKE _ hSw); go_simp)
          try (with_reducible rfl)
        rotate_left
        try simp (maxSteps := 4000000) only [Act.put, List.setIfInBounds_toArray, List.set_cons_zero, List.set_cons_succ, List.getElem_toArray, List.getElem_cons_zero, List.getElem_cons_succ]
        refine wpAnyH_take (i := 27) (v := ?_) rfl (by kernel_rfl) (by kernel_rfl) (by kernel_rfl) (fun _ _ _ h => h) (Or.inl ⟨by kernel_rfl, ?_⟩) (by assumption) ?_
        rotate_left
        · (intro w hSw; (try dsimp only at hSw); (try have hTk := Hid.out HTAKE _ hSw); go_simp)
          try (with_reducible rfl)
        rotate_left
        try simp (maxSteps := 4000000) only [Act.put, List.setIfInBounds_toArray, List.set_cons_zero, List.set_cons_succ, List.getElem_toArray, List.getElem_cons_zero, List.getElem_cons_succ]
        refine wpAnyH_take (i := 28) (v := ?_) rfl (by kernel_rfl) (by kernel_rfl) (by kernel_rfl) (fun _ _ _ h => h) (Or.inl ⟨by kernel_rfl, ?_⟩) (by assumption) ?_
        rotate_left
        · (intro w hSw; (try dsimp only at hSw); (try have hTk := Hid.out HTAKE _ hSw); go_simp)
          try (with_reducible rfl)
        rotate_left
        try simp (maxSteps := 4000000) only [Act.put, List.setIfInBounds_toArray, List.set_cons_zero, List.set_cons_succ, List.getElem_toArray, List.getElem_cons_zero, List.getElem_cons_succ]
        refine wpAnyH_take (i := 29) (v := ?_) rfl (by kernel_rfl) (by kernel_rfl) (by kernel_rfl) (fun _ _ _ h => h) (Or.inl ⟨by kernel_rfl, ?_⟩) (by assumption) ?_
        rotate_left
        · (intro w hSw; (try dsimp only at hSw); (try have hTk := Hid.out HTAKE _ hSw); go_simp)
          try (with_reducible rfl)
        rotate_left
        try simp (maxSteps := 4000000) only [Act.put, List.setIfInBounds_toArray, List.set_cons_zero, List.set_cons_succ, List.getElem_toArray, List.getElem_cons_zero, List.getElem_cons_succ]
        refine wpAnyH_take (i := 31) (v := ?_) rfl (by kernel_rfl) (by kernel_rfl) (by kernel_rfl) (fun _ _ _ h => h) (Or.inl ⟨by kernel_rfl, ?_⟩) (by assumption) ?_
        rotate_left
        · (intro w hSw; (try dsimp only at hSw); (try have hTk := Hid.out HTAKE _ hSw); go_simp)
          try (with_reducible rfl)
        rotate_left
        try simp (maxSteps := 4000000) only [Act.put, List.setIfInBounds_toArray, List.set_cons_zero, List.set_cons_succ, List.getElem_toArray, List.getElem_cons_zero, List.getElem_cons_succ]
        refine wpAnyH_ready (rs := [30]) (by kernel_rfl) (by simp) ?_
        refine AllReadyH.cons rfl (fun K2 hK2 => ?_) AllReadyH.nil
        go_simp
        with_reducible refine Calls.mono (brgood_any HP14.out (GoodIs.zero _ _)) ?_
        rintro e w15 ⟨rfl, hb⟩
        have HBZ := Lib.hid (thn HB14.out hb)
        refine hK2.out _ _ (⟨hHeld.1.below hb, hHeld.2.1.below hb, hHeld.2.2.1.below hb, hHeld.2.2.2.1.below hb, hHeld.2.2.2.2.below hb⟩) (fun hHeld2 => ?_)
        clear hK2 K2 hHeld
        have hHeld := hHeld2
        clear hHeld2
        try simp (maxSteps := 4000000) only [Act.put, List.setIfInBounds_toArray, List.set_cons_zero, List.set_cons_succ]
        clear hb
        refine wpAnyH_take (i := 32) (v := ?_) rfl (by kernel_rfl) (by kernel_rfl) (by kernel_rfl) (fun _ _ _ h => h) (Or.inl ⟨by kernel_rfl, ?_⟩) (by assumption) ?_
        rotate_left
        · (intro w hSw; (try dsimp only at hSw); (try have hTk := Hid.out HTAKE _ hSw); go_simp)
          try (with_reducible rfl)
        rotate_left
        try simp (maxSteps := 4000000) only [Act.put, List.setIfInBounds_toArray, List.set_cons_zero, List.set_cons_succ, List.getElem_toArray, List.getElem_cons_zero, List.getElem_cons_succ]
        refine wpAnyH_take (i := 33) (v := ?_) rfl (by kernel_rfl) (by kernel_rfl) (by kernel_rfl) (fun _ _ _ h => h) (Or.inl ⟨by kernel_rfl, ?_⟩) (by assumption) ?_
        rotate_left
        · (intro w hSw; (try dsimp only at hSw); (try have hTk := Hid.out HTAKE _ hSw); go_simp)
          try (with_reducible rfl)
        rotate_left
        try simp (maxSteps := 4000000) only [Act.put, List.setIfInBounds_toArray, List.set_cons_zero, List.set_cons_succ, List.getElem_toArray, List.getElem_cons_zero, List.getElem_cons_succ]
        refine wpAnyH_take (i := 34) (v := ?_) rfl (by kernel_rfl) (by kernel_rfl) (by kernel_rfl) (fun _ _ _ h => h) (Or.inl ⟨by kernel_rfl, ?_⟩) (by assumption) ?_
        rotate_left
        · (intro w hSw; (try dsimp only at hSw); (try have hTk := Hid.out HTAKE _ hSw); go_simp)
          try (with_reducible rfl)
        rotate_left
        try simp (maxSteps := 4000000) only [Act.put, List.setIfInBounds_toArray, List.set_cons_zero, List.set_cons_succ, List.getElem_toArray, List.getElem_cons_zero, List.getElem_cons_succ]
        refine wpAnyH_done (by kernel_rfl) ?_ _
        clear hHeld HTAKE
        go_wp2
        go_ret
        exact ⟨rfl, HBZ.out⟩
      · have HQ : Hid (decide (0 ≤ h ∧ h < ((4 : Nat) : Int)) = false) := Lib.hid (decide_eq_false hq)
        have HQ2 : Hid (h < 0 ∨ 4 ≤ h) := Lib.hid (by omega)
        clear hq
        go_wp2_with fail
        with_reducible refine Calls.mono (brput_out h b1 l1 c1 p1 t1 true b2 l2 c2 p2 t2 v2 HP7.out HQ.out HGI.out) ?_
        rintro e w8 ⟨rfl, hb⟩
        have HB8 := Lib.hid (thn HB7.out hb)
        have HP8 := Lib.hid (HP7.out.later hb)
        have HA8 := Lib.hid (HA7.out.below hb)
        have HC8 := Lib.hid (HC7.out.below hb)
        have HZ8 := Lib.hid (HZ7.out.below hb)
        clear hb HP7 HB7 HA7 HC7 HZ7 k0 k1 k2 y0 y1 y2 y3 y4 y5
        obtain ⟨-, k0, k1, k2⟩ := HA8.out
        go_wp2_with fail
        with_reducible refine Calls.mono (brget_out h HP8.out HQ.out) ?_
        rintro e w9 ⟨rfl, hb⟩
        have HB9 := Lib.hid (thn HB8.out hb)
        have HP9 := Lib.hid (HP8.out.later hb)
        have HA9 := Lib.hid (HA8.out.below hb)
        have HC9 := Lib.hid (HC8.out.below hb)
        have HZ9 := Lib.hid (HZ8.out.below hb)
        clear hb HP8 HB8 HA8 HC8 HZ8 k0 k1 k2
        go_upto_region 10 with (fail)
        have hbq := alc0 w9 (.cells #[.int .i64 0, .int .i64 0, .int .i64 0, .int .i64 0, .int .i64 0, .bool false] 25)
        have HG10 := Lib.hid (CapAt.new w9 0 0 0 0 0 false 25)
        have HB10 := Lib.hid (thn HB9.out hbq)
        have HP10 := Lib.hid (HP9.out.later hbq)
        have HA10 := Lib.hid (HA9.out.below hbq)
        have HC10 := Lib.hid (HC9.out.below hbq)
        have HZ10 := Lib.hid (HZ9.out.below hbq)
        have HN12 := Lib.hid (HP9.out.ng2 (Nat.le_refl _))
        clear hbq HB9 HP9 HA9 HC9 HZ9
        generalize hw10 : w9.alloc (.cells #[.int .i64 0, .int .i64 0, .int .i64 0, .int .i64 0, .int .i64 0, .bool false] 25) = w10 at *
        clear hw10
        generalize w9.heap.size = x12 at *
        obtain ⟨-, k0, k1, k2⟩ := HA10.out
        obtain ⟨-, y0, y1, y2, y3, y4, y5, -⟩ := HC10.out
        go_cut [14] (fun v wx => v = .bool false ∧ w10 = wx)
        case first =>
          rcases HQ2.out with h1 | h1
          · have h2 : ¬ 0 ≤ h := by omega
            go_wp2_with fail
            go_meet
            exact ⟨rfl, rfl⟩
          · have h2 : ¬ h < 4 := by omega
            have h3 : 0 ≤ h := by omega
            go_wp2_with fail
            go_meet
            exact ⟨rfl, rfl⟩
        case rest =>
        obtain ⟨rfl, rfl⟩ := hcut
        go_wp2_with fail
        with_reducible refine Calls.mono (rput_in R g 4 0 b1 l1 c1 p1 t1 true _ _ HP10.out.reg (by decide) HMY.out) ?_
        rintro e w11 ⟨rfl, hr, hk⟩
        have HB11 := Lib.hid (HB10.out.trans (hk.1.mono HNG.out))
        have HP11 := Lib.hid (HP10.out.put hr hk)
        have HA11 := Lib.hid (HA10.out.keep hk.1.size (hk.2 _ HA10.out.1 HN8.out.1))
        have HC11 := Lib.hid (HC10.out.keep hk.1.size (hk.2 _ HC10.out.1 HN8.out.2.1))
        have HZ11 := Lib.hid (HZ10.out.keep hk.1.size (hk.2 _ HZ10.out.1 HN5.out.1))
        have HG11 := Lib.hid (HG10.out.keep hk.1.size (hk.2 _ HG10.out.1 HN12.out))
        clear hr hk HB10 HP10 HA10 HC10 HZ10 HG10 k0 k1 k2 y0 y1 y2 y3 y4 y5
        obtain ⟨-, k0, k1, k2⟩ := HA11.out
        go_wp2_with fail
        with_reducible refine Calls.mono (brget_in 0 b1 l1 c1 p1 t1 true b2 l2 c2 p2 t2 v2 HP11.out (by decide) (putV_at _ _ _ _ _ _ _ _) HGI.out) ?_
        rintro e w12 ⟨rfl, hb⟩
        have HB12 := Lib.hid (thn HB11.out hb)
        have HP12 := Lib.hid (HP11.out.later hb)
        have HA12 := Lib.hid (HA11.out.below hb)
        have HC12 := Lib.hid (HC11.out.below hb)
        have HZ12 := Lib.hid (HZ11.out.below hb)
        have HG12 := Lib.hid (HG11.out.below hb)
        clear hb HB11 HP11 HA11 HC11 HZ11 HG11 k0 k1 k2
        go_upto_region 14 with (fail)
        have hbq := alc0 w12 (.cells #[.int .i64 b2, .int .i64 l2, .int .i64 c2, .int .i64 p2, .int .i64 t2, .bool v2] 25)
        have HH13 := Lib.hid (CapAt.new w12 b2 l2 c2 p2 t2 v2 25)
        have HB13 := Lib.hid (thn HB12.out hbq)
        have HP13 := Lib.hid (HP12.out.later hbq)
        have HA13 := Lib.hid (HA12.out.below hbq)
        have HC13 := Lib.hid (HC12.out.below hbq)
        have HZ13 := Lib.hid (HZ12.out.below hbq)
        have HG13 := Lib.hid (HG12.out.below hbq)
        clear hbq HB12 HP12 HA12 HC12 HZ12 HG12
        generalize hw13 : w12.alloc (.cells #[.int .i64 b2, .int .i64 l2, .int .i64 c2, .int .i64 p2, .int .i64 t2, .bool v2] 25) = w13 at *
        clear hw13
        generalize w12.heap.size = x15 at *
        have HTAKE := Lib.hid (fun (w' : World) (h : PlAt x8 w' M R P ∧ CapAt x9 w' b1 l1 c1 p1 t1 true ∧ CapAt x10 w' b2 l2 c2 p2 t2 v2 ∧ CapAt x12 w' 0 0 0 0 0 false ∧ CapAt x15 w' b2 l2 c2 p2 t2 v2) => And.intro h.1.2 (And.intro h.2.1.2 (And.intro h.2.2.1.2 (And.intro h.2.2.2.1.2 h.2.2.2.2.2))))
        refine wp_region_held_drew (S := fun w' => PlAt x8 w' M R P ∧ CapAt x9 w' b1 l1 c1 p1 t1 true ∧ CapAt x10 w' b2 l2 c2 p2 t2 v2 ∧ CapAt x12 w' 0 0 0 0 0 false ∧ CapAt x15 w' b2 l2 c2 p2 t2 v2) (by kernel_rfl) ?_ (fun hHeld => ?_)
        · exact ⟨HA13.out.below (Below.refl _ _).drew, HC13.out.below (Below.refl _ _).drew, HZ13.out.below (Below.refl _ _).drew, HG13.out.below (Below.refl _ _).drew, HH13.out.below (Below.refl _ _).drew⟩
        try simp only [List.append_eq, List.cons_append, List.nil_append]
        refine wpAnyH_take (i := 0) (v := ?_) rfl (by kernel_rfl) (by kernel_rfl) (by kernel_rfl) (fun _ _ _ h => h) (Or.inl ⟨by kernel_rfl, ?_⟩) (by assumption) ?_
        rotate_left
        · (intro w hSw; (try dsimp only at hSw); (try have hTk := Hid.out HTAKE _ hSw); go_simp)
          try (with_reducible rfl)
        rotate_left
        try simp (maxSteps := 4000000) only [Act.put, List.setIfInBounds_toArray, List.set_cons_zero, List.set_cons_succ, List.getElem_toArray, List.getElem_cons_zero, List.getElem_cons_succ]
        refine wpAnyH_take (i := 1) (v := ?_) rfl (by kernel_rfl) (by kernel_rfl) (by kernel_rfl) (fun _ _ _ h => h) (Or.inl ⟨by kernel_rfl, ?_⟩) (by assumption) ?_
        rotate_left
        · (intro w hSw; (try dsimp only at hSw); (try have hTk := Hid.out HTAKE _ hSw); go_simp)
          try (with_reducible rfl)
        rotate_left
        try simp (maxSteps := 4000000) only [Act.put, List.setIfInBounds_toArray, List.set_cons_zero, List.set_cons_succ, List.getElem_toArray, List.getElem_cons_zero, List.getElem_cons_succ]
        refine wpAnyH_take (i := 3) (v := ?_) rfl (by kernel_rfl) (by kernel_rfl) (by kernel_rfl) (fun _ _ _ h => h) (Or.inl ⟨by kernel_rfl, ?_⟩) (by assumption) ?_
        rotate_left
        · (intro w hSw; (try dsimp only at hSw); (try have hTk := Hid.out HTAKE _ hSw); go_simp)
          try (with_reducible rfl)
        rotate_left
        try simp (maxSteps := 4000000) only [Act.put, List.setIfInBounds_toArray, List.set_cons_zero, List.set_cons_succ, List.getElem_toArray, List.getElem_cons_zero, List.getElem_cons_succ]
        refine wpAnyH_ready (rs := [2]) (by kernel_rfl) (by simp) ?_
        refine AllReadyH.cons rfl (fun K2 hK2 => ?_) AllReadyH.nil
        go_simp
        with_reducible refine Calls.mono (brgood_any (HP13.out.later (Below.refl _ _).drew) HGI.out) ?_
        rintro e w14 ⟨rfl, hb⟩
        have HP14 := Lib.hid ((HP13.out.later (Below.refl _ _).drew).later hb)
        have HB14 := Lib.hid (thn HB13.out.drew hb)
        refine hK2.out _ _ (⟨hHeld.1.below hb, hHeld.2.1.below hb, hHeld.2.2.1.below hb, hHeld.2.2.2.1.below hb, hHeld.2.2.2.2.below hb⟩) (fun hHeld2 => ?_)
        clear hK2 K2 hHeld
        have hHeld := hHeld2
        clear hHeld2
        try simp (maxSteps := 4000000) only [Act.put, List.setIfInBounds_toArray, List.set_cons_zero, List.set_cons_succ]
        clear hb
        refine wpAnyH_take (i := 4) (v := ?_) rfl (by kernel_rfl) (by kernel_rfl) (by kernel_rfl) (fun _ _ _ h => h) (Or.inl ⟨by kernel_rfl, ?_⟩) (by assumption) ?_
        rotate_left
        · (intro w hSw; (try dsimp only at hSw); (try have hTk := Hid.out HTAKE _ hSw); go_simp)
          try (with_reducible rfl)
        rotate_left
        try simp (maxSteps := 4000000) only [Act.put, List.setIfInBounds_toArray, List.set_cons_zero, List.set_cons_succ, List.getElem_toArray, List.getElem_cons_zero, List.getElem_cons_succ]
        refine wpAnyH_take (i := 5) (v := ?_) rfl (by kernel_rfl) (by kernel_rfl) (by kernel_rfl) (fun _ _ _ h => h) (Or.inl ⟨by kernel_rfl, ?_⟩) (by assumption) ?_
        rotate_left
        · (intro w hSw; (try dsimp only at hSw); (try have hTk := Hid.out HTAKE _ hSw); go_simp)
          try (with_reducible rfl)
        rotate_left
        try simp (maxSteps := 4000000) only [Act.put, List.setIfInBounds_toArray, List.set_cons_zero, List.set_cons_succ, List.getElem_toArray, List.getElem_cons_zero, List.getElem_cons_succ]
        refine wpAnyH_take (i := 6) (v := ?_) rfl (by kernel_rfl) (by kernel_rfl) (by kernel_rfl) (fun _ _ _ h => h) (Or.inl ⟨by kernel_rfl, ?_⟩) (by assumption) ?_
        rotate_left
        · (intro w hSw; (try dsimp only at hSw); (try have hTk := Hid.out HTAKE _ hSw); go_simp)
          try (with_reducible rfl)
        rotate_left
        try simp (maxSteps := 4000000) only [Act.put, List.setIfInBounds_toArray, List.set_cons_zero, List.set_cons_succ, List.getElem_toArray, List.getElem_cons_zero, List.getElem_cons_succ]
        refine wpAnyH_take (i := 7) (v := ?_) rfl (by kernel_rfl) (by kernel_rfl) (by kernel_rfl) (fun _ _ _ h => h) (Or.inl ⟨by kernel_rfl, ?_⟩) (by assumption) ?_
        rotate_left
        · (intro w hSw; (try dsimp only at hSw); (try have hTk := Hid.out HTAKE _ hSw); go_simp)
          try (with_reducible rfl)
        rotate_left
        try simp (maxSteps := 4000000) only [Act.put, List.setIfInBounds_toArray, List.set_cons_zero, List.set_cons_succ, List.getElem_toArray, List.getElem_cons_zero, List.getElem_cons_succ]
        refine wpAnyH_take (i := 8) (v := ?_) rfl (by kernel_rfl) (by kernel_rfl) (by kernel_rfl) (fun _ _ _ h => h) (Or.inl ⟨by kernel_rfl, ?_⟩) (by assumption) ?_
        rotate_left
        · (intro w hSw; (try dsimp only at hSw); (try have hTk := Hid.out HTAKE _ hSw); go_simp)
          try (with_reducible rfl)
        rotate_left
        try simp (maxSteps := 4000000) only [Act.put, List.setIfInBounds_toArray, List.set_cons_zero, List.set_cons_succ, List.getElem_toArray, List.getElem_cons_zero, List.getElem_cons_succ]
        refine wpAnyH_take (i := 9) (v := ?_) rfl (by kernel_rfl) (by kernel_rfl) (by kernel_rfl) (fun _ _ _ h => h) (Or.inl ⟨by kernel_rfl, ?_⟩) (by assumption) ?_
        rotate_left
        · (intro w hSw; (try dsimp only at hSw); (try have hTk := Hid.out HTAKE _ hSw); go_simp)
          try (with_reducible rfl)
        rotate_left
        try simp (maxSteps := 4000000) only [Act.put, List.setIfInBounds_toArray, List.set_cons_zero, List.set_cons_succ, List.getElem_toArray, List.getElem_cons_zero, List.getElem_cons_succ]
        refine wpAnyH_take (i := 10) (v := ?_) rfl (by kernel_rfl) (by kernel_rfl) (by kernel_rfl) (fun _ _ _ h => h) (Or.inl ⟨by kernel_rfl, ?_⟩) (by assumption) ?_
        rotate_left
        · (intro w hSw; (try dsimp only at hSw); (try have hTk := Hid.out HTAKE _ hSw); go_simp)
          try (with_reducible rfl)
        rotate_left
        try simp (maxSteps := 4000000) only [Act.put, List.setIfInBounds_toArray, List.set_cons_zero, List.set_cons_succ, List.getElem_toArray, List.getElem_cons_zero, List.getElem_cons_succ]
        refine wpAnyH_take (i := 11) (v := ?_) rfl (by kernel_rfl) (by kernel_rfl) (by kernel_rfl) (fun _ _ _ h => h) (Or.inl ⟨by kernel_rfl, ?_⟩) (by assumption) ?_
        rotate_left
        · (intro w hSw; (try dsimp only at hSw); (try have hTk := Hid.out HTAKE _ hSw); go_simp)
          try (with_reducible rfl)
        rotate_left
        try simp (maxSteps := 4000000) only [Act.put, List.setIfInBounds_toArray, List.set_cons_zero, List.set_cons_succ, List.getElem_toArray, List.getElem_cons_zero, List.getElem_cons_succ]
        refine wpAnyH_take (i := 12) (v := ?_) rfl (by kernel_rfl) (by kernel_rfl) (by kernel_rfl) (fun _ _ _ h => h) (Or.inl ⟨by kernel_rfl, ?_⟩) (by assumption) ?_
        rotate_left
        · (intro w hSw; (try dsimp only at hSw); (try have hTk := Hid.out HTAKE _ hSw); go_simp)
          try (with_reducible rfl)
        rotate_left
        try simp (maxSteps := 4000000) only [Act.put, List.setIfInBounds_toArray, List.set_cons_zero, List.set_cons_succ, List.getElem_toArray, List.getElem_cons_zero, List.getElem_cons_succ]
        refine wpAnyH_take (i := 13) (v := ?_) rfl (by kernel_rfl) (by kernel_rfl) (by kernel_rfl) (fun _ _ _ h => h) (Or.inl ⟨by kernel_rfl, ?_⟩) (by assumption) ?_
        rotate_left
        · (intro w hSw; (try dsimp only at hSw); (try have hTk := Hid.out HTAKE _ hSw); go_simp)
          try (with_reducible rfl)
        rotate_left
        try simp (maxSteps := 4000000) only [Act.put, List.setIfInBounds_toArray, List.set_cons_zero, List.set_cons_succ, List.getElem_toArray, List.getElem_cons_zero, List.getElem_cons_succ]
        refine wpAnyH_take (i := 14) (v := ?_) rfl (by kernel_rfl) (by kernel_rfl) (by kernel_rfl) (fun _ _ _ h => h) (Or.inl ⟨by kernel_rfl, ?_⟩) (by assumption) ?_
        rotate_left
        · (intro w hSw; (try dsimp only at hSw); (try have hTk := Hid.out HTAKE _ hSw); go_simp)
          try (with_reducible rfl)
        rotate_left
        try simp (maxSteps := 4000000) only [Act.put, List.setIfInBounds_toArray, List.set_cons_zero, List.set_cons_succ, List.getElem_toArray, List.getElem_cons_zero, List.getElem_cons_succ]
        refine wpAnyH_take (i := 15) (v := ?_) rfl (by kernel_rfl) (by kernel_rfl) (by kernel_rfl) (fun _ _ _ h => h) (Or.inl ⟨by kernel_rfl, ?_⟩) (by assumption) ?_
        rotate_left
        · (intro w hSw; (try dsimp only at hSw); (try have hTk := Hid.out HTAKE _ hSw); go_simp)
          try (with_reducible rfl)
        rotate_left
        try simp (maxSteps := 4000000) only [Act.put, List.setIfInBounds_toArray, List.set_cons_zero, List.set_cons_succ, List.getElem_toArray, List.getElem_cons_zero, List.getElem_cons_succ]
        refine wpAnyH_take (i := 16) (v := ?_) rfl (by kernel_rfl) (by kernel_rfl) (by kernel_rfl) (fun _ _ _ h => h) (Or.inl ⟨by kernel_rfl, ?_⟩) (by assumption) ?_
        rotate_left
        · (intro w hSw; (try dsimp only at hSw); (try have hTk := Hid.out HTAKE _ hSw); go_simp)
          try (with_reducible rfl)
        rotate_left
        try simp (maxSteps := 4000000) only [Act.put, List.setIfInBounds_toArray, List.set_cons_zero, List.set_cons_succ, List.getElem_toArray, List.getElem_cons_zero, List.getElem_cons_succ]
        refine wpAnyH_take (i := 17) (v := ?_) rfl (by kernel_rfl) (by kernel_rfl) (by kernel_rfl) (fun _ _ _ h => h) (Or.inl ⟨by kernel_rfl, ?_⟩) (by assumption) ?_
        rotate_left
        · (intro w hSw; (try dsimp only at hSw); (try have hTk := Hid.out HTAKE _ hSw); go_simp)
          try (with_reducible rfl)
        rotate_left
        try simp (maxSteps := 4000000) only [Act.put, List.setIfInBounds_toArray, List.set_cons_zero, List.set_cons_succ, List.getElem_toArray, List.getElem_cons_zero, List.getElem_cons_succ]
        refine wpAnyH_take (i := 18) (v := ?_) rfl (by kernel_rfl) (by kernel_rfl) (by kernel_rfl) (fun _ _ _ h => h) (Or.inl ⟨by kernel_rfl, ?_⟩) (by assumption) ?_
        rotate_left
        · (intro w hSw; (try dsimp only at hSw); (try have hTk := Hid.out HTAKE _ hSw); go_simp)
          try (with_reducible rfl)
        rotate_left
        try simp (maxSteps := 4000000) only [Act.put, List.setIfInBounds_toArray, List.set_cons_zero, List.set_cons_succ, List.getElem_toArray, List.getElem_cons_zero, List.getElem_cons_succ]
        refine wpAnyH_take (i := 19) (v := ?_) rfl (by kernel_rfl) (by kernel_rfl) (by kernel_rfl) (fun _ _ _ h => h) (Or.inl ⟨by kernel_rfl, ?_⟩) (by assumption) ?_
        rotate_left
        · (intro w hSw; (try dsimp only at hSw); (try have hTk := Hid.out HTAKE _ hSw); go_simp)
          try (with_reducible rfl)
        rotate_left
        try simp (maxSteps := 4000000) only [Act.put, List.setIfInBounds_toArray, List.set_cons_zero, List.set_cons_succ, List.getElem_toArray, List.getElem_cons_zero, List.getElem_cons_succ]
        refine wpAnyH_take (i := 20) (v := ?_) rfl (by kernel_rfl) (by kernel_rfl) (by kernel_rfl) (fun _ _ _ h => h) (Or.inl ⟨by kernel_rfl, ?_⟩) (by assumption) ?_
        rotate_left
        · (intro w hSw; (try dsimp only at hSw); (try have hTk := Hid.out HTAKE _ hSw); go_simp)
          try (with_reducible rfl)
        rotate_left
        try simp (maxSteps := 4000000) only [Act.put, List.setIfInBounds_toArray, List.set_cons_zero, List.set_cons_succ, List.getElem_toArray, List.getElem_cons_zero, List.getElem_cons_succ]
        refine wpAnyH_take (i := 21) (v := ?_) rfl (by kernel_rfl) (by kernel_rfl) (by kernel_rfl) (fun _ _ _ h => h) (Or.inl ⟨by kernel_rfl, ?_⟩) (by assumption) ?_
        rotate_left
        · (intro w hSw; (try dsimp only at hSw); (try have hTk := Hid.out HTAKE _ hSw); go_simp)
          try (with_reducible rfl)
        rotate_left
        try simp (maxSteps := 4000000) only [Act.put, List.setIfInBounds_toArray, List.set_cons_zero, List.set_cons_succ, List.getElem_toArray, List.getElem_cons_zero, List.getElem_cons_succ]
        refine wpAnyH_take (i := 22) (v := ?_) rfl (by kernel_rfl) (by kernel_rfl) (by kernel_rfl) (fun _ _ _ h => h) (Or.inl ⟨by kernel_rfl, ?_⟩) (by assumption) ?_
        rotate_left
        · (intro w hSw; (try dsimp only at hSw); (try have hTk := Hid.out HTAKE _ hSw); go_simp)
          try (with_reducible rfl)
        rotate_left
        try simp (maxSteps := 4000000) only [Act.put, List.setIfInBounds_toArray, List.set_cons_zero, List.set_cons_succ, List.getElem_toArray, List.getElem_cons_zero, List.getElem_cons_succ]
        refine wpAnyH_take (i := 23) (v := ?_) rfl (by kernel_rfl) (by kernel_rfl) (by kernel_rfl) (fun _ _ _ h => h) (Or.inl ⟨by kernel_rfl, ?_⟩) (by assumption) ?_
        rotate_left
        · (intro w hSw; (try dsimp only at hSw); (try have hTk := Hid.out HTAKE _ hSw); go_simp)
          try (with_reducible rfl)
        rotate_left
        try simp (maxSteps := 4000000) only [Act.put, List.setIfInBounds_toArray, List.set_cons_zero, List.set_cons_succ, List.getElem_toArray, List.getElem_cons_zero, List.getElem_cons_succ]
        refine wpAnyH_take (i := 24) (v := ?_) rfl (by kernel_rfl) (by kernel_rfl) (by kernel_rfl) (fun _ _ _ h => h) (Or.inl ⟨by kernel_rfl, ?_⟩) (by assumption) ?_
        rotate_left
        · (intro w hSw; (try dsimp only at hSw); (try have hTk := Hid.out HTAKE _ hSw); go_simp)
          try (with_reducible rfl)
        rotate_left
        try simp (maxSteps := 4000000) only [Act.put, List.setIfInBounds_toArray, List.set_cons_zero, List.set_cons_succ, List.getElem_toArray, List.getElem_cons_zero, List.getElem_cons_succ]
        refine wpAnyH_take (i := 25) (v := ?_) rfl (by kernel_rfl) (by kernel_rfl) (by kernel_rfl) (fun _ _ _ h => h) (Or.inl ⟨by kernel_rfl, ?_⟩) (by assumption) ?_
        rotate_left
        · (intro w hSw; (try dsimp only at hSw); (try have hTk := Hid.out HTAKE _ hSw); go_simp)
          try (with_reducible rfl)
        rotate_left
        try simp (maxSteps := 4000000) only [Act.put, List.setIfInBounds_toArray, List.set_cons_zero, List.set_cons_succ, List.getElem_toArray, List.getElem_cons_zero, List.getElem_cons_succ]
        refine wpAnyH_take (i := 26) (v := ?_) rfl (by kernel_rfl) (by kernel_rfl) (by kernel_rfl) (fun _ _ _ h => h) (Or.inl ⟨by kernel_rfl, ?_⟩) (by assumption) ?_
        rotate_left
        · (intro w hSw; (try dsimp only at hSw); (try have hTk := Hid.out HTAKE _ hSw); go_simp)
          try (with_reducible rfl)
        rotate_left
        try simp (maxSteps := 4000000) only [Act.put, List.setIfInBounds_toArray, List.set_cons_zero, List.set_cons_succ, List.getElem_toArray, List.getElem_cons_zero, List.getElem_cons_succ]
        refine wpAnyH_take (i := 27) (v := ?_) rfl (by kernel_rfl) (by kernel_rfl) (by kernel_rfl) (fun _ _ _ h => h) (Or.inl ⟨by kernel_rfl, ?_⟩) (by assumption) ?_
        rotate_left
        · (intro w hSw; (try dsimp only at hSw); (try have hTk := Hid.out HTAKE _ hSw); go_simp)
          try (with_reducible rfl)
        rotate_left
        try simp (maxSteps := 4000000) only [Act.put, List.setIfInBounds_toArray, List.set_cons_zero, List.set_cons_succ, List.getElem_toArray, List.getElem_cons_zero, List.getElem_cons_succ]
        refine wpAnyH_done (by kernel_rfl) ?_ _
        have HBZ := HB14
        clear hHeld HTAKE
        go_wp2
        go_ret
        exact ⟨rfl, HBZ.out⟩
end Go.Proofs.YtnfcpohbdkionaaDoor
