/- BrL. -/
import Derived.Test.YtnfcpohbdkionaaGreatDoorZ32
import Derived.Deep.RegionHeld3
import Derived.Deep.DeepCutAuto
namespace Go.Proofs.YtnfcpohbdkionaaGreatDoor
set_option maxRecDepth 100000
open Go.RowKit Go.ChangeMaps Go.MapKept
set_option linter.unusedVariables false
set_option linter.unusedSimpArgs false
theorem czl_first (v : World) : ∃ x u, v.heap.size = x ∧ (v.alloc (.cells #[.int .i64 0, .int .i64 0, .int .i64 0, .int .i64 0, .int .i64 0, .bool false] 25)).drew = u ∧ CapAt x u 0 0 0 0 0 false ∧ Below v.heap.size v u :=
  ⟨_, _, rfl, rfl, (CapAt.new v 0 0 0 0 0 false 25).below (Below.refl _ _).drew, (alc0 _ _).drew⟩
theorem czl_next (v : World) : ∃ x u, v.heap.size = x ∧ v.alloc (.cells #[.int .i64 0, .int .i64 0, .int .i64 0, .int .i64 0, .int .i64 0, .bool false] 25) = u ∧ CapAt x u 0 0 0 0 0 false ∧ Below v.heap.size v u :=
  ⟨_, _, rfl, rfl, CapAt.new v 0 0 0 0 0 false 25, alc0 _ _⟩
theorem capl_st {z N : Nat} {V u : World} {b l c p t : Int} {v : Bool} (h : CapAt z u b l c p t v) (hN : N ≤ z) (hB : Below N V u) (b' l' c' p' t' : Int) (v' : Bool) :
    ∃ u', (((((u.setCell ⟨z, 0, none⟩ (.int .i64 b')).setCell ⟨z, 1, none⟩ (.int .i64 l')).setCell ⟨z, 2, none⟩ (.int .i64 c')).setCell ⟨z, 3, none⟩ (.int .i64 p')).setCell ⟨z, 4, none⟩ (.int .i64 t')).setCell ⟨z, 5, none⟩ (.bool v') = u' ∧ CapAt z u' b' l' c' p' t' v' ∧ u'.heap.size = u.heap.size ∧ (∀ y, y ≠ z → u'.heap[y]? = u.heap[y]?) ∧ Below N V u' := by
  refine ⟨_, rfl, (((((h.s0 b').s1 l').s2 c').s3 p').s4 t').s5 v', by simp only [size_set'], fun y hy => ?_, (((((hB.setCell hN _).setCell hN _).setCell hN _).setCell hN _).setCell hN _).setCell hN _⟩
  have hn : ∀ (W : World) k (a : Value), (W.setCell ⟨z, k, none⟩ a).heap[y]? = W.heap[y]? := fun W k a => Below.heap_setCell _ _ _ _ (by simpa using hy)
  simp only [hn]
section
variable {B lo g : Nat} {col : Nat → Nat} {M R P pg : Nat} {W : World} {σ : MS} {V : Nat → Value} {pc : Int} {ws : List Nat}
set_option maxHeartbeats 3200000 in
theorem brload (b l c p t : Int) (v : Bool) (b' l' c' p' t' : Int) (v' : Bool) (d m n q r : Int) (y : Bool) (d' m' n' q' r' : Int) (y' : Bool) (er : Int) (h : BPl B lo g col M R P pg W σ V pc ws) (hg : GoodIs σ ws b l c p t v b' l' c' p' t' v') (hg2 : GoodIs σ ws d m n q r y d' m' n' q' r' y')
    (hc : ∀ u, Below W.heap.size W u → Calls Tryz.prog 14 #[.pointer (some ⟨M, 0, none⟩), .agg #[.int .i64 b', .int .i64 l', .int .i64 c', .int .i64 p', .int .i64 t', .bool v']] u fun e w' => e = .returned (.tuple #[.agg #[.int .i64 d, .int .i64 m, .int .i64 n, .int .i64 q, .int .i64 r, .bool y], .int .i64 er]) ∧ Below u.heap.size u w') :
    Calls Tryz.prog 8 #[.agg #[.pointer (some ⟨M, 0, none⟩), .pointer (some ⟨R, 0, none⟩), .pointer (some ⟨P, 0, none⟩)], .agg #[.int .i64 b, .int .i64 l, .int .i64 c, .int .i64 p, .int .i64 t, .bool v]] W fun e w' => e = .returned (.tuple #[.agg #[.int .i64 d', .int .i64 m', .int .i64 n', .int .i64 q', .int .i64 r', .bool y'], .int .i64 er]) ∧ Below W.heap.size W w' := by
  have H := Lib.hid h
  have HG := Lib.hid hg
  have HG2 := Lib.hid hg2
  have HC := Lib.hid hc
  clear h hg hg2 hc
  have HX := Lib.hid (((PlAt.new W M R P 31).below (alc0 _ (.cells #[.int .i64 b, .int .i64 l, .int .i64 c, .int .i64 p, .int .i64 t, .bool v] 25))).below (alc0 _ (.cells #[.int .i64 0, .int .i64 0, .int .i64 0, .int .i64 0, .int .i64 0, .bool false] 25)))
  have HY := Lib.hid (CapAt.at1 W (.cells #[.pointer (some ⟨M, 0, none⟩), .pointer (some ⟨R, 0, none⟩), .pointer (some ⟨P, 0, none⟩)] 31) b l c p t v 25 (.cells #[.int .i64 0, .int .i64 0, .int .i64 0, .int .i64 0, .int .i64 0, .bool false] 25))
  have HZ := Lib.hid (CapAt.at2 W (.cells #[.pointer (some ⟨M, 0, none⟩), .pointer (some ⟨R, 0, none⟩), .pointer (some ⟨P, 0, none⟩)] 31) (.cells #[.int .i64 b, .int .i64 l, .int .i64 c, .int .i64 p, .int .i64 t, .bool v] 25) 0 0 0 0 0 false 25)
  have HB := Lib.hid (alc (alc (alc0 W (.cells #[.pointer (some ⟨M, 0, none⟩), .pointer (some ⟨R, 0, none⟩), .pointer (some ⟨P, 0, none⟩)] 31)) (.cells #[.int .i64 b, .int .i64 l, .int .i64 c, .int .i64 p, .int .i64 t, .bool v] 25)) (.cells #[.int .i64 0, .int .i64 0, .int .i64 0, .int .i64 0, .int .i64 0, .bool false] 25))
  go_enter Tryz.func8, Tryz.ntmps8
  go_upto_region 1 with (fail)
  generalize hv3 : ((W.alloc (.cells #[.pointer (some ⟨M, 0, none⟩), .pointer (some ⟨R, 0, none⟩), .pointer (some ⟨P, 0, none⟩)] 31)).alloc (.cells #[.int .i64 b, .int .i64 l, .int .i64 c, .int .i64 p, .int .i64 t, .bool v] 25)).alloc (.cells #[.int .i64 0, .int .i64 0, .int .i64 0, .int .i64 0, .int .i64 0, .bool false] 25) = v3 at *
  clear hv3
  have HLT : Hid (W.heap.size + 2 < v3.heap.size) := Lib.hid HZ.out.1
  go_cut [6, 7] (fun v6 v7 wx => ∃ (x6 : Nat), v6 = .pointer (some ⟨x6, 0, none⟩) ∧ v7 = .int .i64 er ∧ Hid (CapAt x6 wx d m n q r y ∧ v3.heap.size ≤ x6 ∧ Below v3.heap.size v3 wx))
  case first =>
    have HTAKE := Lib.hid (fun (w' : World) (h : PlAt W.heap.size w' M R P ∧ CapAt (W.heap.size + 1) w' b l c p t v) => And.intro h.1.2 h.2.2)
    refine wp_region_held_drew (S := fun w' => PlAt W.heap.size w' M R P ∧ CapAt (W.heap.size + 1) w' b l c p t v) (by kernel_rfl) ?_ (fun hHeld => ?_)
    · exact ⟨HX.out.below (Below.refl _ _).drew, HY.out.below (Below.refl _ _).drew⟩
    refine wpAnyH_take (i := 0) (v := ?_) rfl (by kernel_rfl) (by kernel_rfl) (by kernel_rfl) (fun _ _ _ h => h) (Or.inl ⟨by kernel_rfl, ?_⟩) (by assumption) ?_
    rotate_left
    · (intro w hSw; (try dsimp only at hSw); (try have hTk := Hid.out HTAKE _ hSw); go_simp)
      try (with_reducible rfl)
    rotate_left
    try simp (maxSteps := 4000000) only [Act.put, List.setIfInBounds_toArray, List.set_cons_zero, List.set_cons_succ, List.getElem_toArray, List.getElem_cons_zero, List.getElem_cons_succ]
    refine wpAnyH_take (i := 1) (v := ?_) rfl (by kernel_rfl) (by kernel_rfl) (by kernel_rfl) (fun _ _ _ h => h) (Or.inl ⟨by kernel_rfl, ?_⟩) (by assumption) ?_
    rotate_left
    · (intro w hSw; (try dsimp only at hSw); (try have hTk := Hid.out HTAKE _ hSw); go_simp)
      try (with_reducible rfl)
    rotate_left
    try simp (maxSteps := 4000000) only [Act.put, List.setIfInBounds_toArray, List.set_cons_zero, List.set_cons_succ, List.getElem_toArray, List.getElem_cons_zero, List.getElem_cons_succ]
    refine wpAnyH_take (i := 2) (v := ?_) rfl (by kernel_rfl) (by kernel_rfl) (by kernel_rfl) (fun _ _ _ h => h) (Or.inl ⟨by kernel_rfl, ?_⟩) (by assumption) ?_
    rotate_left
    · (intro w hSw; (try dsimp only at hSw); (try have hTk := Hid.out HTAKE _ hSw); go_simp)
      try (with_reducible rfl)
    rotate_left
    try simp (maxSteps := 4000000) only [Act.put, List.setIfInBounds_toArray, List.set_cons_zero, List.set_cons_succ, List.getElem_toArray, List.getElem_cons_zero, List.getElem_cons_succ]
    refine wpAnyH_take (i := 3) (v := ?_) rfl (by kernel_rfl) (by kernel_rfl) (by kernel_rfl) (fun _ _ _ h => h) (Or.inl ⟨by kernel_rfl, ?_⟩) (by assumption) ?_
    rotate_left
    · (intro w hSw; (try dsimp only at hSw); (try have hTk := Hid.out HTAKE _ hSw); go_simp)
      try (with_reducible rfl)
    rotate_left
    try simp (maxSteps := 4000000) only [Act.put, List.setIfInBounds_toArray, List.set_cons_zero, List.set_cons_succ, List.getElem_toArray, List.getElem_cons_zero, List.getElem_cons_succ]
    refine wpAnyH_ready (rs := [4, 9]) (by kernel_rfl) (by simp) ?_
    refine AllReadyH.cons rfl (fun K2 hK2 => ?_) (AllReadyH.cons rfl (fun K2 hK2 => ?_) AllReadyH.nil)
    all_goals go_simp
    · with_reducible refine Calls.mono (brgood_any (H.out.later HB.out.drew) HG.out) ?_
      rintro e u1 ⟨rfl, hb⟩
      have hb : Below v3.heap.size v3 u1 := thn (Below.refl _ _).drew hb
      have HB9 := Lib.hid hb
      refine hK2.out _ _ (⟨HX.out.below hb, HY.out.below hb⟩) (fun hHeld2 => ?_)
      clear hb
      clear hK2 K2 hHeld
      have hHeld := hHeld2
      clear hHeld2
      try simp (maxSteps := 4000000) only [Act.put, List.setIfInBounds_toArray, List.set_cons_zero, List.set_cons_succ]
      refine wpAnyH_ready (rs := [5, 9]) (by kernel_rfl) (by simp) ?_
      refine AllReadyH.cons rfl (fun K2 hK2 => ?_) (AllReadyH.cons rfl (fun K2 hK2 => ?_) AllReadyH.nil)
      all_goals go_simp
      · with_reducible refine Calls.mono (HC.out u1 (thn HB.out HB9.out)) ?_
        rintro e u2 ⟨rfl, hb⟩
        have HB9n := Lib.hid (thn HB9.out hb)
        clear HB9
        have HB9 := HB9n
        clear HB9n
        refine hK2.out _ _ (⟨hHeld.1.below hb, hHeld.2.below hb⟩) (fun hHeld2 => ?_)
        clear hb
        clear hK2 K2 hHeld
        have hHeld := hHeld2
        clear hHeld2
        try simp (maxSteps := 4000000) only [Act.put, List.setIfInBounds_toArray, List.set_cons_zero, List.set_cons_succ]
        refine wpAnyH_take (i := 6) (v := ?_) rfl (by kernel_rfl) (by kernel_rfl) (by kernel_rfl) (fun _ _ _ h => h) (Or.inl ⟨by kernel_rfl, ?_⟩) (by assumption) ?_
        rotate_left
        · (intro w hSw; (try dsimp only at hSw); (try have hTk := Hid.out HTAKE _ hSw); go_simp)
          try (with_reducible rfl)
        rotate_left
        try simp (maxSteps := 4000000) only [Act.put, List.setIfInBounds_toArray, List.set_cons_zero, List.set_cons_succ, List.getElem_toArray, List.getElem_cons_zero, List.getElem_cons_succ]
        refine wpAnyH_take (i := 7) (v := ?_) rfl (by kernel_rfl) (by kernel_rfl) (by kernel_rfl) (fun _ _ _ h => h) (Or.inl ⟨by kernel_rfl, ?_⟩) (by assumption) ?_
        rotate_left
        · (intro w hSw; (try dsimp only at hSw); (try have hTk := Hid.out HTAKE _ hSw); go_simp)
          try (with_reducible rfl)
        rotate_left
        try simp (maxSteps := 4000000) only [Act.put, List.setIfInBounds_toArray, List.set_cons_zero, List.set_cons_succ, List.getElem_toArray, List.getElem_cons_zero, List.getElem_cons_succ]
        refine wpAnyH_take (i := 8) (v := ?_) rfl (by kernel_rfl) (by kernel_rfl) (by kernel_rfl) (fun _ _ _ h => h) (Or.inl ⟨by kernel_rfl, ?_⟩) (by assumption) ?_
        rotate_left
        · (intro w hSw; (try dsimp only at hSw); (try have hTk := Hid.out HTAKE _ hSw); go_simp)
          try (with_reducible rfl)
        rotate_left
        try simp (maxSteps := 4000000) only [Act.put, List.setIfInBounds_toArray, List.set_cons_zero, List.set_cons_succ, List.getElem_toArray, List.getElem_cons_zero, List.getElem_cons_succ]
        refine wpAnyH_ready (rs := [9]) (by kernel_rfl) (by simp) ?_
        refine AllReadyH.cons rfl (fun K2 hK2 => ?_) AllReadyH.nil
        go_simp
        obtain ⟨x6, u3, hx6, hw9, hz9, hb⟩ := czl_next u2
        rw [hw9]
        try rw [hx6]
        clear hw9
        have HA6 := Lib.hid (And.intro hz9 (show v3.heap.size ≤ x6 by have := HB9.out.size; omega))
        clear hx6 hz9
        have HB9n := Lib.hid (thn HB9.out hb)
        clear HB9
        have HB9 := HB9n
        clear HB9n
        refine hK2.out _ _ (⟨hHeld.1.below hb, hHeld.2.below hb⟩) (fun hHeld2 => ?_)
        clear hb
        clear hK2 K2 hHeld
        have hHeld := hHeld2
        clear hHeld2
        try simp (maxSteps := 4000000) only [Act.put, List.setIfInBounds_toArray, List.set_cons_zero, List.set_cons_succ]
        obtain ⟨-, z0, z1, z2, z3, z4, z5, -⟩ := HA6.out.1
        obtain ⟨g0, g1, g2, g3, g4, g5⟩ := HA6.out.1.fzB
        refine wpAnyH_ready (rs := [10]) (by kernel_rfl) (by simp) ?_
        refine AllReadyH.cons rfl (fun K2 hK2 => ?_) AllReadyH.nil
        go_simp
        obtain ⟨u4, hw9, hz9, hs9, hk9, hb9⟩ := capl_st HA6.out.1 HA6.out.2 HB9.out d m n q r y
        rw [hw9]
        clear hw9 z0 g0 z1 g1 z2 g2 z3 g3 z4 g4 z5 g5
        have HA6n := Lib.hid (And.intro hz9 HA6.out.2)
        have HB9n := Lib.hid hb9
        refine hK2.out _ _ (⟨hHeld.1.keep (Nat.le_of_eq hs9.symm) (hk9 _ (by have := HLT.out; have := HA6.out.2; omega)), hHeld.2.keep (Nat.le_of_eq hs9.symm) (hk9 _ (by have := HLT.out; have := HA6.out.2; omega))⟩) (fun hHeld2 => ?_)
        clear HA6 HB9 hz9 hs9 hk9 hb9
        have HA6 := HA6n
        have HB9 := HB9n
        clear HA6n HB9n
        clear hK2 K2 hHeld
        have hHeld := hHeld2
        clear hHeld2
        try simp (maxSteps := 4000000) only [Act.put, List.setIfInBounds_toArray, List.set_cons_zero, List.set_cons_succ]
        refine wpAnyH_take (i := 11) (v := ?_) rfl (by kernel_rfl) (by kernel_rfl) (by kernel_rfl) (fun _ _ _ h => h) (Or.inl ⟨by kernel_rfl, ?_⟩) (by assumption) ?_
        rotate_left
        · (intro w hSw; (try dsimp only at hSw); (try have hTk := Hid.out HTAKE _ hSw); go_simp)
          try (with_reducible rfl)
        rotate_left
        try simp (maxSteps := 4000000) only [Act.put, List.setIfInBounds_toArray, List.set_cons_zero, List.set_cons_succ, List.getElem_toArray, List.getElem_cons_zero, List.getElem_cons_succ]
        refine wpAnyH_done (by kernel_rfl) ?_ _
        go_wp2_with fail
        go_meet
        exact ⟨x6, rfl, rfl, Lib.hid ⟨HA6.out.1, HA6.out.2, HB9.out⟩⟩
      · obtain ⟨x6, u2, hx6, hw9, hz9, hb⟩ := czl_next u1
        rw [hw9]
        try rw [hx6]
        clear hw9
        have HA6 := Lib.hid (And.intro hz9 (show v3.heap.size ≤ x6 by have := HB9.out.size; omega))
        clear hx6 hz9
        have HB9n := Lib.hid (thn HB9.out hb)
        clear HB9
        have HB9 := HB9n
        clear HB9n
        refine hK2.out _ _ (⟨hHeld.1.below hb, hHeld.2.below hb⟩) (fun hHeld2 => ?_)
        clear hb
        clear hK2 K2 hHeld
        have hHeld := hHeld2
        clear hHeld2
        try simp (maxSteps := 4000000) only [Act.put, List.setIfInBounds_toArray, List.set_cons_zero, List.set_cons_succ]
        refine wpAnyH_ready (rs := [5]) (by kernel_rfl) (by simp) ?_
        refine AllReadyH.cons rfl (fun K2 hK2 => ?_) AllReadyH.nil
        go_simp
        with_reducible refine Calls.mono (HC.out u2 (thn HB.out HB9.out)) ?_
        rintro e u3 ⟨rfl, hb⟩
        have HB9n := Lib.hid (thn HB9.out hb)
        clear HB9
        have HB9 := HB9n
        clear HB9n
        have HA6n := Lib.hid (And.intro (HA6.out.1.below hb) HA6.out.2)
        clear HA6
        have HA6 := HA6n
        clear HA6n
        refine hK2.out _ _ (⟨hHeld.1.below hb, hHeld.2.below hb⟩) (fun hHeld2 => ?_)
        clear hb
        clear hK2 K2 hHeld
        have hHeld := hHeld2
        clear hHeld2
        try simp (maxSteps := 4000000) only [Act.put, List.setIfInBounds_toArray, List.set_cons_zero, List.set_cons_succ]
        obtain ⟨-, z0, z1, z2, z3, z4, z5, -⟩ := HA6.out.1
        obtain ⟨g0, g1, g2, g3, g4, g5⟩ := HA6.out.1.fzB
        refine wpAnyH_take (i := 6) (v := ?_) rfl (by kernel_rfl) (by kernel_rfl) (by kernel_rfl) (fun _ _ _ h => h) (Or.inl ⟨by kernel_rfl, ?_⟩) (by assumption) ?_
        rotate_left
        · (intro w hSw; (try dsimp only at hSw); (try have hTk := Hid.out HTAKE _ hSw); go_simp)
          try (with_reducible rfl)
        rotate_left
        try simp (maxSteps := 4000000) only [Act.put, List.setIfInBounds_toArray, List.set_cons_zero, List.set_cons_succ, List.getElem_toArray, List.getElem_cons_zero, List.getElem_cons_succ]
        refine wpAnyH_take (i := 7) (v := ?_) rfl (by kernel_rfl) (by kernel_rfl) (by kernel_rfl) (fun _ _ _ h => h) (Or.inl ⟨by kernel_rfl, ?_⟩) (by assumption) ?_
        rotate_left
        · (intro w hSw; (try dsimp only at hSw); (try have hTk := Hid.out HTAKE _ hSw); go_simp)
          try (with_reducible rfl)
        rotate_left
        try simp (maxSteps := 4000000) only [Act.put, List.setIfInBounds_toArray, List.set_cons_zero, List.set_cons_succ, List.getElem_toArray, List.getElem_cons_zero, List.getElem_cons_succ]
        refine wpAnyH_take (i := 8) (v := ?_) rfl (by kernel_rfl) (by kernel_rfl) (by kernel_rfl) (fun _ _ _ h => h) (Or.inl ⟨by kernel_rfl, ?_⟩) (by assumption) ?_
        rotate_left
        · (intro w hSw; (try dsimp only at hSw); (try have hTk := Hid.out HTAKE _ hSw); go_simp)
          try (with_reducible rfl)
        rotate_left
        try simp (maxSteps := 4000000) only [Act.put, List.setIfInBounds_toArray, List.set_cons_zero, List.set_cons_succ, List.getElem_toArray, List.getElem_cons_zero, List.getElem_cons_succ]
        refine wpAnyH_ready (rs := [10]) (by kernel_rfl) (by simp) ?_
        refine AllReadyH.cons rfl (fun K2 hK2 => ?_) AllReadyH.nil
        go_simp
        obtain ⟨u4, hw9, hz9, hs9, hk9, hb9⟩ := capl_st HA6.out.1 HA6.out.2 HB9.out d m n q r y
        rw [hw9]
        clear hw9 z0 g0 z1 g1 z2 g2 z3 g3 z4 g4 z5 g5
        have HA6n := Lib.hid (And.intro hz9 HA6.out.2)
        have HB9n := Lib.hid hb9
        refine hK2.out _ _ (⟨hHeld.1.keep (Nat.le_of_eq hs9.symm) (hk9 _ (by have := HLT.out; have := HA6.out.2; omega)), hHeld.2.keep (Nat.le_of_eq hs9.symm) (hk9 _ (by have := HLT.out; have := HA6.out.2; omega))⟩) (fun hHeld2 => ?_)
        clear HA6 HB9 hz9 hs9 hk9 hb9
        have HA6 := HA6n
        have HB9 := HB9n
        clear HA6n HB9n
        clear hK2 K2 hHeld
        have hHeld := hHeld2
        clear hHeld2
        try simp (maxSteps := 4000000) only [Act.put, List.setIfInBounds_toArray, List.set_cons_zero, List.set_cons_succ]
        refine wpAnyH_take (i := 11) (v := ?_) rfl (by kernel_rfl) (by kernel_rfl) (by kernel_rfl) (fun _ _ _ h => h) (Or.inl ⟨by kernel_rfl, ?_⟩) (by assumption) ?_
        rotate_left
        · (intro w hSw; (try dsimp only at hSw); (try have hTk := Hid.out HTAKE _ hSw); go_simp)
          try (with_reducible rfl)
        rotate_left
        try simp (maxSteps := 4000000) only [Act.put, List.setIfInBounds_toArray, List.set_cons_zero, List.set_cons_succ, List.getElem_toArray, List.getElem_cons_zero, List.getElem_cons_succ]
        refine wpAnyH_done (by kernel_rfl) ?_ _
        go_wp2_with fail
        go_meet
        exact ⟨x6, rfl, rfl, Lib.hid ⟨HA6.out.1, HA6.out.2, HB9.out⟩⟩
    · obtain ⟨x6, u1, hx6, hw9, hz9, hb⟩ := czl_first v3
      rw [hw9]
      try rw [hx6]
      clear hw9
      have HA6 := Lib.hid (And.intro hz9 (show v3.heap.size ≤ x6 by omega))
      clear hx6 hz9
      have HB9 := Lib.hid hb
      refine hK2.out _ _ (⟨HX.out.below hb, HY.out.below hb⟩) (fun hHeld2 => ?_)
      clear hb
      clear hK2 K2 hHeld
      have hHeld := hHeld2
      clear hHeld2
      try simp (maxSteps := 4000000) only [Act.put, List.setIfInBounds_toArray, List.set_cons_zero, List.set_cons_succ]
      refine wpAnyH_ready (rs := [4]) (by kernel_rfl) (by simp) ?_
      refine AllReadyH.cons rfl (fun K2 hK2 => ?_) AllReadyH.nil
      go_simp
      with_reducible refine Calls.mono (brgood_any (H.out.later (thn HB.out HB9.out)) HG.out) ?_
      rintro e u2 ⟨rfl, hb⟩
      have HB9n := Lib.hid (thn HB9.out hb)
      clear HB9
      have HB9 := HB9n
      clear HB9n
      have HA6n := Lib.hid (And.intro (HA6.out.1.below hb) HA6.out.2)
      clear HA6
      have HA6 := HA6n
      clear HA6n
      refine hK2.out _ _ (⟨hHeld.1.below hb, hHeld.2.below hb⟩) (fun hHeld2 => ?_)
      clear hb
      clear hK2 K2 hHeld
      have hHeld := hHeld2
      clear hHeld2
      try simp (maxSteps := 4000000) only [Act.put, List.setIfInBounds_toArray, List.set_cons_zero, List.set_cons_succ]
      refine wpAnyH_ready (rs := [5]) (by kernel_rfl) (by simp) ?_
      refine AllReadyH.cons rfl (fun K2 hK2 => ?_) AllReadyH.nil
      go_simp
      with_reducible refine Calls.mono (HC.out u2 (thn HB.out HB9.out)) ?_
      rintro e u3 ⟨rfl, hb⟩
      have HB9n := Lib.hid (thn HB9.out hb)
      clear HB9
      have HB9 := HB9n
      clear HB9n
      have HA6n := Lib.hid (And.intro (HA6.out.1.below hb) HA6.out.2)
      clear HA6
      have HA6 := HA6n
      clear HA6n
      refine hK2.out _ _ (⟨hHeld.1.below hb, hHeld.2.below hb⟩) (fun hHeld2 => ?_)
      clear hb
      clear hK2 K2 hHeld
      have hHeld := hHeld2
      clear hHeld2
      try simp (maxSteps := 4000000) only [Act.put, List.setIfInBounds_toArray, List.set_cons_zero, List.set_cons_succ]
      obtain ⟨-, z0, z1, z2, z3, z4, z5, -⟩ := HA6.out.1
      obtain ⟨g0, g1, g2, g3, g4, g5⟩ := HA6.out.1.fzB
      refine wpAnyH_take (i := 6) (v := ?_) rfl (by kernel_rfl) (by kernel_rfl) (by kernel_rfl) (fun _ _ _ h => h) (Or.inl ⟨by kernel_rfl, ?_⟩) (by assumption) ?_
      rotate_left
      · (intro w hSw; (try dsimp only at hSw); (try have hTk := Hid.out HTAKE _ hSw); go_simp)
        try (with_reducible rfl)
      rotate_left
      try simp (maxSteps := 4000000) only [Act.put, List.setIfInBounds_toArray, List.set_cons_zero, List.set_cons_succ, List.getElem_toArray, List.getElem_cons_zero, List.getElem_cons_succ]
      refine wpAnyH_take (i := 7) (v := ?_) rfl (by kernel_rfl) (by kernel_rfl) (by kernel_rfl) (fun _ _ _ h => h) (Or.inl ⟨by kernel_rfl, ?_⟩) (by assumption) ?_
      rotate_left
      · (intro w hSw; (try dsimp only at hSw); (try have hTk := Hid.out HTAKE _ hSw); go_simp)
        try (with_reducible rfl)
      rotate_left
      try simp (maxSteps := 4000000) only [Act.put, List.setIfInBounds_toArray, List.set_cons_zero, List.set_cons_succ, List.getElem_toArray, List.getElem_cons_zero, List.getElem_cons_succ]
      refine wpAnyH_take (i := 8) (v := ?_) rfl (by kernel_rfl) (by kernel_rfl) (by kernel_rfl) (fun _ _ _ h => h) (Or.inl ⟨by kernel_rfl, ?_⟩) (by assumption) ?_
      rotate_left
      · (intro w hSw; (try dsimp only at hSw); (try have hTk := Hid.out HTAKE _ hSw); go_simp)
        try (with_reducible rfl)
      rotate_left
      try simp (maxSteps := 4000000) only [Act.put, List.setIfInBounds_toArray, List.set_cons_zero, List.set_cons_succ, List.getElem_toArray, List.getElem_cons_zero, List.getElem_cons_succ]
      refine wpAnyH_ready (rs := [10]) (by kernel_rfl) (by simp) ?_
      refine AllReadyH.cons rfl (fun K2 hK2 => ?_) AllReadyH.nil
      go_simp
      obtain ⟨u4, hw9, hz9, hs9, hk9, hb9⟩ := capl_st HA6.out.1 HA6.out.2 HB9.out d m n q r y
      rw [hw9]
      clear hw9 z0 g0 z1 g1 z2 g2 z3 g3 z4 g4 z5 g5
      have HA6n := Lib.hid (And.intro hz9 HA6.out.2)
      have HB9n := Lib.hid hb9
      refine hK2.out _ _ (⟨hHeld.1.keep (Nat.le_of_eq hs9.symm) (hk9 _ (by have := HLT.out; have := HA6.out.2; omega)), hHeld.2.keep (Nat.le_of_eq hs9.symm) (hk9 _ (by have := HLT.out; have := HA6.out.2; omega))⟩) (fun hHeld2 => ?_)
      clear HA6 HB9 hz9 hs9 hk9 hb9
      have HA6 := HA6n
      have HB9 := HB9n
      clear HA6n HB9n
      clear hK2 K2 hHeld
      have hHeld := hHeld2
      clear hHeld2
      try simp (maxSteps := 4000000) only [Act.put, List.setIfInBounds_toArray, List.set_cons_zero, List.set_cons_succ]
      refine wpAnyH_take (i := 11) (v := ?_) rfl (by kernel_rfl) (by kernel_rfl) (by kernel_rfl) (fun _ _ _ h => h) (Or.inl ⟨by kernel_rfl, ?_⟩) (by assumption) ?_
      rotate_left
      · (intro w hSw; (try dsimp only at hSw); (try have hTk := Hid.out HTAKE _ hSw); go_simp)
        try (with_reducible rfl)
      rotate_left
      try simp (maxSteps := 4000000) only [Act.put, List.setIfInBounds_toArray, List.set_cons_zero, List.set_cons_succ, List.getElem_toArray, List.getElem_cons_zero, List.getElem_cons_succ]
      refine wpAnyH_done (by kernel_rfl) ?_ _
      go_wp2_with fail
      go_meet
      exact ⟨x6, rfl, rfl, Lib.hid ⟨HA6.out.1, HA6.out.2, HB9.out⟩⟩
  case rest =>
    obtain ⟨x6, rfl, rfl, HR⟩ := hcut
    rename World => w4
    have HX4 := Lib.hid (HX.out.below HR.out.2.2)
    have HZ4 := Lib.hid (HZ.out.below HR.out.2.2)
    have HC4 := Lib.hid HR.out.1
    have HB4 := Lib.hid (thn HB.out HR.out.2.2)
    clear HX HY HZ HR HB HC
    obtain ⟨-, k0, k1, k2⟩ := HX4.out
    obtain ⟨-, y0, y1, y2, y3, y4, y5, -⟩ := HC4.out
    go_wp2_with fail
    with_reducible refine Calls.mono (brgood_any (H.out.later HB4.out) HG2.out) ?_
    rintro e w5 ⟨rfl, hb⟩
    have HZ5 := Lib.hid (HZ4.out.below hb)
    have HB5 := Lib.hid (thn HB4.out hb)
    clear hb HX4 HZ4 HC4 HB4 k0 k1 k2 y0 y1 y2 y3 y4 y5
    obtain ⟨-, z0, z1, z2, z3, z4, z5, -⟩ := HZ5.out
    obtain ⟨g0, g1, g2, g3, g4, g5⟩ := HZ5.out.fzB
    go_wp2
    refine bodyPost_ret (v := .tuple #[.agg #[.int .i64 d', .int .i64 m', .int .i64 n', .int .i64 q', .int .i64 r', .bool y'], .int .i64 er]) (by simp [results, Tryz.results8, go_sem, z0, z1, z2, z3, z4, z5, g0, g1, g2, g3, g4, g5]) rfl ⟨rfl, ?_⟩
    exact below_set6 HB5.out (by omega) _ _ _ _ _ _
end
end Go.Proofs.YtnfcpohbdkionaaGreatDoor
