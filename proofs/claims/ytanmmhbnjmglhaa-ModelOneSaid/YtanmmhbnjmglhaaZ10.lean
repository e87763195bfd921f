/- MoD. -/
import Derived.Test.YtanmmhbnjmglhaaZ09
import Derived.Deep.RegionHeld3
namespace Go.Proofs.Ytanmmhbnjmglhaa
set_option maxRecDepth 100000
open Go.RowKit Go.ChangeMaps Go.MapKept
set_option linter.unusedVariables false
set_option linter.unusedSimpArgs false
/-- Between two rounds of the filling: j bytes are filled. -/
def FB (d n j : Nat) (f : Int) (W : World) : Prop := ∀ i, i < n → (i < j → W.cell? ⟨d, i, none⟩ = some (.int .u8 f)) ∧ (W.cell? ⟨d, i, none⟩).isSome = true ∧ W.frozen? ⟨d, i, none⟩ = false
theorem FB.next {d n j : Nat} {f : Int} {W : World} (h : FB d n j f W) (hj : j < n) : FB d n (j + 1) f (W.setCell ⟨d, j, none⟩ (.int .u8 f)) := fun i hi => by
  obtain ⟨h1, h2, h3⟩ := h i hi
  obtain ⟨h4, h5, h6⟩ := h j hj
  obtain ⟨u, hu⟩ := Option.isSome_iff_exists.1 h5
  have hsome : ((W.setCell ⟨d, j, none⟩ (.int .u8 f)).cell? ⟨d, i, none⟩).isSome = true := World.isSome_setCells d [.int .u8 f] j W _ h2
  refine ⟨fun hij => ?_, hsome, by rw [World.frozen?_setCell]; exact h3⟩
  by_cases e : i = j
  · subst e
    exact World.cell?_setCell_same _ _ _ hu
  · rw [World.cell?_setCell_other _ _ _ _ (by intro e2; injection e2 with _ e2 _; omega)]
    exact h1 (by omega)
section
variable {m mb r : Nat} {C : Cf} {md : Nat} {ch : List (Int × Nat)} {rs : List Rf} {W : World}
set_option maxHeartbeats 6400000 in
theorem mget_ok (t a f : Int) (n : Nat) (h : MO m mb r C md ch rs W) (hk : ∀ e ∈ ch, e.1 ≤ md) (hmd : md < 1000) (ha : malB a = true) (he : askE C t n false = 0) :
    Calls Try.prog 39 #[.pointer (some ⟨m, 0, none⟩), .int .i64 t, .int .i64 a, .int .i64 (n : Int), .int .u8 f, .bool false] W (GetPost m mb r C md ch rs n f W) := by
  have H := Lib.hid h
  have H1 := Lib.hid (fun o => h.below (alc0 W o))
  have hm := h.lt.1
  have hr := h.lt.2.1
  have hmr := h.lt.2.2
  have hmbl := h.mp.lt
  have c8 := h.cf.2.2.2.2.2.2.2.2.1
  have hok := h.ok.1
  have hask : (0 ≤ t ∧ t < C.th) ∧ ¬ (n : Int) < 1 ∧ ¬ (n : Int) > C.mo := by
    unfold askE at he
    split at he
    · omega
    · split at he
      · omega
      · omega
  obtain ⟨ht, hn1, hn2⟩ := hask
  have hn8 : n ≤ 8000 := by have := hok.2.1; omega
  have hn0 : 1 ≤ n := by omega
  have HK := Lib.hid hk
  clear h he hk hok
  have hmk := mkN n (by omega)
  have hmm := @run_makeMap Try.prog
  go_enter Try.func39, Try.ntmps39
  go_wp2_with fail
  refine (mthread_yes t (H1.out _) ht).mono ?_
  rintro e w1 ⟨rfl, rfl⟩
  go_wp2_with fail
  refine (mroom a n _ ha (by omega) (by omega)).mono ?_
  rintro e w2 ⟨⟨R, rfl⟩, hb1⟩
  have hy : ∀ o, o < 5 → w2.cell? ⟨W.heap.size, o, none⟩ = some (.int .i64 0) ∧ w2.frozen? ⟨W.heap.size, o, none⟩ = false := fun o ho => by
    refine ⟨(hb1.cell (p := ⟨W.heap.size, o, none⟩) (by simp)).trans ?_, (hb1.frozen (p := ⟨W.heap.size, o, none⟩) (by simp)).trans (by simp)⟩
    rcases o with _ | _ | _ | _ | _ | o <;> first | omega | simp
  have HY := Lib.hid hy
  have HB1 : Hid (Below W.heap.size W w2) := Lib.hid ((alc0 W _).trans (hb1.mono (by simp)))
  have hs2 : W.heap.size + 1 ≤ w2.heap.size := by have := hb1.size; simpa using this
  clear hb1 hy
  go_upto_region 11 with (fail)
  obtain ⟨N, hN⟩ : ∃ N, w2.heap.size = N := ⟨_, rfl⟩
  obtain ⟨wx, hwx⟩ : ∃ wx, w2.alloc (.cells (madeCells #[.int .u8 0] n) 5) = wx := ⟨_, rfl⟩
  obtain ⟨wy, hwy⟩ : ∃ wy, wx.alloc (.map #[] 0) = wy := ⟨_, rfl⟩
  obtain ⟨w3, hw3⟩ : ∃ w3, wy.alloc (.cells #[.slice (some ⟨w2.heap.size, 0, none⟩) n n, .int .i64 R, .map (some (w2.heap.size + 1))] 107) = w3 := ⟨_, rfl⟩
  have hsx : wx.heap.size = w2.heap.size + 1 := by rw [← hwx, World.size_alloc]
  have hsy : wy.heap.size = w2.heap.size + 1 + 1 := by rw [← hwy, World.size_alloc, hsx]
  have hs3 : w3.heap.size = w2.heap.size + 3 := by rw [← hw3, World.size_alloc, hsy]
  have hBx : Below w2.heap.size w2 wx := by rw [← hwx]; exact alc0 _ _
  have hBxy : Below wx.heap.size wx w3 := by rw [← hw3, ← hwy]; exact alc (alc0 _ _) _
  have hB3 : Below w2.heap.size w2 w3 := hBx.trans (hBxy.mono hBx.size)
  have hq0 : w3.cell? ⟨w2.heap.size + 1 + 1, 0, none⟩ = some (.slice (some ⟨w2.heap.size, 0, none⟩) n n) ∧ w3.cell? ⟨w2.heap.size + 1 + 1, 1, none⟩ = some (.int .i64 R) ∧ w3.cell? ⟨w2.heap.size + 1 + 1, 2, none⟩ = some (.map (some (w2.heap.size + 1))) := by
    rw [← hsy, ← hw3]
    exact ⟨by rw [World.cell?_alloc_mark]; rfl, by rw [World.cell?_alloc_mark]; rfl, by rw [World.cell?_alloc_mark]; rfl⟩
  have hfb : FB w2.heap.size n 0 f w3 := fun i hi => by
    have hx : wx.cell? ⟨w2.heap.size, i, none⟩ = some (.int .u8 0) := by
      rw [← hwx]
      exact made_cell w2 n _ i hi
    have hxf : wx.frozen? ⟨w2.heap.size, i, none⟩ = false := by
      rw [← hwx]
      simp
    have hlt : w2.heap.size < wx.heap.size := by omega
    refine ⟨fun h => by omega, by rw [hBxy.cell (p := ⟨w2.heap.size, i, none⟩) hlt, hx]; rfl, (hBxy.frozen (p := ⟨w2.heap.size, i, none⟩) hlt).trans hxf⟩
  rw [hwx, hwy, hw3]
  have HQ0 := Lib.hid hq0
  have HFB := Lib.hid hfb
  have HB3 : Hid (Below W.heap.size W w3) := Lib.hid (HB1.out.trans (hB3.mono HB1.out.size))
  have HY3 : Hid (∀ o, o < 5 → w3.cell? ⟨W.heap.size, o, none⟩ = some (.int .i64 0) ∧ w3.frozen? ⟨W.heap.size, o, none⟩ = false) := Lib.hid (fun o ho => ⟨(hB3.cell (p := ⟨W.heap.size, o, none⟩) (show W.heap.size < _ by omega)).trans (HY.out o ho).1, (hB3.frozen (p := ⟨W.heap.size, o, none⟩) (show W.heap.size < _ by omega)).trans (HY.out o ho).2⟩)
  rw [hN] at hs3 HQ0 HFB hs2 ⊢
  have e0 := HQ0.out.1
  clear hq0 hfb hB3 hw3 hwx hwy hsx hsy hBx hBxy HB1 HY hN H1 hmk hmm
  go_wp2_with fail
  go_loopw [62] (fun v62 wr => ∃ j : Nat, j ≤ n ∧ v62 = .int .i64 j ∧ Hid (FB N n j f wr) ∧ Hid (wr.heap.size = w3.heap.size ∧ ∀ i, i ≠ N → wr.heap[i]? = w3.heap[i]?) ∧ Hid (Below N w3 wr)) (fun v62 _ => n - (intOf v62).toNat)
  case atStart => exact ⟨0, by omega, rfl, HFB, Lib.hid ⟨rfl, fun _ _ => rfl⟩, Lib.hid (Below.refl _ _)⟩
  case round =>
    obtain ⟨j, hj, rfl, HFJ, HSJ, HBJ⟩ := hrel
    have e1 : wr.cell? ⟨N + 1 + 1, 0, none⟩ = some (.slice (some ⟨N, 0, none⟩) n n) := (World.cell?_of_block (HSJ.out.2 (N + 1 + 1) (by omega))).trans HQ0.out.1
    by_cases hlt : j < n
    · obtain ⟨-, g2, g3⟩ := HFJ.out j hlt
      obtain ⟨u, hu⟩ := Option.isSome_iff_exists.1 g2
      have i1 : (j : Int) < (n : Int) := by omega
      have i2 : (0 : Int) ≤ (j : Int) := by omega
      clear g2
      go_wp2_with fail
      go_roundw
      case rel => exact ⟨j + 1, by omega, by go_num, Lib.hid (HFJ.out.next hlt), Lib.hid ⟨by rw [size_set]; exact HSJ.out.1, fun i hi => (heap_other _ N j _ i hi).trans (HSJ.out.2 i hi)⟩, Lib.hid (HBJ.out.setCell (p := ⟨N, j, none⟩) (Nat.le_refl _) _)⟩
      case measure => simp [intOf]; omega
    · obtain rfl : j = n := by omega
      have i1 : ¬ (j : Int) < (j : Int) := by omega
      have hWw : Below W.heap.size W wr := HB3.out.trans (HBJ.out.mono (by omega))
      have hO := H.out.below hWw
      have c11 := hO.c11
      have c12 := hO.c12
      have f11 := (hO.fz 11).1
      have HO := Lib.hid hO
      have HWw := Lib.hid hWw
      have hszr : wr.heap.size = N + 3 := by have := HSJ.out.1; omega
      have hwrap : (md : Int) + 1 ≤ 1001 := by omega
      clear hO hlt hWw
      obtain ⟨w5, hw5⟩ : ∃ w5, wr.setCell ⟨m, 11, none⟩ (.int .i64 ((md : Int) + 1)) = w5 := ⟨_, rfl⟩
      have k5 : ∀ i, i ≠ m → w5.heap[i]? = wr.heap[i]? := fun i hi => by rw [← hw5]; exact heap_other _ m 11 _ i hi
      have hs5 : w5.heap.size = wr.heap.size := by rw [← hw5]; exact size_set _ _ _
      have hmp5 : MP mb w5 ch := HO.out.mp.keep (k5 mb (Ne.symm hmr.1))
      obtain ⟨w6, hins, hmp6, hs6, hk6, hl6⟩ := insM w5.drew mb ch hmp5 ((md : Int) + 1) (N + 1 + 1) (by unfold I64; omega) (fun q hq => by have := HK.out _ hq; simp at this; omega)
      have d11 : w5.cell? ⟨m, 11, none⟩ = some (.int .i64 ((md : Int) + 1)) := by rw [← hw5]; exact World.cell?_setCell_same _ _ _ c11
      have d12 : w5.cell? ⟨m, 12, none⟩ = some (.map (some mb)) := by
        rw [← hw5, World.cell?_setCell_other _ _ _ _ (by intro e; injection e with _ e2 _; omega)]
        exact c12
      go_upto_region 17 with (fail)
      have HS6 := Lib.hid (And.intro hs6 (And.intro hk6 hl6))
      have HMP6 := Lib.hid hmp6
      have K5 := Lib.hid k5
      have KM5 : Hid (∀ o, o ≠ 11 → w5.cell? ⟨m, o, none⟩ = wr.cell? ⟨m, o, none⟩) := Lib.hid (fun o ho => by rw [← hw5]; exact World.cell?_setCell_other _ _ _ _ (by intro e; injection e with _ e2 _; omega))
      have KF5 : Hid (∀ o, w5.frozen? ⟨m, o, none⟩ = wr.frozen? ⟨m, o, none⟩) := Lib.hid (fun o => by rw [← hw5]; exact World.frozen?_setCell _ _ _ _)
      have HL5 : Hid (∀ L, L ≤ m → Below L wr w5) := Lib.hid (fun L hL => by rw [← hw5]; exact (Below.refl L wr).setCell (p := ⟨m, 11, none⟩) hL _)
      have HS5 := Lib.hid hs5
      have dm5 : m < w5.heap.size := by rw [hs5]; omega
      clear hs6 hk6 hl6 hmp6 hmp5 k5 hs5 c11 c12 f11 hw5
      refine wp_region_held_drew (S := fun w' => w'.cell? ⟨m, 12, none⟩ = some (.map (some mb)) ∧ w'.cell? ⟨m, 11, none⟩ = some (.int .i64 ((md : Int) + 1))) (by kernel_rfl) ?_ (fun hHeld => ?_)
      · exact ⟨d12, d11⟩
      refine wpAnyH_take (i := 0) (v := ?_) rfl (by kernel_rfl) (by kernel_rfl) (by kernel_rfl) (fun _ _ _ h => h) (Or.inl ⟨by kernel_rfl, ?_⟩) (by assumption) ?_
      rotate_left
      · (intro w hSw; (try dsimp only at hSw); go_simp)
        try (with_reducible rfl)
      rotate_left
      try simp (maxSteps := 4000000) only [Act.put, List.setIfInBounds_toArray, List.set_cons_zero, List.set_cons_succ, List.getElem_toArray, List.getElem_cons_zero, List.getElem_cons_succ]
      refine wpAnyH_take (i := 1) (v := ?_) rfl (by kernel_rfl) (by kernel_rfl) (by kernel_rfl) (fun _ _ _ h => h) (Or.inl ⟨by kernel_rfl, ?_⟩) (by assumption) ?_
      rotate_left
      · (intro w hSw; (try dsimp only at hSw); go_simp)
        try (with_reducible rfl)
      rotate_left
      try simp (maxSteps := 4000000) only [Act.put, List.setIfInBounds_toArray, List.set_cons_zero, List.set_cons_succ, List.getElem_toArray, List.getElem_cons_zero, List.getElem_cons_succ]
      refine wpAnyH_take (i := 2) (v := ?_) rfl (by kernel_rfl) (by kernel_rfl) (by kernel_rfl) (fun _ _ _ h => h) (Or.inl ⟨by kernel_rfl, ?_⟩) (by assumption) ?_
      rotate_left
      · (intro w hSw; (try dsimp only at hSw); go_simp)
        try (with_reducible rfl)
      rotate_left
      try simp (maxSteps := 4000000) only [Act.put, List.setIfInBounds_toArray, List.set_cons_zero, List.set_cons_succ, List.getElem_toArray, List.getElem_cons_zero, List.getElem_cons_succ]
      refine wpAnyH_take (i := 3) (v := ?_) rfl (by kernel_rfl) (by kernel_rfl) (by kernel_rfl) (fun _ _ _ h => h) (Or.inl ⟨by kernel_rfl, ?_⟩) (by assumption) ?_
      rotate_left
      · (intro w hSw; (try dsimp only at hSw); go_simp)
        try (with_reducible rfl)
      rotate_left
      try simp (maxSteps := 4000000) only [Act.put, List.setIfInBounds_toArray, List.set_cons_zero, List.set_cons_succ, List.getElem_toArray, List.getElem_cons_zero, List.getElem_cons_succ]
      refine wpAnyH_take (i := 4) (v := ?_) rfl (by kernel_rfl) (by kernel_rfl) (by kernel_rfl) (fun _ _ _ h => h) (Or.inl ⟨by kernel_rfl, ?_⟩) (by assumption) ?_
      rotate_left
      · (intro w hSw; (try dsimp only at hSw); go_simp)
        try (with_reducible rfl)
      rotate_left
      try simp (maxSteps := 4000000) only [Act.put, List.setIfInBounds_toArray, List.set_cons_zero, List.set_cons_succ, List.getElem_toArray, List.getElem_cons_zero, List.getElem_cons_succ]
      refine wpAnyH_take (i := 5) (v := ?_) rfl (by kernel_rfl) (by kernel_rfl) (by kernel_rfl) (fun _ _ _ h => h) (Or.inl ⟨by kernel_rfl, ?_⟩) (by assumption) ?_
      rotate_left
      · (intro w hSw; (try dsimp only at hSw); go_simp)
        try (with_reducible rfl)
      rotate_left
      try simp (maxSteps := 4000000) only [Act.put, List.setIfInBounds_toArray, List.set_cons_zero, List.set_cons_succ, List.getElem_toArray, List.getElem_cons_zero, List.getElem_cons_succ]
      refine wpAnyH_take (i := 6) (v := ?_) rfl (by kernel_rfl) (by kernel_rfl) (by kernel_rfl) (fun _ _ _ h => h) (Or.inl ⟨by kernel_rfl, ?_⟩) (by assumption) ?_
      rotate_left
      · (intro w hSw; (try dsimp only at hSw); go_simp)
        try (with_reducible rfl)
      rotate_left
      try simp (maxSteps := 4000000) only [Act.put, List.setIfInBounds_toArray, List.set_cons_zero, List.set_cons_succ, List.getElem_toArray, List.getElem_cons_zero, List.getElem_cons_succ]
      refine wpAnyH_take (i := 7) (v := ?_) rfl (by kernel_rfl) (by kernel_rfl) (by kernel_rfl) (fun _ _ _ h => h) (Or.inl ⟨by kernel_rfl, ?_⟩) (by assumption) ?_
      rotate_left
      · (intro w hSw; (try dsimp only at hSw); go_simp)
        try (with_reducible rfl)
      rotate_left
      try simp (maxSteps := 4000000) only [Act.put, List.setIfInBounds_toArray, List.set_cons_zero, List.set_cons_succ, List.getElem_toArray, List.getElem_cons_zero, List.getElem_cons_succ]
      refine wpAnyH_take (i := 8) (v := ?_) rfl (by kernel_rfl) (by kernel_rfl) (by kernel_rfl) (fun _ _ _ h => h) (Or.inl ⟨by kernel_rfl, ?_⟩) (by assumption) ?_
      rotate_left
      · (intro w hSw; (try dsimp only at hSw); go_simp)
        try (with_reducible rfl)
      rotate_left
      try simp (maxSteps := 4000000) only [Act.put, List.setIfInBounds_toArray, List.set_cons_zero, List.set_cons_succ, List.getElem_toArray, List.getElem_cons_zero, List.getElem_cons_succ]
      refine wpAnyH_ready (rs := [9]) (by kernel_rfl) (by simp) ?_
      refine AllReadyH.cons rfl (fun K2 hK2 => ?_) AllReadyH.nil
      go_simp
      have k12 : w6.cell? ⟨m, 12, none⟩ = some (.map (some mb)) := (World.cell?_of_block (HS6.out.2.1 m hmr.1)).trans d12
      have k11 : w6.cell? ⟨m, 11, none⟩ = some (.int .i64 ((md : Int) + 1)) := (World.cell?_of_block (HS6.out.2.1 m hmr.1)).trans d11
      refine hK2.out _ _ (⟨k12, k11⟩) (fun hHeld2 => ?_)
      clear hK2 K2 hHeld
      have hHeld := hHeld2
      clear hHeld2
      try simp (maxSteps := 4000000) only [Act.put, List.setIfInBounds_toArray, List.set_cons_zero, List.set_cons_succ]
      refine wpAnyH_done (by kernel_rfl) ?_ _
      have hk6 : ∀ i, i ≠ m → i ≠ mb → w6.heap[i]? = wr.heap[i]? := fun i h1 h2 => (HS6.out.2.1 i h2).trans (K5.out i h1)
      have hsz6 : w6.heap.size = N + 3 := by rw [HS6.out.1]; exact HS5.out.trans hszr
      have hy6 : ∀ o, o < 5 → w6.cell? ⟨W.heap.size, o, none⟩ = some (.int .i64 0) ∧ w6.frozen? ⟨W.heap.size, o, none⟩ = false := fun o ho => by
        have e5 : w6.heap[W.heap.size]? = w3.heap[W.heap.size]? := (hk6 _ (by omega) (by omega)).trans (HSJ.out.2 _ (by omega))
        exact ⟨(World.cell?_of_block e5).trans (HY3.out o ho).1, (World.frozen?_of_block e5).trans (HY3.out o ho).2⟩
      have y0 := (hy6 0 (by decide)).1
      have y1 := (hy6 1 (by decide)).1
      have y2 := (hy6 2 (by decide)).1
      have y3 := (hy6 3 (by decide)).1
      have y4 := (hy6 4 (by decide)).1
      have z0 := (hy6 0 (by decide)).2
      have z1 := (hy6 1 (by decide)).2
      have z2 := (hy6 2 (by decide)).2
      have z3 := (hy6 3 (by decide)).2
      have z4 := (hy6 4 (by decide)).2
      have HK6 := Lib.hid hk6
      clear hy6 hk6
      have HM6 : Hid (MO m mb r C (md + 1) (ch ++ [((md : Int) + 1, N + 1 + 1)]) rs w6) := Lib.hid (by
        have km5 : ∀ o, o ≠ 11 → w6.cell? ⟨m, o, none⟩ = wr.cell? ⟨m, o, none⟩ := fun o ho => by
          rw [World.cell?_of_block (HS6.out.2.1 m hmr.1)]
          exact KM5.out o ho
        have kr : w6.heap[r]? = wr.heap[r]? := HK6.out r (Ne.symm hmr.2.1) (Ne.symm hmr.2.2)
        have hcf := HO.out.cf
        obtain ⟨q0, q1, q2, q3, q4, q5, q6, q7, q8, q9, q10⟩ := hcf
        refine ⟨⟨by omega, by omega, hmr⟩, ⟨(km5 0 (by decide)).trans q0, (km5 1 (by decide)).trans q1, (km5 2 (by decide)).trans q2, (km5 3 (by decide)).trans q3, (km5 4 (by decide)).trans q4, (km5 5 (by decide)).trans q5, (km5 6 (by decide)).trans q6, (km5 7 (by decide)).trans q7, (km5 8 (by decide)).trans q8, (km5 9 (by decide)).trans q9, (km5 10 (by decide)).trans q10⟩, by rw [k11]; simp, k12, (km5 13 (by decide)).trans HO.out.c13, fun o => ⟨?_, (World.frozen?_of_block kr).trans (HO.out.fz o).2⟩, HMP6.out, fun i q hq => (HO.out.rg i q hq).keep kr, ⟨HO.out.ok.1, HO.out.ok.2.1, by omega⟩, HO.out.i64⟩
        rw [World.frozen?_of_block (HS6.out.2.1 m hmr.1)]
        exact (KF5.out o).trans (HO.out.fz o).1)
      have HC6 : Hid (CkAt (N + 1 + 1) N (N + 1) j f w6) := Lib.hid (by
        have kq : w6.heap[N + 1 + 1]? = w3.heap[N + 1 + 1]? := (HK6.out _ (by omega) (by omega)).trans (HSJ.out.2 _ (by omega))
        have kd : w6.heap[N]? = wr.heap[N]? := HK6.out _ (by omega) (by omega)
        exact ⟨⟨R, (World.cell?_of_block kq).trans HQ0.out.1, (World.cell?_of_block kq).trans HQ0.out.2.1, (World.cell?_of_block kq).trans HQ0.out.2.2⟩, fun i hi => (World.cell?_of_block kd).trans ((HFJ.out i hi).1 hi)⟩)
      have HL6 : Hid (∀ L, L ≤ m → L ≤ mb → L ≤ W.heap.size → Below L W w6) := Lib.hid (fun L h1 h2 h3 => ((HWw.out.mono h3).trans (HL5.out L h1)).trans (((Below.refl L w5).drew).trans (HS6.out.2.2 L h2 (by show L ≤ w5.heap.size; omega))))
      have HF6 : Hid (∀ i, i < W.heap.size → i ≠ m → i ≠ mb → w6.heap[i]? = W.heap[i]?) := Lib.hid (fun i h1 h2 h3 => (HK6.out i h2 h3).trans (HWw.out.block i h1))
      go_wp2_with fail
      refine bodyPost_ret (v := .tuple #[.agg #[.int .i64 ((md : Int) + 1), .int .i64 0, .int .i64 (j : Int), .int .i64 0, .int .i64 31], rE 0]) (by simp [results, Try.results39, go_sem, y0, y1, y2, y3, y4]) rfl ⟨rfl, ?_⟩
      obtain ⟨w7, hw7, hB7⟩ : ∃ w7, w7 = _ ∧ Below W.heap.size w6 w7 := ⟨_, rfl, (Below.refl W.heap.size w6).setCell (p := ⟨W.heap.size, 0, none⟩) (Nat.le_refl _) (.int .i64 ((md : Int) + 1)) |>.setCell (p := ⟨W.heap.size, 1, none⟩) (Nat.le_refl _) (.int .i64 0) |>.setCell (p := ⟨W.heap.size, 2, none⟩) (Nat.le_refl _) (.int .i64 (j : Int)) |>.setCell (p := ⟨W.heap.size, 3, none⟩) (Nat.le_refl _) (.int .i64 0) |>.setCell (p := ⟨W.heap.size, 4, none⟩) (Nat.le_refl _) (.int .i64 31)⟩
      have hk7 : ∀ i, i ≠ W.heap.size → w7.heap[i]? = w6.heap[i]? := fun i hi => by rw [hw7]; simp only [heap_other _ _ _ _ _ hi]
      have hs7 : w7.heap.size = w6.heap.size := by rw [hw7]; simp only [size_set]
      rw [← hw7]
      refine ⟨⟨N + 1 + 1, N, N + 1, HM6.out.keep (by omega) (hk7 m (by omega)) (hk7 mb (by omega)) (hk7 r (by omega)), ?_, by omega, by omega, by omega, by omega⟩, by omega, fun i h1 h2 h3 => (hB7.block i h1).trans (HF6.out i h1 h2 h3), fun L h1 h2 h3 => (HL6.out L h1 h2 h3).trans (hB7.mono h3)⟩
      obtain ⟨⟨R', q1, q2, q3⟩, q4⟩ := HC6.out
      have e7 := hk7 (N + 1 + 1) (by omega)
      have e8 := hk7 N (by omega)
      exact ⟨⟨R', (World.cell?_of_block e7).trans q1, (World.cell?_of_block e7).trans q2, (World.cell?_of_block e7).trans q3⟩, fun i hi => (World.cell?_of_block e8).trans (q4 i hi)⟩
end
end Go.Proofs.Ytanmmhbnjmglhaa
