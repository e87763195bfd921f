/- Dice: Op. -/
import Derived.Test.YtahggokeelgjdaaDiD
import Derived.Deep.RegionHeld3
namespace Go.Proofs.Ytahggokeelgjdaa
open Go.RowKit
set_option linter.unusedVariables false
set_option linter.unusedSimpArgs false

theorem al8a {x g y : Nat} {W w : World} {th re mo : Int} (h : ST3 x g y W th re mo w) : ∃ z wz, w.heap.size = z ∧ (w.alloc (.cells #[.int .i64 0, .int .i64 0, .int .i64 0, .int .i64 0, .int .i64 0, .int .i64 0, .int .i64 0, .slice none 0 0] 25)).drew = wz ∧ Hid (OpAt z wz 0 0 0 0 0 0 0 (.slice none 0 0)) ∧ z < wz.heap.size ∧ ST3 x g y W th re mo wz :=
  ⟨_, _, rfl, rfl, (OpAt.new w 0 0 0 0 0 0 0 (.slice none 0 0) 25).below (Below.refl _ _).drew, by simp [World.drew], h.below (alc0 w _).drew⟩
theorem al8b {x g y : Nat} {W w : World} {th re mo : Int} (h : ST3 x g y W th re mo w) : ∃ z wz, w.heap.size = z ∧ w.alloc (.cells #[.int .i64 0, .int .i64 0, .int .i64 0, .int .i64 0, .int .i64 0, .int .i64 0, .int .i64 0, .slice none 0 0] 25) = wz ∧ Hid (OpAt z wz 0 0 0 0 0 0 0 (.slice none 0 0)) ∧ z < wz.heap.size ∧ ST3 x g y W th re mo wz :=
  ⟨_, _, rfl, rfl, OpAt.new w 0 0 0 0 0 0 0 (.slice none 0 0) 25, by simp, h.below (alc0 w _)⟩
set_option maxRecDepth 100000 in
set_option maxHeartbeats 40000000 in
theorem dop (g s : Nat) (pg rg lg th ca ba sh re mo fi key : Int) (W : World) (h : DC g s W) (hth : 1 ≤ th ∧ th ≤ 1048576) (hre : 1 ≤ re ∧ re ≤ 1048576) (hmo : 1 ≤ mo ∧ mo ≤ 1048576) :
    Calls Try.prog 39 #[.pointer (some ⟨g, 0, none⟩), .agg #[.int .i64 pg, .int .i64 rg, .int .i64 lg, .int .i64 th, .int .i64 ca, .int .i64 ba, .int .i64 sh, .int .i64 re, .int .i64 mo, .int .i64 fi, .int .u64 key]] W fun e w' => ∃ (k t a b v n m : Int) (A : Option Addr) (l c : Nat), e = .returned (.agg #[.int .i64 k, .int .i64 t, .int .i64 a, .int .i64 b, .int .i64 v, .int .i64 n, .int .i64 m, .slice A l c]) ∧ ∃ s', DP g s' W w' := by
  have H := Lib.hid h
  have hgW := h.1
  clear h
  go_enter Try.func39, Try.ntmps39
  go_upto_region 1 with (fail)
  obtain ⟨x3, hx3⟩ : ∃ x3, W.heap.size = x3 := ⟨_, rfl⟩
  obtain ⟨x4, hx4⟩ : ∃ x4, x3 + 1 = x4 := ⟨_, rfl⟩
  obtain ⟨w0, hw0⟩ : ∃ w0, (W.alloc (.cells #[.int .i64 pg, .int .i64 rg, .int .i64 lg, .int .i64 th, .int .i64 ca, .int .i64 ba, .int .i64 sh, .int .i64 re, .int .i64 mo, .int .i64 fi, .int .u64 key] 59)).alloc (.cells #[.int .i64 0, .int .i64 0, .int .i64 0, .int .i64 0, .int .i64 0, .int .i64 0, .int .i64 0, .slice none 0 0] 25) = w0 := ⟨_, rfl⟩
  have HST : Hid (ST3 x3 g x4 W th re mo w0) := Lib.hid (by
    have hB : Below W.heap.size W w0 := by rw [← hw0]; exact alc (alc0 _ _) _
    have hO := OpAt.new (W.alloc (.cells #[.int .i64 pg, .int .i64 rg, .int .i64 lg, .int .i64 th, .int .i64 ca, .int .i64 ba, .int .i64 sh, .int .i64 re, .int .i64 mo, .int .i64 fi, .int .u64 key] 59)) 0 0 0 0 0 0 0 (.slice none 0 0) 25
    rw [hw0, show (W.alloc (.cells #[.int .i64 pg, .int .i64 rg, .int .i64 lg, .int .i64 th, .int .i64 ca, .int .i64 ba, .int .i64 sh, .int .i64 re, .int .i64 mo, .int .i64 fi, .int .u64 key] 59)).heap.size = x4 by simp; omega] at hO
    refine ⟨⟨?_, ?_, ?_⟩, ⟨⟨s, (DP.start H.out).below hB⟩, hO, by omega, by omega, by rw [← hw0, ← hx3]; simp; omega, by omega, by omega, hgW⟩⟩
    · rw [← hw0, ← hx3]; simp
    · rw [← hw0, ← hx3]; simp
    · rw [← hw0, ← hx3]; simp)
  have hx4' : W.heap.size + 1 = x4 := by omega
  try rw [hw0]
  try simp only [hx4']
  try rw [hx4']
  try rw [hx3]
  clear hw0 hx4' H
  have HX := Lib.hid (And.intro hx3 hx4)
  clear hx3 hx4
  go_cut [5] (fun v5 wx => ∃ (z : Nat) (k t a b v : Int), v5 = .pointer (some ⟨z, 0, none⟩) ∧ Hid (OpAt z wx k t a b v 0 0 (.slice none 0 0) ∧ z ≠ g ∧ x3 ≠ z ∧ x4 ≠ z ∧ W.heap.size ≤ z) ∧ ST3 x3 g x4 W th re mo wx)
  case first =>
    refine wp_region_held_drew (S := fun w' => (w'.cell? ⟨x3, 3, none⟩ = some (.int .i64 th) ∧ w'.cell? ⟨x3, 7, none⟩ = some (.int .i64 re) ∧ w'.cell? ⟨x3, 8, none⟩ = some (.int .i64 mo)) ∧ Hid ((∃ s, DP g s W w') ∧ OpAt x4 w' 0 0 0 0 0 0 0 (.slice none 0 0) ∧ x3 ≠ g ∧ x4 ≠ g ∧ x3 < w'.heap.size ∧ W.heap.size ≤ x3 ∧ W.heap.size ≤ x4 ∧ g < W.heap.size)) (by kernel_rfl) ?_ (fun hHeld => ?_)
    · exact HST.out.drw
    refine wpAnyH_take (i := 0) (v := ?_) rfl (by kernel_rfl) (by kernel_rfl) (by kernel_rfl) (fun _ _ _ h => h) (Or.inl ⟨by kernel_rfl, ?_⟩) (by assumption) ?_
    rotate_left
    · (intro w hSw; (try dsimp only at hSw); go_simp)
      try (with_reducible rfl)
    rotate_left
    try simp (maxSteps := 4000000) only [Act.put, List.setIfInBounds_toArray, List.set_cons_zero, List.set_cons_succ, List.getElem_toArray, List.getElem_cons_zero, List.getElem_cons_succ]
    refine wpAnyH_take (i := 3) (v := ?_) rfl (by kernel_rfl) (by kernel_rfl) (by kernel_rfl) (fun _ _ _ h => h) (Or.inl ⟨by kernel_rfl, ?_⟩) (by assumption) ?_
    rotate_left
    · (intro w hSw; (try dsimp only at hSw); go_simp)
      try (with_reducible rfl)
    rotate_left
    try simp (maxSteps := 4000000) only [Act.put, List.setIfInBounds_toArray, List.set_cons_zero, List.set_cons_succ, List.getElem_toArray, List.getElem_cons_zero, List.getElem_cons_succ]
    refine wpAnyH_take (i := 4) (v := ?_) rfl (by kernel_rfl) (by kernel_rfl) (by kernel_rfl) (fun _ _ _ h => h) (Or.inl ⟨by kernel_rfl, ?_⟩) (by assumption) ?_
    rotate_left
    · (intro w hSw; (try dsimp only at hSw); go_simp)
      try (with_reducible rfl)
    rotate_left
    try simp (maxSteps := 4000000) only [Act.put, List.setIfInBounds_toArray, List.set_cons_zero, List.set_cons_succ, List.getElem_toArray, List.getElem_cons_zero, List.getElem_cons_succ]
    refine wpAnyH_take (i := 5) (v := ?_) rfl (by kernel_rfl) (by kernel_rfl) (by kernel_rfl) (fun _ _ _ h => h) (Or.inl ⟨by kernel_rfl, ?_⟩) (by assumption) ?_
    rotate_left
    · (intro w hSw; (try dsimp only at hSw); go_simp)
      try (with_reducible rfl)
    rotate_left
    try simp (maxSteps := 4000000) only [Act.put, List.setIfInBounds_toArray, List.set_cons_zero, List.set_cons_succ, List.getElem_toArray, List.getElem_cons_zero, List.getElem_cons_succ]
    refine wpAnyH_take (i := 7) (v := ?_) rfl (by kernel_rfl) (by kernel_rfl) (by kernel_rfl) (fun _ _ _ h => h) (Or.inl ⟨by kernel_rfl, ?_⟩) (by assumption) ?_
    rotate_left
    · (intro w hSw; (try dsimp only at hSw); go_simp)
      try (with_reducible rfl)
    rotate_left
    try simp (maxSteps := 4000000) only [Act.put, List.setIfInBounds_toArray, List.set_cons_zero, List.set_cons_succ, List.getElem_toArray, List.getElem_cons_zero, List.getElem_cons_succ]
    refine wpAnyH_take (i := 8) (v := ?_) rfl (by kernel_rfl) (by kernel_rfl) (by kernel_rfl) (fun _ _ _ h => h) (Or.inl ⟨by kernel_rfl, ?_⟩) (by assumption) ?_
    rotate_left
    · (intro w hSw; (try dsimp only at hSw); go_simp)
      try (with_reducible rfl)
    rotate_left
    try simp (maxSteps := 4000000) only [Act.put, List.setIfInBounds_toArray, List.set_cons_zero, List.set_cons_succ, List.getElem_toArray, List.getElem_cons_zero, List.getElem_cons_succ]
    refine wpAnyH_take (i := 9) (v := ?_) rfl (by kernel_rfl) (by kernel_rfl) (by kernel_rfl) (fun _ _ _ h => h) (Or.inl ⟨by kernel_rfl, ?_⟩) (by assumption) ?_
    rotate_left
    · (intro w hSw; (try dsimp only at hSw); go_simp)
      try (with_reducible rfl)
    rotate_left
    try simp (maxSteps := 4000000) only [Act.put, List.setIfInBounds_toArray, List.set_cons_zero, List.set_cons_succ, List.getElem_toArray, List.getElem_cons_zero, List.getElem_cons_succ]
    refine wpAnyH_take (i := 11) (v := ?_) rfl (by kernel_rfl) (by kernel_rfl) (by kernel_rfl) (fun _ _ _ h => h) (Or.inl ⟨by kernel_rfl, ?_⟩) (by assumption) ?_
    rotate_left
    · (intro w hSw; (try dsimp only at hSw); go_simp)
      try (with_reducible rfl)
    rotate_left
    try simp (maxSteps := 4000000) only [Act.put, List.setIfInBounds_toArray, List.set_cons_zero, List.set_cons_succ, List.getElem_toArray, List.getElem_cons_zero, List.getElem_cons_succ]
    refine wpAnyH_take (i := 12) (v := ?_) rfl (by kernel_rfl) (by kernel_rfl) (by kernel_rfl) (fun _ _ _ h => h) (Or.inl ⟨by kernel_rfl, ?_⟩) (by assumption) ?_
    rotate_left
    · (intro w hSw; (try dsimp only at hSw); go_simp)
      try (with_reducible rfl)
    rotate_left
    try simp (maxSteps := 4000000) only [Act.put, List.setIfInBounds_toArray, List.set_cons_zero, List.set_cons_succ, List.getElem_toArray, List.getElem_cons_zero, List.getElem_cons_succ]
    refine wpAnyH_take (i := 13) (v := ?_) rfl (by kernel_rfl) (by kernel_rfl) (by kernel_rfl) (fun _ _ _ h => h) (Or.inl ⟨by kernel_rfl, ?_⟩) (by assumption) ?_
    rotate_left
    · (intro w hSw; (try dsimp only at hSw); go_simp)
      try (with_reducible rfl)
    rotate_left
    try simp (maxSteps := 4000000) only [Act.put, List.setIfInBounds_toArray, List.set_cons_zero, List.set_cons_succ, List.getElem_toArray, List.getElem_cons_zero, List.getElem_cons_succ]
    refine wpAnyH_take (i := 15) (v := ?_) rfl (by kernel_rfl) (by kernel_rfl) (by kernel_rfl) (fun _ _ _ h => h) (Or.inl ⟨by kernel_rfl, ?_⟩) (by assumption) ?_
    rotate_left
    · (intro w hSw; (try dsimp only at hSw); go_simp)
      try (with_reducible rfl)
    rotate_left
    try simp (maxSteps := 4000000) only [Act.put, List.setIfInBounds_toArray, List.set_cons_zero, List.set_cons_succ, List.getElem_toArray, List.getElem_cons_zero, List.getElem_cons_succ]
    refine wpAnyH_take (i := 16) (v := ?_) rfl (by kernel_rfl) (by kernel_rfl) (by kernel_rfl) (fun _ _ _ h => h) (Or.inl ⟨by kernel_rfl, ?_⟩) (by assumption) ?_
    rotate_left
    · (intro w hSw; (try dsimp only at hSw); go_simp)
      try (with_reducible rfl)
    rotate_left
    try simp (maxSteps := 4000000) only [Act.put, List.setIfInBounds_toArray, List.set_cons_zero, List.set_cons_succ, List.getElem_toArray, List.getElem_cons_zero, List.getElem_cons_succ]
    refine wpAnyH_take (i := 17) (v := ?_) rfl (by kernel_rfl) (by kernel_rfl) (by kernel_rfl) (fun _ _ _ h => h) (Or.inl ⟨by kernel_rfl, ?_⟩) (by assumption) ?_
    rotate_left
    · (intro w hSw; (try dsimp only at hSw); go_simp)
      try (with_reducible rfl)
    rotate_left
    try simp (maxSteps := 4000000) only [Act.put, List.setIfInBounds_toArray, List.set_cons_zero, List.set_cons_succ, List.getElem_toArray, List.getElem_cons_zero, List.getElem_cons_succ]
    refine wpAnyH_ready (rs := [1, 20]) (by kernel_rfl) (by simp) ?_
    refine AllReadyH.cons rfl (fun K2 hK2 => ?_) (AllReadyH.cons rfl (fun K2 hK2 => ?_) AllReadyH.nil)
    all_goals go_simp
    · have hS : ST3 x3 g x4 W th re mo _ := hHeld
      obtain ⟨sN, hN⟩ := hS.dc
      with_reducible refine Calls.mono (duptoP g sN 100 _ hN (by decide)) ?_
      rintro e wn ⟨r0, rfl, -, sn, hd⟩
      refine hK2.out _ _ ?_ (fun hHeld2 => ?_)
      · exact hS.dp hd
      clear hN hd hS
      clear hK2 K2 hHeld
      have hHeld := hHeld2
      clear hHeld2
      try simp (maxSteps := 4000000) only [Act.put, List.setIfInBounds_toArray, List.set_cons_zero, List.set_cons_succ]
      refine wpAnyH_ready (rs := [2, 20]) (by kernel_rfl) (by simp) ?_
      refine AllReadyH.cons rfl (fun K2 hK2 => ?_) (AllReadyH.cons rfl (fun K2 hK2 => ?_) AllReadyH.nil)
      all_goals go_simp
      · have hS : ST3 x3 g x4 W th re mo _ := hHeld
        with_reducible refine Calls.mono (dkinds _ _) ?_
        rintro e wn ⟨r1, rfl, hb⟩
        refine hK2.out _ _ ?_ (fun hHeld2 => ?_)
        · exact hS.below hb
        clear hb hS
        clear hK2 K2 hHeld
        have hHeld := hHeld2
        clear hHeld2
        try simp (maxSteps := 4000000) only [Act.put, List.setIfInBounds_toArray, List.set_cons_zero, List.set_cons_succ]
        refine wpAnyH_ready (rs := [6, 20]) (by kernel_rfl) (by simp) ?_
        refine AllReadyH.cons rfl (fun K2 hK2 => ?_) (AllReadyH.cons rfl (fun K2 hK2 => ?_) AllReadyH.nil)
        all_goals go_simp
        · have hS : ST3 x3 g x4 W th re mo _ := hHeld
          obtain ⟨sN, hN⟩ := hS.dc
          with_reducible refine Calls.mono (dnear g sN th _ hN hth) ?_
          rintro e wn ⟨r2, rfl, -, sn, hd⟩
          refine hK2.out _ _ ?_ (fun hHeld2 => ?_)
          · exact hS.dp hd
          clear hN hd hS
          clear hK2 K2 hHeld
          have hHeld := hHeld2
          clear hHeld2
          try simp (maxSteps := 4000000) only [Act.put, List.setIfInBounds_toArray, List.set_cons_zero, List.set_cons_succ]
          refine wpAnyH_ready (rs := [10, 20]) (by kernel_rfl) (by simp) ?_
          refine AllReadyH.cons rfl (fun K2 hK2 => ?_) (AllReadyH.cons rfl (fun K2 hK2 => ?_) AllReadyH.nil)
          all_goals go_simp
          · have hS : ST3 x3 g x4 W th re mo _ := hHeld
            obtain ⟨sN, hN⟩ := hS.dc
            with_reducible refine Calls.mono (dnear g sN re _ hN hre) ?_
            rintro e wn ⟨r3, rfl, -, sn, hd⟩
            refine hK2.out _ _ ?_ (fun hHeld2 => ?_)
            · exact hS.dp hd
            clear hN hd hS
            clear hK2 K2 hHeld
            have hHeld := hHeld2
            clear hHeld2
            try simp (maxSteps := 4000000) only [Act.put, List.setIfInBounds_toArray, List.set_cons_zero, List.set_cons_succ]
            refine wpAnyH_ready (rs := [14, 20]) (by kernel_rfl) (by simp) ?_
            refine AllReadyH.cons rfl (fun K2 hK2 => ?_) (AllReadyH.cons rfl (fun K2 hK2 => ?_) AllReadyH.nil)
            all_goals go_simp
            · have hS : ST3 x3 g x4 W th re mo _ := hHeld
              obtain ⟨sN, hN⟩ := hS.dc
              with_reducible refine Calls.mono (dnear g sN re _ hN hre) ?_
              rintro e wn ⟨r4, rfl, -, sn, hd⟩
              refine hK2.out _ _ ?_ (fun hHeld2 => ?_)
              · exact hS.dp hd
              clear hN hd hS
              clear hK2 K2 hHeld
              have hHeld := hHeld2
              clear hHeld2
              try simp (maxSteps := 4000000) only [Act.put, List.setIfInBounds_toArray, List.set_cons_zero, List.set_cons_succ]
              refine wpAnyH_ready (rs := [18, 20]) (by kernel_rfl) (by simp) ?_
              refine AllReadyH.cons rfl (fun K2 hK2 => ?_) (AllReadyH.cons rfl (fun K2 hK2 => ?_) AllReadyH.nil)
              all_goals go_simp
              · have hS : ST3 x3 g x4 W th re mo _ := hHeld
                obtain ⟨sN, hN⟩ := hS.dc
                with_reducible refine Calls.mono (dnear g sN re _ hN hre) ?_
                rintro e wn ⟨r5, rfl, -, sn, hd⟩
                refine hK2.out _ _ ?_ (fun hHeld2 => ?_)
                · exact hS.dp hd
                clear hN hd hS
                clear hK2 K2 hHeld
                have hHeld := hHeld2
                clear hHeld2
                try simp (maxSteps := 4000000) only [Act.put, List.setIfInBounds_toArray, List.set_cons_zero, List.set_cons_succ]
                refine wpAnyH_take (i := 19) (v := ?_) rfl (by kernel_rfl) (by kernel_rfl) (by kernel_rfl) (fun _ _ _ h => h) (Or.inl ⟨by kernel_rfl, ?_⟩) (by assumption) ?_
                rotate_left
                · (intro w hSw; (try dsimp only at hSw); go_simp)
                  try (with_reducible rfl)
                rotate_left
                try simp (maxSteps := 4000000) only [Act.put, List.setIfInBounds_toArray, List.set_cons_zero, List.set_cons_succ, List.getElem_toArray, List.getElem_cons_zero, List.getElem_cons_succ]
                refine wpAnyH_ready (rs := [20]) (by kernel_rfl) (by simp) ?_
                refine AllReadyH.cons rfl (fun K2 hK2 => ?_) AllReadyH.nil
                go_simp
                have hS : ST3 x3 g x4 W th re mo _ := hHeld
                have hlz := hS.lt
                obtain ⟨z, wz, hz, hwz, HZ, hszz, hst⟩ := al8b hS
                rw [hwz, hz]
                clear hwz
                have hzg : z ≠ g := by omega
                have hzx : x3 ≠ z := by omega
                have hzy : x4 ≠ z := by omega
                have hzW : W.heap.size ≤ z := by omega
                have hgz : g ≠ z := by omega
                clear hz hlz hszz hS
                refine hK2.out _ _ hst (fun hHeld2 => ?_)
                clear hst
                clear hK2 K2 hHeld
                have hHeld := hHeld2
                clear hHeld2
                try simp (maxSteps := 4000000) only [Act.put, List.setIfInBounds_toArray, List.set_cons_zero, List.set_cons_succ]
                obtain ⟨_, ⟨k0, k1, k2, k3, k4, k5, k6, k7⟩, kf⟩ := HZ.out
                have hzw := HZ.out.1
                have kf0 := kf 0 (by decide)
                have kf1 := kf 1 (by decide)
                have kf2 := kf 2 (by decide)
                have kf3 := kf 3 (by decide)
                have kf4 := kf 4 (by decide)
                have kf5 := kf 5 (by decide)
                have kf6 := kf 6 (by decide)
                have kf7 := kf 7 (by decide)
                clear kf
                refine wpAnyH_ready (rs := [21]) (by kernel_rfl) (by simp) ?_
                refine AllReadyH.cons rfl (fun K2 hK2 => ?_) AllReadyH.nil
                go_simp
                obtain ⟨ws, hws, hzs, hks⟩ := op_store HZ.out r1 r2 r3 r4 r5 0 0 (.slice none 0 0)
                rw [hws]
                have HZS := Lib.hid hzs
                refine hK2.out _ _ ?_ (fun hHeld2 => ?_)
                · exact ST3.low (x := x3) (g := g) (y := x4) (W := W) (th := th) (re := re) (mo := mo) hHeld hks hzx hzy hgz hzW
                clear k0 k1 k2 k3 k4 k5 k6 k7 kf0 kf1 kf2 kf3 kf4 kf5 kf6 kf7 hws hzs hks hzw HZ
                clear hK2 K2 hHeld
                have hHeld := hHeld2
                clear hHeld2
                try simp (maxSteps := 4000000) only [Act.put, List.setIfInBounds_toArray, List.set_cons_zero, List.set_cons_succ]
                refine wpAnyH_done (by kernel_rfl) ?_ _
                go_wp2_with fail
                go_meet
                exact ⟨z, r1, r2, r3, r4, r5, rfl, Lib.hid ⟨HZS.out, hzg, hzx, hzy, hzW⟩, hHeld⟩
              · have hS : ST3 x3 g x4 W th re mo _ := hHeld
                have hlz := hS.lt
                obtain ⟨z, wz, hz, hwz, HZ, hszz, hst⟩ := al8b hS
                rw [hwz, hz]
                clear hwz
                have hzg : z ≠ g := by omega
                have hzx : x3 ≠ z := by omega
                have hzy : x4 ≠ z := by omega
                have hzW : W.heap.size ≤ z := by omega
                have hgz : g ≠ z := by omega
                clear hz hlz hszz hS
                refine hK2.out _ _ hst (fun hHeld2 => ?_)
                clear hst
                clear hK2 K2 hHeld
                have hHeld := hHeld2
                clear hHeld2
                try simp (maxSteps := 4000000) only [Act.put, List.setIfInBounds_toArray, List.set_cons_zero, List.set_cons_succ]
                refine wpAnyH_ready (rs := [18]) (by kernel_rfl) (by simp) ?_
                refine AllReadyH.cons rfl (fun K2 hK2 => ?_) AllReadyH.nil
                go_simp
                have hS : ST3 x3 g x4 W th re mo _ := hHeld
                obtain ⟨sN, hN⟩ := hS.dc
                with_reducible refine Calls.mono (dnear g sN re _ hN hre) ?_
                rintro e wn ⟨r5, rfl, -, sn, hd⟩
                refine hK2.out _ _ ?_ (fun hHeld2 => ?_)
                · exact hS.dp hd
                have HZn := Lib.hid (HZ.out.kps hzg hd.2)
                clear HZ
                have HZ := HZn
                clear HZn
                clear hN hd hS
                clear hK2 K2 hHeld
                have hHeld := hHeld2
                clear hHeld2
                try simp (maxSteps := 4000000) only [Act.put, List.setIfInBounds_toArray, List.set_cons_zero, List.set_cons_succ]
                obtain ⟨_, ⟨k0, k1, k2, k3, k4, k5, k6, k7⟩, kf⟩ := HZ.out
                have hzw := HZ.out.1
                have kf0 := kf 0 (by decide)
                have kf1 := kf 1 (by decide)
                have kf2 := kf 2 (by decide)
                have kf3 := kf 3 (by decide)
                have kf4 := kf 4 (by decide)
                have kf5 := kf 5 (by decide)
                have kf6 := kf 6 (by decide)
                have kf7 := kf 7 (by decide)
                clear kf
                refine wpAnyH_take (i := 19) (v := ?_) rfl (by kernel_rfl) (by kernel_rfl) (by kernel_rfl) (fun _ _ _ h => h) (Or.inl ⟨by kernel_rfl, ?_⟩) (by assumption) ?_
                rotate_left
                · (intro w hSw; (try dsimp only at hSw); go_simp)
                  try (with_reducible rfl)
                rotate_left
                try simp (maxSteps := 4000000) only [Act.put, List.setIfInBounds_toArray, List.set_cons_zero, List.set_cons_succ, List.getElem_toArray, List.getElem_cons_zero, List.getElem_cons_succ]
                refine wpAnyH_ready (rs := [21]) (by kernel_rfl) (by simp) ?_
                refine AllReadyH.cons rfl (fun K2 hK2 => ?_) AllReadyH.nil
                go_simp
                obtain ⟨ws, hws, hzs, hks⟩ := op_store HZ.out r1 r2 r3 r4 r5 0 0 (.slice none 0 0)
                rw [hws]
                have HZS := Lib.hid hzs
                refine hK2.out _ _ ?_ (fun hHeld2 => ?_)
                · exact ST3.low (x := x3) (g := g) (y := x4) (W := W) (th := th) (re := re) (mo := mo) hHeld hks hzx hzy hgz hzW
                clear k0 k1 k2 k3 k4 k5 k6 k7 kf0 kf1 kf2 kf3 kf4 kf5 kf6 kf7 hws hzs hks hzw HZ
                clear hK2 K2 hHeld
                have hHeld := hHeld2
                clear hHeld2
                try simp (maxSteps := 4000000) only [Act.put, List.setIfInBounds_toArray, List.set_cons_zero, List.set_cons_succ]
                refine wpAnyH_done (by kernel_rfl) ?_ _
                go_wp2_with fail
                go_meet
                exact ⟨z, r1, r2, r3, r4, r5, rfl, Lib.hid ⟨HZS.out, hzg, hzx, hzy, hzW⟩, hHeld⟩
            · have hS : ST3 x3 g x4 W th re mo _ := hHeld
              have hlz := hS.lt
              obtain ⟨z, wz, hz, hwz, HZ, hszz, hst⟩ := al8b hS
              rw [hwz, hz]
              clear hwz
              have hzg : z ≠ g := by omega
              have hzx : x3 ≠ z := by omega
              have hzy : x4 ≠ z := by omega
              have hzW : W.heap.size ≤ z := by omega
              have hgz : g ≠ z := by omega
              clear hz hlz hszz hS
              refine hK2.out _ _ hst (fun hHeld2 => ?_)
              clear hst
              clear hK2 K2 hHeld
              have hHeld := hHeld2
              clear hHeld2
              try simp (maxSteps := 4000000) only [Act.put, List.setIfInBounds_toArray, List.set_cons_zero, List.set_cons_succ]
              refine wpAnyH_ready (rs := [14]) (by kernel_rfl) (by simp) ?_
              refine AllReadyH.cons rfl (fun K2 hK2 => ?_) AllReadyH.nil
              go_simp
              have hS : ST3 x3 g x4 W th re mo _ := hHeld
              obtain ⟨sN, hN⟩ := hS.dc
              with_reducible refine Calls.mono (dnear g sN re _ hN hre) ?_
              rintro e wn ⟨r4, rfl, -, sn, hd⟩
              refine hK2.out _ _ ?_ (fun hHeld2 => ?_)
              · exact hS.dp hd
              have HZn := Lib.hid (HZ.out.kps hzg hd.2)
              clear HZ
              have HZ := HZn
              clear HZn
              clear hN hd hS
              clear hK2 K2 hHeld
              have hHeld := hHeld2
              clear hHeld2
              try simp (maxSteps := 4000000) only [Act.put, List.setIfInBounds_toArray, List.set_cons_zero, List.set_cons_succ]
              refine wpAnyH_ready (rs := [18]) (by kernel_rfl) (by simp) ?_
              refine AllReadyH.cons rfl (fun K2 hK2 => ?_) AllReadyH.nil
              go_simp
              have hS : ST3 x3 g x4 W th re mo _ := hHeld
              obtain ⟨sN, hN⟩ := hS.dc
              with_reducible refine Calls.mono (dnear g sN re _ hN hre) ?_
              rintro e wn ⟨r5, rfl, -, sn, hd⟩
              refine hK2.out _ _ ?_ (fun hHeld2 => ?_)
              · exact hS.dp hd
              have HZn := Lib.hid (HZ.out.kps hzg hd.2)
              clear HZ
              have HZ := HZn
              clear HZn
              clear hN hd hS
              clear hK2 K2 hHeld
              have hHeld := hHeld2
              clear hHeld2
              try simp (maxSteps := 4000000) only [Act.put, List.setIfInBounds_toArray, List.set_cons_zero, List.set_cons_succ]
              obtain ⟨_, ⟨k0, k1, k2, k3, k4, k5, k6, k7⟩, kf⟩ := HZ.out
              have hzw := HZ.out.1
              have kf0 := kf 0 (by decide)
              have kf1 := kf 1 (by decide)
              have kf2 := kf 2 (by decide)
              have kf3 := kf 3 (by decide)
              have kf4 := kf 4 (by decide)
              have kf5 := kf 5 (by decide)
              have kf6 := kf 6 (by decide)
              have kf7 := kf 7 (by decide)
              clear kf
              refine wpAnyH_take (i := 19) (v := ?_) rfl (by kernel_rfl) (by kernel_rfl) (by kernel_rfl) (fun _ _ _ h => h) (Or.inl ⟨by kernel_rfl, ?_⟩) (by assumption) ?_
              rotate_left
              · (intro w hSw; (try dsimp only at hSw); go_simp)
                try (with_reducible rfl)
              rotate_left
              try simp (maxSteps := 4000000) only [Act.put, List.setIfInBounds_toArray, List.set_cons_zero, List.set_cons_succ, List.getElem_toArray, List.getElem_cons_zero, List.getElem_cons_succ]
              refine wpAnyH_ready (rs := [21]) (by kernel_rfl) (by simp) ?_
              refine AllReadyH.cons rfl (fun K2 hK2 => ?_) AllReadyH.nil
              go_simp
              obtain ⟨ws, hws, hzs, hks⟩ := op_store HZ.out r1 r2 r3 r4 r5 0 0 (.slice none 0 0)
              rw [hws]
              have HZS := Lib.hid hzs
              refine hK2.out _ _ ?_ (fun hHeld2 => ?_)
              · exact ST3.low (x := x3) (g := g) (y := x4) (W := W) (th := th) (re := re) (mo := mo) hHeld hks hzx hzy hgz hzW
              clear k0 k1 k2 k3 k4 k5 k6 k7 kf0 kf1 kf2 kf3 kf4 kf5 kf6 kf7 hws hzs hks hzw HZ
              clear hK2 K2 hHeld
              have hHeld := hHeld2
              clear hHeld2
              try simp (maxSteps := 4000000) only [Act.put, List.setIfInBounds_toArray, List.set_cons_zero, List.set_cons_succ]
              refine wpAnyH_done (by kernel_rfl) ?_ _
              go_wp2_with fail
              go_meet
              exact ⟨z, r1, r2, r3, r4, r5, rfl, Lib.hid ⟨HZS.out, hzg, hzx, hzy, hzW⟩, hHeld⟩
          · have hS : ST3 x3 g x4 W th re mo _ := hHeld
            have hlz := hS.lt
            obtain ⟨z, wz, hz, hwz, HZ, hszz, hst⟩ := al8b hS
            rw [hwz, hz]
            clear hwz
            have hzg : z ≠ g := by omega
            have hzx : x3 ≠ z := by omega
            have hzy : x4 ≠ z := by omega
            have hzW : W.heap.size ≤ z := by omega
            have hgz : g ≠ z := by omega
            clear hz hlz hszz hS
            refine hK2.out _ _ hst (fun hHeld2 => ?_)
            clear hst
            clear hK2 K2 hHeld
            have hHeld := hHeld2
            clear hHeld2
            try simp (maxSteps := 4000000) only [Act.put, List.setIfInBounds_toArray, List.set_cons_zero, List.set_cons_succ]
            refine wpAnyH_ready (rs := [10]) (by kernel_rfl) (by simp) ?_
            refine AllReadyH.cons rfl (fun K2 hK2 => ?_) AllReadyH.nil
            go_simp
            have hS : ST3 x3 g x4 W th re mo _ := hHeld
            obtain ⟨sN, hN⟩ := hS.dc
            with_reducible refine Calls.mono (dnear g sN re _ hN hre) ?_
            rintro e wn ⟨r3, rfl, -, sn, hd⟩
            refine hK2.out _ _ ?_ (fun hHeld2 => ?_)
            · exact hS.dp hd
            have HZn := Lib.hid (HZ.out.kps hzg hd.2)
            clear HZ
            have HZ := HZn
            clear HZn
            clear hN hd hS
            clear hK2 K2 hHeld
            have hHeld := hHeld2
            clear hHeld2
            try simp (maxSteps := 4000000) only [Act.put, List.setIfInBounds_toArray, List.set_cons_zero, List.set_cons_succ]
            refine wpAnyH_ready (rs := [14]) (by kernel_rfl) (by simp) ?_
            refine AllReadyH.cons rfl (fun K2 hK2 => ?_) AllReadyH.nil
            go_simp
            have hS : ST3 x3 g x4 W th re mo _ := hHeld
            obtain ⟨sN, hN⟩ := hS.dc
            with_reducible refine Calls.mono (dnear g sN re _ hN hre) ?_
            rintro e wn ⟨r4, rfl, -, sn, hd⟩
            refine hK2.out _ _ ?_ (fun hHeld2 => ?_)
            · exact hS.dp hd
            have HZn := Lib.hid (HZ.out.kps hzg hd.2)
            clear HZ
            have HZ := HZn
            clear HZn
            clear hN hd hS
            clear hK2 K2 hHeld
            have hHeld := hHeld2
            clear hHeld2
            try simp (maxSteps := 4000000) only [Act.put, List.setIfInBounds_toArray, List.set_cons_zero, List.set_cons_succ]
            refine wpAnyH_ready (rs := [18]) (by kernel_rfl) (by simp) ?_
            refine AllReadyH.cons rfl (fun K2 hK2 => ?_) AllReadyH.nil
            go_simp
            have hS : ST3 x3 g x4 W th re mo _ := hHeld
            obtain ⟨sN, hN⟩ := hS.dc
            with_reducible refine Calls.mono (dnear g sN re _ hN hre) ?_
            rintro e wn ⟨r5, rfl, -, sn, hd⟩
            refine hK2.out _ _ ?_ (fun hHeld2 => ?_)
            · exact hS.dp hd
            have HZn := Lib.hid (HZ.out.kps hzg hd.2)
            clear HZ
            have HZ := HZn
            clear HZn
            clear hN hd hS
            clear hK2 K2 hHeld
            have hHeld := hHeld2
            clear hHeld2
            try simp (maxSteps := 4000000) only [Act.put, List.setIfInBounds_toArray, List.set_cons_zero, List.set_cons_succ]
            obtain ⟨_, ⟨k0, k1, k2, k3, k4, k5, k6, k7⟩, kf⟩ := HZ.out
            have hzw := HZ.out.1
            have kf0 := kf 0 (by decide)
            have kf1 := kf 1 (by decide)
            have kf2 := kf 2 (by decide)
            have kf3 := kf 3 (by decide)
            have kf4 := kf 4 (by decide)
            have kf5 := kf 5 (by decide)
            have kf6 := kf 6 (by decide)
            have kf7 := kf 7 (by decide)
            clear kf
            refine wpAnyH_take (i := 19) (v := ?_) rfl (by kernel_rfl) (by kernel_rfl) (by kernel_rfl) (fun _ _ _ h => h) (Or.inl ⟨by kernel_rfl, ?_⟩) (by assumption) ?_
            rotate_left
            · (intro w hSw; (try dsimp only at hSw); go_simp)
              try (with_reducible rfl)
            rotate_left
            try simp (maxSteps := 4000000) only [Act.put, List.setIfInBounds_toArray, List.set_cons_zero, List.set_cons_succ, List.getElem_toArray, List.getElem_cons_zero, List.getElem_cons_succ]
            refine wpAnyH_ready (rs := [21]) (by kernel_rfl) (by simp) ?_
            refine AllReadyH.cons rfl (fun K2 hK2 => ?_) AllReadyH.nil
            go_simp
            obtain ⟨ws, hws, hzs, hks⟩ := op_store HZ.out r1 r2 r3 r4 r5 0 0 (.slice none 0 0)
            rw [hws]
            have HZS := Lib.hid hzs
            refine hK2.out _ _ ?_ (fun hHeld2 => ?_)
            · exact ST3.low (x := x3) (g := g) (y := x4) (W := W) (th := th) (re := re) (mo := mo) hHeld hks hzx hzy hgz hzW
            clear k0 k1 k2 k3 k4 k5 k6 k7 kf0 kf1 kf2 kf3 kf4 kf5 kf6 kf7 hws hzs hks hzw HZ
            clear hK2 K2 hHeld
            have hHeld := hHeld2
            clear hHeld2
            try simp (maxSteps := 4000000) only [Act.put, List.setIfInBounds_toArray, List.set_cons_zero, List.set_cons_succ]
            refine wpAnyH_done (by kernel_rfl) ?_ _
            go_wp2_with fail
            go_meet
            exact ⟨z, r1, r2, r3, r4, r5, rfl, Lib.hid ⟨HZS.out, hzg, hzx, hzy, hzW⟩, hHeld⟩
        · have hS : ST3 x3 g x4 W th re mo _ := hHeld
          have hlz := hS.lt
          obtain ⟨z, wz, hz, hwz, HZ, hszz, hst⟩ := al8b hS
          rw [hwz, hz]
          clear hwz
          have hzg : z ≠ g := by omega
          have hzx : x3 ≠ z := by omega
          have hzy : x4 ≠ z := by omega
          have hzW : W.heap.size ≤ z := by omega
          have hgz : g ≠ z := by omega
          clear hz hlz hszz hS
          refine hK2.out _ _ hst (fun hHeld2 => ?_)
          clear hst
          clear hK2 K2 hHeld
          have hHeld := hHeld2
          clear hHeld2
          try simp (maxSteps := 4000000) only [Act.put, List.setIfInBounds_toArray, List.set_cons_zero, List.set_cons_succ]
          refine wpAnyH_ready (rs := [6]) (by kernel_rfl) (by simp) ?_
          refine AllReadyH.cons rfl (fun K2 hK2 => ?_) AllReadyH.nil
          go_simp
          have hS : ST3 x3 g x4 W th re mo _ := hHeld
          obtain ⟨sN, hN⟩ := hS.dc
          with_reducible refine Calls.mono (dnear g sN th _ hN hth) ?_
          rintro e wn ⟨r2, rfl, -, sn, hd⟩
          refine hK2.out _ _ ?_ (fun hHeld2 => ?_)
          · exact hS.dp hd
          have HZn := Lib.hid (HZ.out.kps hzg hd.2)
          clear HZ
          have HZ := HZn
          clear HZn
          clear hN hd hS
          clear hK2 K2 hHeld
          have hHeld := hHeld2
          clear hHeld2
          try simp (maxSteps := 4000000) only [Act.put, List.setIfInBounds_toArray, List.set_cons_zero, List.set_cons_succ]
          refine wpAnyH_ready (rs := [10]) (by kernel_rfl) (by simp) ?_
          refine AllReadyH.cons rfl (fun K2 hK2 => ?_) AllReadyH.nil
          go_simp
          have hS : ST3 x3 g x4 W th re mo _ := hHeld
          obtain ⟨sN, hN⟩ := hS.dc
          with_reducible refine Calls.mono (dnear g sN re _ hN hre) ?_
          rintro e wn ⟨r3, rfl, -, sn, hd⟩
          refine hK2.out _ _ ?_ (fun hHeld2 => ?_)
          · exact hS.dp hd
          have HZn := Lib.hid (HZ.out.kps hzg hd.2)
          clear HZ
          have HZ := HZn
          clear HZn
          clear hN hd hS
          clear hK2 K2 hHeld
          have hHeld := hHeld2
          clear hHeld2
          try simp (maxSteps := 4000000) only [Act.put, List.setIfInBounds_toArray, List.set_cons_zero, List.set_cons_succ]
          refine wpAnyH_ready (rs := [14]) (by kernel_rfl) (by simp) ?_
          refine AllReadyH.cons rfl (fun K2 hK2 => ?_) AllReadyH.nil
          go_simp
          have hS : ST3 x3 g x4 W th re mo _ := hHeld
          obtain ⟨sN, hN⟩ := hS.dc
          with_reducible refine Calls.mono (dnear g sN re _ hN hre) ?_
          rintro e wn ⟨r4, rfl, -, sn, hd⟩
          refine hK2.out _ _ ?_ (fun hHeld2 => ?_)
          · exact hS.dp hd
          have HZn := Lib.hid (HZ.out.kps hzg hd.2)
          clear HZ
          have HZ := HZn
          clear HZn
          clear hN hd hS
          clear hK2 K2 hHeld
          have hHeld := hHeld2
          clear hHeld2
          try simp (maxSteps := 4000000) only [Act.put, List.setIfInBounds_toArray, List.set_cons_zero, List.set_cons_succ]
          refine wpAnyH_ready (rs := [18]) (by kernel_rfl) (by simp) ?_
          refine AllReadyH.cons rfl (fun K2 hK2 => ?_) AllReadyH.nil
          go_simp
          have hS : ST3 x3 g x4 W th re mo _ := hHeld
          obtain ⟨sN, hN⟩ := hS.dc
          with_reducible refine Calls.mono (dnear g sN re _ hN hre) ?_
          rintro e wn ⟨r5, rfl, -, sn, hd⟩
          refine hK2.out _ _ ?_ (fun hHeld2 => ?_)
          · exact hS.dp hd
          have HZn := Lib.hid (HZ.out.kps hzg hd.2)
          clear HZ
          have HZ := HZn
          clear HZn
          clear hN hd hS
          clear hK2 K2 hHeld
          have hHeld := hHeld2
          clear hHeld2
          try simp (maxSteps := 4000000) only [Act.put, List.setIfInBounds_toArray, List.set_cons_zero, List.set_cons_succ]
          obtain ⟨_, ⟨k0, k1, k2, k3, k4, k5, k6, k7⟩, kf⟩ := HZ.out
          have hzw := HZ.out.1
          have kf0 := kf 0 (by decide)
          have kf1 := kf 1 (by decide)
          have kf2 := kf 2 (by decide)
          have kf3 := kf 3 (by decide)
          have kf4 := kf 4 (by decide)
          have kf5 := kf 5 (by decide)
          have kf6 := kf 6 (by decide)
          have kf7 := kf 7 (by decide)
          clear kf
          refine wpAnyH_take (i := 19) (v := ?_) rfl (by kernel_rfl) (by kernel_rfl) (by kernel_rfl) (fun _ _ _ h => h) (Or.inl ⟨by kernel_rfl, ?_⟩) (by assumption) ?_
          rotate_left
          · (intro w hSw; (try dsimp only at hSw); go_simp)
            try (with_reducible rfl)
          rotate_left
          try simp (maxSteps := 4000000) only [Act.put, List.setIfInBounds_toArray, List.set_cons_zero, List.set_cons_succ, List.getElem_toArray, List.getElem_cons_zero, List.getElem_cons_succ]
          refine wpAnyH_ready (rs := [21]) (by kernel_rfl) (by simp) ?_
          refine AllReadyH.cons rfl (fun K2 hK2 => ?_) AllReadyH.nil
          go_simp
          obtain ⟨ws, hws, hzs, hks⟩ := op_store HZ.out r1 r2 r3 r4 r5 0 0 (.slice none 0 0)
          rw [hws]
          have HZS := Lib.hid hzs
          refine hK2.out _ _ ?_ (fun hHeld2 => ?_)
          · exact ST3.low (x := x3) (g := g) (y := x4) (W := W) (th := th) (re := re) (mo := mo) hHeld hks hzx hzy hgz hzW
          clear k0 k1 k2 k3 k4 k5 k6 k7 kf0 kf1 kf2 kf3 kf4 kf5 kf6 kf7 hws hzs hks hzw HZ
          clear hK2 K2 hHeld
          have hHeld := hHeld2
          clear hHeld2
          try simp (maxSteps := 4000000) only [Act.put, List.setIfInBounds_toArray, List.set_cons_zero, List.set_cons_succ]
          refine wpAnyH_done (by kernel_rfl) ?_ _
          go_wp2_with fail
          go_meet
          exact ⟨z, r1, r2, r3, r4, r5, rfl, Lib.hid ⟨HZS.out, hzg, hzx, hzy, hzW⟩, hHeld⟩
      · have hS : ST3 x3 g x4 W th re mo _ := hHeld
        have hlz := hS.lt
        obtain ⟨z, wz, hz, hwz, HZ, hszz, hst⟩ := al8b hS
        rw [hwz, hz]
        clear hwz
        have hzg : z ≠ g := by omega
        have hzx : x3 ≠ z := by omega
        have hzy : x4 ≠ z := by omega
        have hzW : W.heap.size ≤ z := by omega
        have hgz : g ≠ z := by omega
        clear hz hlz hszz hS
        refine hK2.out _ _ hst (fun hHeld2 => ?_)
        clear hst
        clear hK2 K2 hHeld
        have hHeld := hHeld2
        clear hHeld2
        try simp (maxSteps := 4000000) only [Act.put, List.setIfInBounds_toArray, List.set_cons_zero, List.set_cons_succ]
        refine wpAnyH_ready (rs := [2]) (by kernel_rfl) (by simp) ?_
        refine AllReadyH.cons rfl (fun K2 hK2 => ?_) AllReadyH.nil
        go_simp
        have hS : ST3 x3 g x4 W th re mo _ := hHeld
        with_reducible refine Calls.mono (dkinds _ _) ?_
        rintro e wn ⟨r1, rfl, hb⟩
        refine hK2.out _ _ ?_ (fun hHeld2 => ?_)
        · exact hS.below hb
        have HZn := Lib.hid (HZ.out.below hb)
        clear HZ
        have HZ := HZn
        clear HZn
        clear hb hS
        clear hK2 K2 hHeld
        have hHeld := hHeld2
        clear hHeld2
        try simp (maxSteps := 4000000) only [Act.put, List.setIfInBounds_toArray, List.set_cons_zero, List.set_cons_succ]
        refine wpAnyH_ready (rs := [6]) (by kernel_rfl) (by simp) ?_
        refine AllReadyH.cons rfl (fun K2 hK2 => ?_) AllReadyH.nil
        go_simp
        have hS : ST3 x3 g x4 W th re mo _ := hHeld
        obtain ⟨sN, hN⟩ := hS.dc
        with_reducible refine Calls.mono (dnear g sN th _ hN hth) ?_
        rintro e wn ⟨r2, rfl, -, sn, hd⟩
        refine hK2.out _ _ ?_ (fun hHeld2 => ?_)
        · exact hS.dp hd
        have HZn := Lib.hid (HZ.out.kps hzg hd.2)
        clear HZ
        have HZ := HZn
        clear HZn
        clear hN hd hS
        clear hK2 K2 hHeld
        have hHeld := hHeld2
        clear hHeld2
        try simp (maxSteps := 4000000) only [Act.put, List.setIfInBounds_toArray, List.set_cons_zero, List.set_cons_succ]
        refine wpAnyH_ready (rs := [10]) (by kernel_rfl) (by simp) ?_
        refine AllReadyH.cons rfl (fun K2 hK2 => ?_) AllReadyH.nil
        go_simp
        have hS : ST3 x3 g x4 W th re mo _ := hHeld
        obtain ⟨sN, hN⟩ := hS.dc
        with_reducible refine Calls.mono (dnear g sN re _ hN hre) ?_
        rintro e wn ⟨r3, rfl, -, sn, hd⟩
        refine hK2.out _ _ ?_ (fun hHeld2 => ?_)
        · exact hS.dp hd
        have HZn := Lib.hid (HZ.out.kps hzg hd.2)
        clear HZ
        have HZ := HZn
        clear HZn
        clear hN hd hS
        clear hK2 K2 hHeld
        have hHeld := hHeld2
        clear hHeld2
        try simp (maxSteps := 4000000) only [Act.put, List.setIfInBounds_toArray, List.set_cons_zero, List.set_cons_succ]
        refine wpAnyH_ready (rs := [14]) (by kernel_rfl) (by simp) ?_
        refine AllReadyH.cons rfl (fun K2 hK2 => ?_) AllReadyH.nil
        go_simp
        have hS : ST3 x3 g x4 W th re mo _ := hHeld
        obtain ⟨sN, hN⟩ := hS.dc
        with_reducible refine Calls.mono (dnear g sN re _ hN hre) ?_
        rintro e wn ⟨r4, rfl, -, sn, hd⟩
        refine hK2.out _ _ ?_ (fun hHeld2 => ?_)
        · exact hS.dp hd
        have HZn := Lib.hid (HZ.out.kps hzg hd.2)
        clear HZ
        have HZ := HZn
        clear HZn
        clear hN hd hS
        clear hK2 K2 hHeld
        have hHeld := hHeld2
        clear hHeld2
        try simp (maxSteps := 4000000) only [Act.put, List.setIfInBounds_toArray, List.set_cons_zero, List.set_cons_succ]
        refine wpAnyH_ready (rs := [18]) (by kernel_rfl) (by simp) ?_
        refine AllReadyH.cons rfl (fun K2 hK2 => ?_) AllReadyH.nil
        go_simp
        have hS : ST3 x3 g x4 W th re mo _ := hHeld
        obtain ⟨sN, hN⟩ := hS.dc
        with_reducible refine Calls.mono (dnear g sN re _ hN hre) ?_
        rintro e wn ⟨r5, rfl, -, sn, hd⟩
        refine hK2.out _ _ ?_ (fun hHeld2 => ?_)
        · exact hS.dp hd
        have HZn := Lib.hid (HZ.out.kps hzg hd.2)
        clear HZ
        have HZ := HZn
        clear HZn
        clear hN hd hS
        clear hK2 K2 hHeld
        have hHeld := hHeld2
        clear hHeld2
        try simp (maxSteps := 4000000) only [Act.put, List.setIfInBounds_toArray, List.set_cons_zero, List.set_cons_succ]
        obtain ⟨_, ⟨k0, k1, k2, k3, k4, k5, k6, k7⟩, kf⟩ := HZ.out
        have hzw := HZ.out.1
        have kf0 := kf 0 (by decide)
        have kf1 := kf 1 (by decide)
        have kf2 := kf 2 (by decide)
        have kf3 := kf 3 (by decide)
        have kf4 := kf 4 (by decide)
        have kf5 := kf 5 (by decide)
        have kf6 := kf 6 (by decide)
        have kf7 := kf 7 (by decide)
        clear kf
        refine wpAnyH_take (i := 19) (v := ?_) rfl (by kernel_rfl) (by kernel_rfl) (by kernel_rfl) (fun _ _ _ h => h) (Or.inl ⟨by kernel_rfl, ?_⟩) (by assumption) ?_
        rotate_left
        · (intro w hSw; (try dsimp only at hSw); go_simp)
          try (with_reducible rfl)
        rotate_left
        try simp (maxSteps := 4000000) only [Act.put, List.setIfInBounds_toArray, List.set_cons_zero, List.set_cons_succ, List.getElem_toArray, List.getElem_cons_zero, List.getElem_cons_succ]
        refine wpAnyH_ready (rs := [21]) (by kernel_rfl) (by simp) ?_
        refine AllReadyH.cons rfl (fun K2 hK2 => ?_) AllReadyH.nil
        go_simp
        obtain ⟨ws, hws, hzs, hks⟩ := op_store HZ.out r1 r2 r3 r4 r5 0 0 (.slice none 0 0)
        rw [hws]
        have HZS := Lib.hid hzs
        refine hK2.out _ _ ?_ (fun hHeld2 => ?_)
        · exact ST3.low (x := x3) (g := g) (y := x4) (W := W) (th := th) (re := re) (mo := mo) hHeld hks hzx hzy hgz hzW
        clear k0 k1 k2 k3 k4 k5 k6 k7 kf0 kf1 kf2 kf3 kf4 kf5 kf6 kf7 hws hzs hks hzw HZ
        clear hK2 K2 hHeld
        have hHeld := hHeld2
        clear hHeld2
        try simp (maxSteps := 4000000) only [Act.put, List.setIfInBounds_toArray, List.set_cons_zero, List.set_cons_succ]
        refine wpAnyH_done (by kernel_rfl) ?_ _
        go_wp2_with fail
        go_meet
        exact ⟨z, r1, r2, r3, r4, r5, rfl, Lib.hid ⟨HZS.out, hzg, hzx, hzy, hzW⟩, hHeld⟩
    · have hS : ST3 x3 g x4 W th re mo _ := HST.out
      have hlz := hS.lt
      obtain ⟨z, wz, hz, hwz, HZ, hszz, hst⟩ := al8a hS
      rw [hwz, hz]
      clear hwz
      have hzg : z ≠ g := by omega
      have hzx : x3 ≠ z := by omega
      have hzy : x4 ≠ z := by omega
      have hzW : W.heap.size ≤ z := by omega
      have hgz : g ≠ z := by omega
      clear hz hlz hszz hS
      refine hK2.out _ _ hst (fun hHeld2 => ?_)
      clear hst
      clear hK2 K2 hHeld
      have hHeld := hHeld2
      clear hHeld2
      try simp (maxSteps := 4000000) only [Act.put, List.setIfInBounds_toArray, List.set_cons_zero, List.set_cons_succ]
      refine wpAnyH_ready (rs := [1]) (by kernel_rfl) (by simp) ?_
      refine AllReadyH.cons rfl (fun K2 hK2 => ?_) AllReadyH.nil
      go_simp
      have hS : ST3 x3 g x4 W th re mo _ := hHeld
      obtain ⟨sN, hN⟩ := hS.dc
      with_reducible refine Calls.mono (duptoP g sN 100 _ hN (by decide)) ?_
      rintro e wn ⟨r0, rfl, -, sn, hd⟩
      refine hK2.out _ _ ?_ (fun hHeld2 => ?_)
      · exact hS.dp hd
      have HZn := Lib.hid (HZ.out.kps hzg hd.2)
      clear HZ
      have HZ := HZn
      clear HZn
      clear hN hd hS
      clear hK2 K2 hHeld
      have hHeld := hHeld2
      clear hHeld2
      try simp (maxSteps := 4000000) only [Act.put, List.setIfInBounds_toArray, List.set_cons_zero, List.set_cons_succ]
      refine wpAnyH_ready (rs := [2]) (by kernel_rfl) (by simp) ?_
      refine AllReadyH.cons rfl (fun K2 hK2 => ?_) AllReadyH.nil
      go_simp
      have hS : ST3 x3 g x4 W th re mo _ := hHeld
      with_reducible refine Calls.mono (dkinds _ _) ?_
      rintro e wn ⟨r1, rfl, hb⟩
      refine hK2.out _ _ ?_ (fun hHeld2 => ?_)
      · exact hS.below hb
      have HZn := Lib.hid (HZ.out.below hb)
      clear HZ
      have HZ := HZn
      clear HZn
      clear hb hS
      clear hK2 K2 hHeld
      have hHeld := hHeld2
      clear hHeld2
      try simp (maxSteps := 4000000) only [Act.put, List.setIfInBounds_toArray, List.set_cons_zero, List.set_cons_succ]
      refine wpAnyH_ready (rs := [6]) (by kernel_rfl) (by simp) ?_
      refine AllReadyH.cons rfl (fun K2 hK2 => ?_) AllReadyH.nil
      go_simp
      have hS : ST3 x3 g x4 W th re mo _ := hHeld
      obtain ⟨sN, hN⟩ := hS.dc
      with_reducible refine Calls.mono (dnear g sN th _ hN hth) ?_
      rintro e wn ⟨r2, rfl, -, sn, hd⟩
      refine hK2.out _ _ ?_ (fun hHeld2 => ?_)
      · exact hS.dp hd
      have HZn := Lib.hid (HZ.out.kps hzg hd.2)
      clear HZ
      have HZ := HZn
      clear HZn
      clear hN hd hS
      clear hK2 K2 hHeld
      have hHeld := hHeld2
      clear hHeld2
      try simp (maxSteps := 4000000) only [Act.put, List.setIfInBounds_toArray, List.set_cons_zero, List.set_cons_succ]
      refine wpAnyH_ready (rs := [10]) (by kernel_rfl) (by simp) ?_
      refine AllReadyH.cons rfl (fun K2 hK2 => ?_) AllReadyH.nil
      go_simp
      have hS : ST3 x3 g x4 W th re mo _ := hHeld
      obtain ⟨sN, hN⟩ := hS.dc
      with_reducible refine Calls.mono (dnear g sN re _ hN hre) ?_
      rintro e wn ⟨r3, rfl, -, sn, hd⟩
      refine hK2.out _ _ ?_ (fun hHeld2 => ?_)
      · exact hS.dp hd
      have HZn := Lib.hid (HZ.out.kps hzg hd.2)
      clear HZ
      have HZ := HZn
      clear HZn
      clear hN hd hS
      clear hK2 K2 hHeld
      have hHeld := hHeld2
      clear hHeld2
      try simp (maxSteps := 4000000) only [Act.put, List.setIfInBounds_toArray, List.set_cons_zero, List.set_cons_succ]
      refine wpAnyH_ready (rs := [14]) (by kernel_rfl) (by simp) ?_
      refine AllReadyH.cons rfl (fun K2 hK2 => ?_) AllReadyH.nil
      go_simp
      have hS : ST3 x3 g x4 W th re mo _ := hHeld
      obtain ⟨sN, hN⟩ := hS.dc
      with_reducible refine Calls.mono (dnear g sN re _ hN hre) ?_
      rintro e wn ⟨r4, rfl, -, sn, hd⟩
      refine hK2.out _ _ ?_ (fun hHeld2 => ?_)
      · exact hS.dp hd
      have HZn := Lib.hid (HZ.out.kps hzg hd.2)
      clear HZ
      have HZ := HZn
      clear HZn
      clear hN hd hS
      clear hK2 K2 hHeld
      have hHeld := hHeld2
      clear hHeld2
      try simp (maxSteps := 4000000) only [Act.put, List.setIfInBounds_toArray, List.set_cons_zero, List.set_cons_succ]
      refine wpAnyH_ready (rs := [18]) (by kernel_rfl) (by simp) ?_
      refine AllReadyH.cons rfl (fun K2 hK2 => ?_) AllReadyH.nil
      go_simp
      have hS : ST3 x3 g x4 W th re mo _ := hHeld
      obtain ⟨sN, hN⟩ := hS.dc
      with_reducible refine Calls.mono (dnear g sN re _ hN hre) ?_
      rintro e wn ⟨r5, rfl, -, sn, hd⟩
      refine hK2.out _ _ ?_ (fun hHeld2 => ?_)
      · exact hS.dp hd
      have HZn := Lib.hid (HZ.out.kps hzg hd.2)
      clear HZ
      have HZ := HZn
      clear HZn
      clear hN hd hS
      clear hK2 K2 hHeld
      have hHeld := hHeld2
      clear hHeld2
      try simp (maxSteps := 4000000) only [Act.put, List.setIfInBounds_toArray, List.set_cons_zero, List.set_cons_succ]
      obtain ⟨_, ⟨k0, k1, k2, k3, k4, k5, k6, k7⟩, kf⟩ := HZ.out
      have hzw := HZ.out.1
      have kf0 := kf 0 (by decide)
      have kf1 := kf 1 (by decide)
      have kf2 := kf 2 (by decide)
      have kf3 := kf 3 (by decide)
      have kf4 := kf 4 (by decide)
      have kf5 := kf 5 (by decide)
      have kf6 := kf 6 (by decide)
      have kf7 := kf 7 (by decide)
      clear kf
      refine wpAnyH_take (i := 19) (v := ?_) rfl (by kernel_rfl) (by kernel_rfl) (by kernel_rfl) (fun _ _ _ h => h) (Or.inl ⟨by kernel_rfl, ?_⟩) (by assumption) ?_
      rotate_left
      · (intro w hSw; (try dsimp only at hSw); go_simp)
        try (with_reducible rfl)
      rotate_left
      try simp (maxSteps := 4000000) only [Act.put, List.setIfInBounds_toArray, List.set_cons_zero, List.set_cons_succ, List.getElem_toArray, List.getElem_cons_zero, List.getElem_cons_succ]
      refine wpAnyH_ready (rs := [21]) (by kernel_rfl) (by simp) ?_
      refine AllReadyH.cons rfl (fun K2 hK2 => ?_) AllReadyH.nil
      go_simp
      obtain ⟨ws, hws, hzs, hks⟩ := op_store HZ.out r1 r2 r3 r4 r5 0 0 (.slice none 0 0)
      rw [hws]
      have HZS := Lib.hid hzs
      refine hK2.out _ _ ?_ (fun hHeld2 => ?_)
      · exact ST3.low (x := x3) (g := g) (y := x4) (W := W) (th := th) (re := re) (mo := mo) hHeld hks hzx hzy hgz hzW
      clear k0 k1 k2 k3 k4 k5 k6 k7 kf0 kf1 kf2 kf3 kf4 kf5 kf6 kf7 hws hzs hks hzw HZ
      clear hK2 K2 hHeld
      have hHeld := hHeld2
      clear hHeld2
      try simp (maxSteps := 4000000) only [Act.put, List.setIfInBounds_toArray, List.set_cons_zero, List.set_cons_succ]
      refine wpAnyH_done (by kernel_rfl) ?_ _
      go_wp2_with fail
      go_meet
      exact ⟨z, r1, r2, r3, r4, r5, rfl, Lib.hid ⟨HZS.out, hzg, hzx, hzy, hzW⟩, hHeld⟩
  case rest =>
  obtain ⟨z, k, t, a, b, v, rfl, HZ, hst⟩ := hcut
  obtain ⟨hzg, hzx, hzy, hzW⟩ := HZ.out.2
  have HZ0 := Lib.hid HZ.out.1
  have HS0 := Lib.hid hst
  have c8 := hst.1.2.2
  have hlt0 := hst.lt
  obtain ⟨hl1, hl2, hl3, hl4⟩ := hlt0
  clear HZ hst
  go_wp2_with fail
  obtain ⟨s1, hs1⟩ := HS0.out.dc
  with_reducible refine Calls.mono (dsize g s1 mo _ hs1 hmo) ?_
  rintro e w1 ⟨r1, rfl, ⟨a1, b1⟩, sn, hd⟩
  have HS1 := Lib.hid (HS0.out.dp hd)
  have HZ1 := Lib.hid (HZ0.out.kps hzg hd.kp)
  clear hd hs1 c8 HS0 HZ0 hl1 hl2 hl3 hl4
  go_wp2_with fail
  obtain ⟨s2, hs2⟩ := HS1.out.dc
  with_reducible refine Calls.mono (dfromP g s2 0 70 _ hs2 (by decide) (by decide)) ?_
  rintro e w2 ⟨r2, rfl, ⟨a2, b2⟩, sn, hd⟩
  have HS2 := Lib.hid (HS1.out.dp hd)
  have HZ2 := Lib.hid (HZ1.out.kps hzg hd.kp)
  clear hd hs2 HS1 HZ1
  go_wp2_with fail
  obtain ⟨s3, hs3⟩ := HS2.out.dc
  with_reducible refine Calls.mono (dfromP g s3 0 9 _ hs3 (by decide) (by decide)) ?_
  rintro e w3 ⟨r3, rfl, ⟨a3, b3⟩, sn, hd⟩
  have HS3 := Lib.hid (HS2.out.dp hd)
  have HZ3 := Lib.hid (HZ2.out.kps hzg hd.kp)
  clear hd hs3 HS2 HZ2
  go_wp2_with fail
  obtain ⟨s4, hs4⟩ := HS3.out.dc
  with_reducible refine Calls.mono (dfromP g s4 (-20) 80 _ hs4 (by decide) (by decide)) ?_
  rintro e w4 ⟨r4, rfl, ⟨a4, b4⟩, sn, hd⟩
  have HS4 := Lib.hid (HS3.out.dp hd)
  have HZ4 := Lib.hid (HZ3.out.kps hzg hd.kp)
  clear hd hs4 HS3 HZ3
  go_wp2_with fail
  obtain ⟨s5, hs5⟩ := HS4.out.dc
  with_reducible refine Calls.mono (dbytes g s5 _ hs5) ?_
  rintro e w5 ⟨A, l, c, rfl, sn, hd⟩
  have HS5 := Lib.hid (HS4.out.dp hd)
  have HZ5 := Lib.hid (HZ4.out.kps hzg hd.kp)
  clear hd hs5 HS4 HZ4
  obtain ⟨_, ⟨k0, k1, k2, k3, k4, k5, k6, k7⟩, kf⟩ := HZ5.out
  have kf5 := kf 5 (by decide)
  have kf6 := kf 6 (by decide)
  have kf7 := kf 7 (by decide)
  have hzw : z < w5.heap.size := HZ5.out.1
  clear kf
  obtain ⟨hmo1, hmo2⟩ := hmo
  have hgz : g ≠ z := by omega
  have hm4 : r2.tmod 4 = r2 % 4 := Int.tmod_eq_emod_of_nonneg (by omega)
  have hn2 : ¬ (1 + r2 = 0) := by omega
  go_upto_block 0 with (fail)
  go_cut [6] (fun v6 wx => v6 = .int .i64 r1 ∧ ∃ (n m : Int) (A' : Option Addr) (l' c' : Nat), Hid (OpAt z wx k t a b v n m (.slice A' l' c')) ∧ Hid (ST3 x3 g x4 W th re mo wx))
  case first =>
    go_wp2_with fail
    all_goals try go_region
    all_goals try go_wp2_with fail
    all_goals
      go_meet
      first
      | exact ⟨rfl, _, _, _, _, _, HZ5, HS5⟩
      | exact ⟨rfl, _, _, _, _, _, Lib.hid (HZ5.out.set5 _), Lib.hid (HS5.out.low (Kps.set z 5 _ _) hzx hzy hgz hzW)⟩
      | exact ⟨rfl, _, _, _, _, _, Lib.hid (HZ5.out.set7 _), Lib.hid (HS5.out.low (Kps.set z 7 _ _) hzx hzy hgz hzW)⟩
      | exact ⟨rfl, _, _, _, _, _, Lib.hid ((HZ5.out.set5 _).set6 _), Lib.hid ((HS5.out.low (Kps.set z 5 _ _) hzx hzy hgz hzW).low (Kps.set z 6 _ _) hzx hzy hgz hzW)⟩
      | exact ⟨rfl, _, _, _, _, _, Lib.hid ((HZ5.out.set5 _).set5 _), Lib.hid ((HS5.out.low (Kps.set z 5 _ _) hzx hzy hgz hzW).low (Kps.set z 5 _ _) hzx hzy hgz hzW)⟩
      | exact ⟨rfl, _, _, _, _, _, Lib.hid (((HZ5.out.set5 _).set6 _).below (Below.refl _ _).drew), Lib.hid ((HS5.out.low (Kps.set z 5 _ _) hzx hzy hgz hzW).low (Kps.set z 6 _ _) hzx hzy hgz hzW).drw⟩
      | (trace_state; sorry)
  case rest =>
  obtain ⟨rfl, n, m, A', l', c', HZ6, HS6⟩ := hcut
  clear HZ5 HS5 k0 k1 k2 k3 k4 k5 k6 k7 kf5 kf6 kf7 hzw
  obtain ⟨_, ⟨k0, k1, k2, k3, k4, k5, k6, k7⟩, -⟩ := HZ6.out
  have hx4o := HS6.out.2.out.2.1
  obtain ⟨ws, hws, hxs, hks⟩ := op_store hx4o k t a b v n m (.slice A' l' c')
  obtain ⟨hx4w, ⟨j0, j1, j2, j3, j4, j5, j6, j7⟩, jf⟩ := hx4o
  have jf0 := jf 0 (by decide)
  have jf1 := jf 1 (by decide)
  have jf2 := jf 2 (by decide)
  have jf3 := jf 3 (by decide)
  have jf4 := jf 4 (by decide)
  have jf5 := jf 5 (by decide)
  have jf6 := jf 6 (by decide)
  have jf7 := jf 7 (by decide)
  have hzw : z < wc.heap.size := HZ6.out.1
  obtain ⟨hxw, ⟨i0, i1, i2, i3, i4, i5, i6, i7⟩, -⟩ := hxs
  have hend : Hid (∃ s', DP g s' W ws) := Lib.hid (by
    obtain ⟨⟨sz, hsz⟩, ho, hx, hy, hlt, h1, h2, h3⟩ := HS6.out.2.out
    exact ⟨sz, hsz.low hks (Ne.symm hy) h2 h3⟩)
  clear jf hks
  go_wp2_with fail
  exact bodyPost_ret (v := .agg #[.int .i64 k, .int .i64 t, .int .i64 a, .int .i64 b, .int .i64 v, .int .i64 n, .int .i64 m, .slice A' l' c']) (by simp [results, Try.results39, go_sem, i0, i1, i2, i3, i4, i5, i6, i7]) rfl ⟨k, t, a, b, v, n, m, A', l', c', rfl, hend.out⟩
end Go.Proofs.Ytahggokeelgjdaa
