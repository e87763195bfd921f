/- What the statement's own One writes; may things be written? -/
import Derived.Test.YtahggokeelgjdaaTrB
import Derived.Deep.RegionHeld3
namespace Go.Proofs.Ytahggokeelgjdaa
open Go.RowKit
set_option linter.unusedVariables false
set_option linter.unusedSimpArgs false

theorem NPost.of {W W' : World} {ys : List Nat} {e : Ending} {w' : World} (h : NPost W' ys e w') (hb : Below W.heap.size W W') : NPost W ys e w' := by
  obtain ⟨b', v', h1, h2, h3, h4, h5⟩ := h
  exact ⟨b', v', h1, Nat.le_trans hb.size h2, h3, thn hb h4, h5⟩
theorem cells8 (W : World) (a0 a1 a2 a3 a4 a5 a6 a7 : Int) (E : TypeId) : ∀ (j : Nat) (x : Int), ([a0, a1, a2, a3, a4, a5, a6, a7] : List Int)[j]? = some x → (W.alloc (.cells #[.int .i64 a0, .int .i64 a1, .int .i64 a2, .int .i64 a3, .int .i64 a4, .int .i64 a5, .int .i64 a6, .int .i64 a7] E)).cell? ⟨W.heap.size, j, none⟩ = some (.int .i64 x) := by
  intro j x hx
  match j with
  | 0 => simp at hx; subst hx; simp
  | 1 => simp at hx; subst hx; simp
  | 2 => simp at hx; subst hx; simp
  | 3 => simp at hx; subst hx; simp
  | 4 => simp at hx; subst hx; simp
  | 5 => simp at hx; subst hx; simp
  | 6 => simp at hx; subst hx; simp
  | 7 => simp at hx; subst hx; simp
  | j + 8 => simp at hx
set_option maxHeartbeats 6400000 in
theorem refOne (o : Op7) (dv : Value) (d : List Nat) (W : World) (hd : RD W dv d) (ho : o.ok) :
    Calls Try.prog 13 #[.agg #[.int .i64 o.k, .int .i64 o.t, .int .i64 o.a, .int .i64 o.b, .int .i64 o.v, .int .i64 o.n, .int .i64 o.m, dv]] W (NPost W (oneB o d)) := by
  have hsh := hd
  obtain ⟨A, c, rfl, hl9, _⟩ := hsh
  have HD := Lib.hid hd
  have HO := Lib.hid ho
  clear hd ho
  go_enter Try.func13, Try.ntmps13
  go_upto_region 1 with (fail)
  obtain ⟨W1, hW1⟩ : ∃ W1, W.alloc (.cells #[.int .i64 o.k, .int .i64 o.t, .int .i64 o.a, .int .i64 o.b, .int .i64 o.v, .int .i64 o.n, .int .i64 o.m, .slice A d.length c] 25) = W1 := ⟨_, rfl⟩
  obtain ⟨X, hX⟩ : ∃ X, W.heap.size = X := ⟨_, rfl⟩
  have cc : W1.cell? ⟨X, 0, none⟩ = some (.int .i64 o.k) ∧ W1.cell? ⟨X, 1, none⟩ = some (.int .i64 o.t) ∧ W1.cell? ⟨X, 2, none⟩ = some (.int .i64 o.a) ∧ W1.cell? ⟨X, 3, none⟩ = some (.int .i64 o.b) ∧ W1.cell? ⟨X, 4, none⟩ = some (.int .i64 o.v) ∧ W1.cell? ⟨X, 5, none⟩ = some (.int .i64 o.n) ∧ W1.cell? ⟨X, 6, none⟩ = some (.int .i64 o.m) ∧ W1.cell? ⟨X, 7, none⟩ = some (.slice A d.length c) := by rw [← hW1, ← hX]; refine ⟨?_, ?_, ?_, ?_, ?_, ?_, ?_, ?_⟩ <;> simp
  have HB1 : Hid (Below W.heap.size W W1) := Lib.hid (by rw [← hW1]; exact alc0 _ _)
  have HX1 : Hid (W1.heap.size = X + 1) := Lib.hid (by rw [← hW1, ← hX]; simp)
  rw [hW1]
  clear hW1
  try rw [hX]
  have HXX := Lib.hid hX
  clear hX
  have hzX : X < W1.heap.size := by have := HX1.out; omega
  obtain ⟨cc0, cc1, cc2, cc3, cc4, cc5, cc6, cc7⟩ := cc
  go_cut [3, 4] (fun v3 v4 wx => ∃ B L : Nat, v3 = .slice (some ⟨B, 0, none⟩) 0 0 ∧ v4 = .slice (some ⟨L, 0, none⟩) 8 8 ∧ Hid (BY B wx (.slice (some ⟨B, 0, none⟩) 0 0) []) ∧ Hid (W1.heap.size ≤ B ∧ W1.heap.size ≤ L ∧ B ≠ L ∧ L < wx.heap.size) ∧ Hid (∀ j x, (o.l ++ [(d.length : Int)])[j]? = some x → wx.cell? ⟨L, j, none⟩ = some (.int .i64 x)) ∧ Hid (Below W1.heap.size W1 wx))
  case first =>
    refine wp_region_held_drew (S := fun w' => w'.cell? ⟨X, 0, none⟩ = some (.int .i64 o.k) ∧ w'.cell? ⟨X, 1, none⟩ = some (.int .i64 o.t) ∧ w'.cell? ⟨X, 2, none⟩ = some (.int .i64 o.a) ∧ w'.cell? ⟨X, 3, none⟩ = some (.int .i64 o.b) ∧ w'.cell? ⟨X, 4, none⟩ = some (.int .i64 o.v) ∧ w'.cell? ⟨X, 5, none⟩ = some (.int .i64 o.n) ∧ w'.cell? ⟨X, 6, none⟩ = some (.int .i64 o.m) ∧ w'.cell? ⟨X, 7, none⟩ = some (.slice A d.length c)) (by kernel_rfl) ?_ (fun hHeld => ?_)
    · exact ⟨cc0, cc1, cc2, cc3, cc4, cc5, cc6, cc7⟩
    refine wpAnyH_take (i := 1) (v := ?_) rfl (by kernel_rfl) (by kernel_rfl) (by kernel_rfl) (fun _ _ _ h => h) (Or.inl ⟨by kernel_rfl, ?_⟩) (by assumption) ?_
    rotate_left
    · (intro w hSw; (try dsimp only at hSw); go_simp)
      try (with_reducible rfl)
    rotate_left
    try simp (maxSteps := 4000000) only [Act.put, List.setIfInBounds_toArray, List.set_cons_zero, List.set_cons_succ, List.getElem_toArray, List.getElem_cons_zero, List.getElem_cons_succ]
    refine wpAnyH_take (i := 2) (v := ?_) rfl (by kernel_rfl) (by kernel_rfl) (by kernel_rfl) (fun _ _ _ h => h) (Or.inl ⟨by kernel_rfl, ?_⟩) (by assumption) ?_
    rotate_left
    · (intro w hSw; (try dsimp only at hSw); go_simp)
      try (with_reducible rfl)
    rotate_left
    try simp (maxSteps := 4000000) only [Act.put, List.setIfInBounds_toArray, List.set_cons_zero, List.set_cons_succ, List.getElem_toArray, List.getElem_cons_zero, List.getElem_cons_succ]
    refine wpAnyH_take (i := 3) (v := ?_) rfl (by kernel_rfl) (by kernel_rfl) (by kernel_rfl) (fun _ _ _ h => h) (Or.inl ⟨by kernel_rfl, ?_⟩) (by assumption) ?_
    rotate_left
    · (intro w hSw; (try dsimp only at hSw); go_simp)
      try (with_reducible rfl)
    rotate_left
    try simp (maxSteps := 4000000) only [Act.put, List.setIfInBounds_toArray, List.set_cons_zero, List.set_cons_succ, List.getElem_toArray, List.getElem_cons_zero, List.getElem_cons_succ]
    refine wpAnyH_take (i := 4) (v := ?_) rfl (by kernel_rfl) (by kernel_rfl) (by kernel_rfl) (fun _ _ _ h => h) (Or.inl ⟨by kernel_rfl, ?_⟩) (by assumption) ?_
    rotate_left
    · (intro w hSw; (try dsimp only at hSw); go_simp)
      try (with_reducible rfl)
    rotate_left
    try simp (maxSteps := 4000000) only [Act.put, List.setIfInBounds_toArray, List.set_cons_zero, List.set_cons_succ, List.getElem_toArray, List.getElem_cons_zero, List.getElem_cons_succ]
    refine wpAnyH_take (i := 5) (v := ?_) rfl (by kernel_rfl) (by kernel_rfl) (by kernel_rfl) (fun _ _ _ h => h) (Or.inl ⟨by kernel_rfl, ?_⟩) (by assumption) ?_
    rotate_left
    · (intro w hSw; (try dsimp only at hSw); go_simp)
      try (with_reducible rfl)
    rotate_left
    try simp (maxSteps := 4000000) only [Act.put, List.setIfInBounds_toArray, List.set_cons_zero, List.set_cons_succ, List.getElem_toArray, List.getElem_cons_zero, List.getElem_cons_succ]
    refine wpAnyH_take (i := 6) (v := ?_) rfl (by kernel_rfl) (by kernel_rfl) (by kernel_rfl) (fun _ _ _ h => h) (Or.inl ⟨by kernel_rfl, ?_⟩) (by assumption) ?_
    rotate_left
    · (intro w hSw; (try dsimp only at hSw); go_simp)
      try (with_reducible rfl)
    rotate_left
    try simp (maxSteps := 4000000) only [Act.put, List.setIfInBounds_toArray, List.set_cons_zero, List.set_cons_succ, List.getElem_toArray, List.getElem_cons_zero, List.getElem_cons_succ]
    refine wpAnyH_take (i := 7) (v := ?_) rfl (by kernel_rfl) (by kernel_rfl) (by kernel_rfl) (fun _ _ _ h => h) (Or.inl ⟨by kernel_rfl, ?_⟩) (by assumption) ?_
    rotate_left
    · (intro w hSw; (try dsimp only at hSw); go_simp)
      try (with_reducible rfl)
    rotate_left
    try simp (maxSteps := 4000000) only [Act.put, List.setIfInBounds_toArray, List.set_cons_zero, List.set_cons_succ, List.getElem_toArray, List.getElem_cons_zero, List.getElem_cons_succ]
    refine wpAnyH_take (i := 8) (v := ?_) rfl (by kernel_rfl) (by kernel_rfl) (by kernel_rfl) (fun _ _ _ h => h) (Or.inl ⟨by kernel_rfl, ?_⟩) (by assumption) ?_
    rotate_left
    · (intro w hSw; (try dsimp only at hSw); go_simp)
      try (with_reducible rfl)
    rotate_left
    try simp (maxSteps := 4000000) only [Act.put, List.setIfInBounds_toArray, List.set_cons_zero, List.set_cons_succ, List.getElem_toArray, List.getElem_cons_zero, List.getElem_cons_succ]
    refine wpAnyH_take (i := 9) (v := ?_) rfl (by kernel_rfl) (by kernel_rfl) (by kernel_rfl) (fun _ _ _ h => h) (Or.inl ⟨by kernel_rfl, ?_⟩) (by assumption) ?_
    rotate_left
    · (intro w hSw; (try dsimp only at hSw); go_simp)
      try (with_reducible rfl)
    rotate_left
    try simp (maxSteps := 4000000) only [Act.put, List.setIfInBounds_toArray, List.set_cons_zero, List.set_cons_succ, List.getElem_toArray, List.getElem_cons_zero, List.getElem_cons_succ]
    refine wpAnyH_take (i := 10) (v := ?_) rfl (by kernel_rfl) (by kernel_rfl) (by kernel_rfl) (fun _ _ _ h => h) (Or.inl ⟨by kernel_rfl, ?_⟩) (by assumption) ?_
    rotate_left
    · (intro w hSw; (try dsimp only at hSw); go_simp)
      try (with_reducible rfl)
    rotate_left
    try simp (maxSteps := 4000000) only [Act.put, List.setIfInBounds_toArray, List.set_cons_zero, List.set_cons_succ, List.getElem_toArray, List.getElem_cons_zero, List.getElem_cons_succ]
    refine wpAnyH_take (i := 11) (v := ?_) rfl (by kernel_rfl) (by kernel_rfl) (by kernel_rfl) (fun _ _ _ h => h) (Or.inl ⟨by kernel_rfl, ?_⟩) (by assumption) ?_
    rotate_left
    · (intro w hSw; (try dsimp only at hSw); go_simp)
      try (with_reducible rfl)
    rotate_left
    try simp (maxSteps := 4000000) only [Act.put, List.setIfInBounds_toArray, List.set_cons_zero, List.set_cons_succ, List.getElem_toArray, List.getElem_cons_zero, List.getElem_cons_succ]
    refine wpAnyH_take (i := 12) (v := ?_) rfl (by kernel_rfl) (by kernel_rfl) (by kernel_rfl) (fun _ _ _ h => h) (Or.inl ⟨by kernel_rfl, ?_⟩) (by assumption) ?_
    rotate_left
    · (intro w hSw; (try dsimp only at hSw); go_simp)
      try (with_reducible rfl)
    rotate_left
    try simp (maxSteps := 4000000) only [Act.put, List.setIfInBounds_toArray, List.set_cons_zero, List.set_cons_succ, List.getElem_toArray, List.getElem_cons_zero, List.getElem_cons_succ]
    refine wpAnyH_take (i := 13) (v := ?_) rfl (by kernel_rfl) (by kernel_rfl) (by kernel_rfl) (fun _ _ _ h => h) (Or.inl ⟨by kernel_rfl, ?_⟩) (by assumption) ?_
    rotate_left
    · (intro w hSw; (try dsimp only at hSw); go_simp)
      try (with_reducible rfl)
    rotate_left
    try simp (maxSteps := 4000000) only [Act.put, List.setIfInBounds_toArray, List.set_cons_zero, List.set_cons_succ, List.getElem_toArray, List.getElem_cons_zero, List.getElem_cons_succ]
    refine wpAnyH_take (i := 14) (v := ?_) rfl (by kernel_rfl) (by kernel_rfl) (by kernel_rfl) (fun _ _ _ h => h) (Or.inl ⟨by kernel_rfl, ?_⟩) (by assumption) ?_
    rotate_left
    · (intro w hSw; (try dsimp only at hSw); go_simp)
      try (with_reducible rfl)
    rotate_left
    try simp (maxSteps := 4000000) only [Act.put, List.setIfInBounds_toArray, List.set_cons_zero, List.set_cons_succ, List.getElem_toArray, List.getElem_cons_zero, List.getElem_cons_succ]
    refine wpAnyH_take (i := 15) (v := ?_) rfl (by kernel_rfl) (by kernel_rfl) (by kernel_rfl) (fun _ _ _ h => h) (Or.inl ⟨by kernel_rfl, ?_⟩) (by assumption) ?_
    rotate_left
    · (intro w hSw; (try dsimp only at hSw); go_simp)
      try (with_reducible rfl)
    rotate_left
    try simp (maxSteps := 4000000) only [Act.put, List.setIfInBounds_toArray, List.set_cons_zero, List.set_cons_succ, List.getElem_toArray, List.getElem_cons_zero, List.getElem_cons_succ]
    refine wpAnyH_take (i := 16) (v := ?_) rfl (by kernel_rfl) (by kernel_rfl) (by kernel_rfl) (fun _ _ _ h => h) (Or.inl ⟨by kernel_rfl, ?_⟩) (by assumption) ?_
    rotate_left
    · (intro w hSw; (try dsimp only at hSw); go_simp)
      try (with_reducible rfl)
    rotate_left
    try simp (maxSteps := 4000000) only [Act.put, List.setIfInBounds_toArray, List.set_cons_zero, List.set_cons_succ, List.getElem_toArray, List.getElem_cons_zero, List.getElem_cons_succ]
    refine wpAnyH_take (i := 17) (v := ?_) rfl (by kernel_rfl) (by kernel_rfl) (by kernel_rfl) (fun _ _ _ h => h) (Or.inl ⟨by kernel_rfl, ?_⟩) (by assumption) ?_
    rotate_left
    · (intro w hSw; (try dsimp only at hSw); go_simp)
      try (with_reducible rfl)
    rotate_left
    try simp (maxSteps := 4000000) only [Act.put, List.setIfInBounds_toArray, List.set_cons_zero, List.set_cons_succ, List.getElem_toArray, List.getElem_cons_zero, List.getElem_cons_succ]
    refine wpAnyH_ready (rs := [0, 18]) (by kernel_rfl) (by simp) ?_
    refine AllReadyH.cons rfl (fun K2 hK2 => ?_) (AllReadyH.cons rfl (fun K2 hK2 => ?_) AllReadyH.nil)
    all_goals go_simp
    · skip
      obtain ⟨wa, hwa⟩ : ∃ wa, (W1.alloc (.cells #[] 5)).drew = wa := ⟨_, rfl⟩
      have HBwa : Hid (Below W1.heap.size W1 wa) := Lib.hid (by rw [← hwa]; exact (alc0 _ _).drew)
      have hza : wa.heap.size = W1.heap.size + 1 := by rw [← hwa]; simp
      have hswa : (fun w' : World => w'.cell? ⟨X, 0, none⟩ = some (.int .i64 o.k) ∧ w'.cell? ⟨X, 1, none⟩ = some (.int .i64 o.t) ∧ w'.cell? ⟨X, 2, none⟩ = some (.int .i64 o.a) ∧ w'.cell? ⟨X, 3, none⟩ = some (.int .i64 o.b) ∧ w'.cell? ⟨X, 4, none⟩ = some (.int .i64 o.v) ∧ w'.cell? ⟨X, 5, none⟩ = some (.int .i64 o.n) ∧ w'.cell? ⟨X, 6, none⟩ = some (.int .i64 o.m) ∧ w'.cell? ⟨X, 7, none⟩ = some (.slice A d.length c)) wa := ⟨(HBwa.out.cell (p := ⟨X, 0, none⟩) hzX).trans cc0, (HBwa.out.cell (p := ⟨X, 1, none⟩) hzX).trans cc1, (HBwa.out.cell (p := ⟨X, 2, none⟩) hzX).trans cc2, (HBwa.out.cell (p := ⟨X, 3, none⟩) hzX).trans cc3, (HBwa.out.cell (p := ⟨X, 4, none⟩) hzX).trans cc4, (HBwa.out.cell (p := ⟨X, 5, none⟩) hzX).trans cc5, (HBwa.out.cell (p := ⟨X, 6, none⟩) hzX).trans cc6, (HBwa.out.cell (p := ⟨X, 7, none⟩) hzX).trans cc7⟩
      have HFa : Hid (wa = (W1.alloc (.cells #[] 5)).drew) := Lib.hid hwa.symm
      rw [hwa]
      clear hwa
      refine hK2.out _ _ hswa (fun hHeld2 => ?_)
      clear hK2 K2 hHeld
      have hHeld := hHeld2
      clear hHeld2
      try simp (maxSteps := 4000000) only [Act.put, List.setIfInBounds_toArray, List.set_cons_zero, List.set_cons_succ]
      refine wpAnyH_take (i := 19) (v := ?_) rfl (by kernel_rfl) (by kernel_rfl) (by kernel_rfl) (fun _ _ _ h => h) (Or.inl ⟨by kernel_rfl, ?_⟩) (by assumption) ?_
      rotate_left
      · (intro w hSw; (try dsimp only at hSw); go_simp)
        try (with_reducible rfl)
      rotate_left
      try simp (maxSteps := 4000000) only [Act.put, List.setIfInBounds_toArray, List.set_cons_zero, List.set_cons_succ, List.getElem_toArray, List.getElem_cons_zero, List.getElem_cons_succ]
      refine wpAnyH_ready (rs := [18]) (by kernel_rfl) (by simp) ?_
      refine AllReadyH.cons rfl (fun K2 hK2 => ?_) AllReadyH.nil
      go_simp
      obtain ⟨wb, hwb⟩ : ∃ wb, wa.alloc (.cells #[.int .i64 o.k, .int .i64 o.t, .int .i64 o.a, .int .i64 o.b, .int .i64 o.v, .int .i64 o.n, .int .i64 o.m, .int .i64 (d.length : Int)] 3) = wb := ⟨_, rfl⟩
      have HBwb : Hid (Below W1.heap.size W1 wb) := Lib.hid (by rw [← hwb]; exact alc HBwa.out _)
      have hswb : (fun w' : World => w'.cell? ⟨X, 0, none⟩ = some (.int .i64 o.k) ∧ w'.cell? ⟨X, 1, none⟩ = some (.int .i64 o.t) ∧ w'.cell? ⟨X, 2, none⟩ = some (.int .i64 o.a) ∧ w'.cell? ⟨X, 3, none⟩ = some (.int .i64 o.b) ∧ w'.cell? ⟨X, 4, none⟩ = some (.int .i64 o.v) ∧ w'.cell? ⟨X, 5, none⟩ = some (.int .i64 o.n) ∧ w'.cell? ⟨X, 6, none⟩ = some (.int .i64 o.m) ∧ w'.cell? ⟨X, 7, none⟩ = some (.slice A d.length c)) wb := ⟨(HBwb.out.cell (p := ⟨X, 0, none⟩) hzX).trans cc0, (HBwb.out.cell (p := ⟨X, 1, none⟩) hzX).trans cc1, (HBwb.out.cell (p := ⟨X, 2, none⟩) hzX).trans cc2, (HBwb.out.cell (p := ⟨X, 3, none⟩) hzX).trans cc3, (HBwb.out.cell (p := ⟨X, 4, none⟩) hzX).trans cc4, (HBwb.out.cell (p := ⟨X, 5, none⟩) hzX).trans cc5, (HBwb.out.cell (p := ⟨X, 6, none⟩) hzX).trans cc6, (HBwb.out.cell (p := ⟨X, 7, none⟩) hzX).trans cc7⟩
      have HFb : Hid (wb = wa.alloc (.cells #[.int .i64 o.k, .int .i64 o.t, .int .i64 o.a, .int .i64 o.b, .int .i64 o.v, .int .i64 o.n, .int .i64 o.m, .int .i64 (d.length : Int)] 3)) := Lib.hid hwb.symm
      rw [hwb]
      clear hwb
      try rw [hza]
      refine hK2.out _ _ hswb (fun hHeld2 => ?_)
      clear hK2 K2 hHeld
      have hHeld := hHeld2
      clear hHeld2
      try simp (maxSteps := 4000000) only [Act.put, List.setIfInBounds_toArray, List.set_cons_zero, List.set_cons_succ]
      refine wpAnyH_take (i := 20) (v := ?_) rfl (by kernel_rfl) (by kernel_rfl) (by kernel_rfl) (fun _ _ _ h => h) (Or.inl ⟨by kernel_rfl, ?_⟩) (by assumption) ?_
      rotate_left
      · (intro w hSw; (try dsimp only at hSw); go_simp)
        try (with_reducible rfl)
      rotate_left
      try simp (maxSteps := 4000000) only [Act.put, List.setIfInBounds_toArray, List.set_cons_zero, List.set_cons_succ, List.getElem_toArray, List.getElem_cons_zero, List.getElem_cons_succ]
      refine wpAnyH_done (by kernel_rfl) ?_ _
      have HZ := Lib.hid hza
      clear hza hswa hswb
      go_wp2_with fail
      go_meet
      refine ⟨W1.heap.size, W1.heap.size + 1, rfl, rfl, Lib.hid ?_, Lib.hid ?_, Lib.hid ?_, Lib.hid (by first | exact HBwb.out | exact below_drewN HBwb.out _ | exact HBwb.out.drew)⟩
      · have h : BY W1.heap.size wb (.slice (some ⟨W1.heap.size, 0, none⟩) 0 0) [] := by
          have h0 := vz_made 1 W1 5
          have h1 : VZ 1 W1.heap.size wa (.slice (some ⟨W1.heap.size, 0, none⟩) 0 0) 0 [] := by rw [HFa.out]; exact VZ.below h0 (Below.refl _ _).drew
          rw [HFb.out]
          exact VZ.below h1 (alc0 _ _)
        first | exact h | exact VZ.below h (Below.refl _ _).drew | exact VZ.below h (below_drewN (Below.refl _ _) _)
      · refine ⟨Nat.le_refl _, by omega, by omega, ?_⟩
        have h : W1.heap.size + 1 < wb.heap.size := by rw [HFb.out]; simp; have := HZ.out; omega
        exact h
      · intro j x hj
        have h : wb.cell? ⟨W1.heap.size + 1, j, none⟩ = some (.int .i64 x) := by
          rw [HFb.out, ← HZ.out]
          exact cells8 wa _ _ _ _ _ _ _ _ _ j x hj
        exact h
    · skip
      obtain ⟨wa, hwa⟩ : ∃ wa, (W1.alloc (.cells #[.int .i64 o.k, .int .i64 o.t, .int .i64 o.a, .int .i64 o.b, .int .i64 o.v, .int .i64 o.n, .int .i64 o.m, .int .i64 (d.length : Int)] 3)).drew = wa := ⟨_, rfl⟩
      have HBwa : Hid (Below W1.heap.size W1 wa) := Lib.hid (by rw [← hwa]; exact (alc0 _ _).drew)
      have hza : wa.heap.size = W1.heap.size + 1 := by rw [← hwa]; simp
      have hswa : (fun w' : World => w'.cell? ⟨X, 0, none⟩ = some (.int .i64 o.k) ∧ w'.cell? ⟨X, 1, none⟩ = some (.int .i64 o.t) ∧ w'.cell? ⟨X, 2, none⟩ = some (.int .i64 o.a) ∧ w'.cell? ⟨X, 3, none⟩ = some (.int .i64 o.b) ∧ w'.cell? ⟨X, 4, none⟩ = some (.int .i64 o.v) ∧ w'.cell? ⟨X, 5, none⟩ = some (.int .i64 o.n) ∧ w'.cell? ⟨X, 6, none⟩ = some (.int .i64 o.m) ∧ w'.cell? ⟨X, 7, none⟩ = some (.slice A d.length c)) wa := ⟨(HBwa.out.cell (p := ⟨X, 0, none⟩) hzX).trans cc0, (HBwa.out.cell (p := ⟨X, 1, none⟩) hzX).trans cc1, (HBwa.out.cell (p := ⟨X, 2, none⟩) hzX).trans cc2, (HBwa.out.cell (p := ⟨X, 3, none⟩) hzX).trans cc3, (HBwa.out.cell (p := ⟨X, 4, none⟩) hzX).trans cc4, (HBwa.out.cell (p := ⟨X, 5, none⟩) hzX).trans cc5, (HBwa.out.cell (p := ⟨X, 6, none⟩) hzX).trans cc6, (HBwa.out.cell (p := ⟨X, 7, none⟩) hzX).trans cc7⟩
      have HFa : Hid (wa = (W1.alloc (.cells #[.int .i64 o.k, .int .i64 o.t, .int .i64 o.a, .int .i64 o.b, .int .i64 o.v, .int .i64 o.n, .int .i64 o.m, .int .i64 (d.length : Int)] 3)).drew) := Lib.hid hwa.symm
      rw [hwa]
      clear hwa
      refine hK2.out _ _ hswa (fun hHeld2 => ?_)
      clear hK2 K2 hHeld
      have hHeld := hHeld2
      clear hHeld2
      try simp (maxSteps := 4000000) only [Act.put, List.setIfInBounds_toArray, List.set_cons_zero, List.set_cons_succ]
      refine wpAnyH_ready (rs := [0]) (by kernel_rfl) (by simp) ?_
      refine AllReadyH.cons rfl (fun K2 hK2 => ?_) AllReadyH.nil
      go_simp
      obtain ⟨wb, hwb⟩ : ∃ wb, wa.alloc (.cells #[] 5) = wb := ⟨_, rfl⟩
      have HBwb : Hid (Below W1.heap.size W1 wb) := Lib.hid (by rw [← hwb]; exact alc HBwa.out _)
      have hswb : (fun w' : World => w'.cell? ⟨X, 0, none⟩ = some (.int .i64 o.k) ∧ w'.cell? ⟨X, 1, none⟩ = some (.int .i64 o.t) ∧ w'.cell? ⟨X, 2, none⟩ = some (.int .i64 o.a) ∧ w'.cell? ⟨X, 3, none⟩ = some (.int .i64 o.b) ∧ w'.cell? ⟨X, 4, none⟩ = some (.int .i64 o.v) ∧ w'.cell? ⟨X, 5, none⟩ = some (.int .i64 o.n) ∧ w'.cell? ⟨X, 6, none⟩ = some (.int .i64 o.m) ∧ w'.cell? ⟨X, 7, none⟩ = some (.slice A d.length c)) wb := ⟨(HBwb.out.cell (p := ⟨X, 0, none⟩) hzX).trans cc0, (HBwb.out.cell (p := ⟨X, 1, none⟩) hzX).trans cc1, (HBwb.out.cell (p := ⟨X, 2, none⟩) hzX).trans cc2, (HBwb.out.cell (p := ⟨X, 3, none⟩) hzX).trans cc3, (HBwb.out.cell (p := ⟨X, 4, none⟩) hzX).trans cc4, (HBwb.out.cell (p := ⟨X, 5, none⟩) hzX).trans cc5, (HBwb.out.cell (p := ⟨X, 6, none⟩) hzX).trans cc6, (HBwb.out.cell (p := ⟨X, 7, none⟩) hzX).trans cc7⟩
      have HFb : Hid (wb = wa.alloc (.cells #[] 5)) := Lib.hid hwb.symm
      rw [hwb]
      clear hwb
      try rw [hza]
      refine hK2.out _ _ hswb (fun hHeld2 => ?_)
      clear hK2 K2 hHeld
      have hHeld := hHeld2
      clear hHeld2
      try simp (maxSteps := 4000000) only [Act.put, List.setIfInBounds_toArray, List.set_cons_zero, List.set_cons_succ]
      refine wpAnyH_take (i := 19) (v := ?_) rfl (by kernel_rfl) (by kernel_rfl) (by kernel_rfl) (fun _ _ _ h => h) (Or.inl ⟨by kernel_rfl, ?_⟩) (by assumption) ?_
      rotate_left
      · (intro w hSw; (try dsimp only at hSw); go_simp)
        try (with_reducible rfl)
      rotate_left
      try simp (maxSteps := 4000000) only [Act.put, List.setIfInBounds_toArray, List.set_cons_zero, List.set_cons_succ, List.getElem_toArray, List.getElem_cons_zero, List.getElem_cons_succ]
      refine wpAnyH_take (i := 20) (v := ?_) rfl (by kernel_rfl) (by kernel_rfl) (by kernel_rfl) (fun _ _ _ h => h) (Or.inl ⟨by kernel_rfl, ?_⟩) (by assumption) ?_
      rotate_left
      · (intro w hSw; (try dsimp only at hSw); go_simp)
        try (with_reducible rfl)
      rotate_left
      try simp (maxSteps := 4000000) only [Act.put, List.setIfInBounds_toArray, List.set_cons_zero, List.set_cons_succ, List.getElem_toArray, List.getElem_cons_zero, List.getElem_cons_succ]
      refine wpAnyH_done (by kernel_rfl) ?_ _
      have HZ := Lib.hid hza
      clear hza hswa hswb
      go_wp2_with fail
      go_meet
      refine ⟨W1.heap.size + 1, W1.heap.size, rfl, rfl, Lib.hid ?_, Lib.hid ?_, Lib.hid ?_, Lib.hid (by first | exact HBwb.out | exact below_drewN HBwb.out _ | exact HBwb.out.drew)⟩
      · have h : BY (W1.heap.size + 1) wb (.slice (some ⟨W1.heap.size + 1, 0, none⟩) 0 0) [] := by
          rw [HFb.out, ← HZ.out]
          exact vz_made 1 wa 5
        first | exact h | exact VZ.below h (Below.refl _ _).drew | exact VZ.below h (below_drewN (Below.refl _ _) _)
      · refine ⟨by omega, Nat.le_refl _, by omega, ?_⟩
        have h : W1.heap.size < wb.heap.size := by rw [HFb.out]; simp; have := HZ.out; omega
        exact h
      · intro j x hj
        have h : wb.cell? ⟨W1.heap.size, j, none⟩ = some (.int .i64 x) := by
          have hk : wb.heap[W1.heap.size]? = (W1.alloc (.cells #[.int .i64 o.k, .int .i64 o.t, .int .i64 o.a, .int .i64 o.b, .int .i64 o.v, .int .i64 o.n, .int .i64 o.m, .int .i64 (d.length : Int)] 3)).heap[W1.heap.size]? := by
            rw [HFb.out, Below.heap_alloc _ _ _ (by have := HZ.out; omega), HFa.out]
            rfl
          rw [World.cell?_of_block hk]
          exact cells8 W1 _ _ _ _ _ _ _ _ _ j x hj
        exact h
  case rest =>
    obtain ⟨B, L, rfl, rfl, HBY, HBL, HCL, HB2⟩ := hcut
    obtain ⟨Q8, hQ8⟩ : ∃ Q8, o.l ++ [(d.length : Int)] = Q8 := ⟨_, rfl⟩
    have hd9 : (-9223372036854775808 : Int) ≤ (d.length : Int) ∧ (d.length : Int) ≤ 9223372036854775807 := by omega
    have HQok : Hid (∀ x ∈ Q8, -9223372036854775808 ≤ x ∧ x ≤ 9223372036854775807) := Lib.hid (fun x hx => by
      rw [← hQ8] at hx
      rcases List.mem_append.1 hx with h | h
      · exact HO.out x h
      · simp at h; subst h; exact hd9)
    have HQl : Hid (Q8.length = 8) := Lib.hid (by rw [← hQ8]; rfl)
    have HQ8 := Lib.hid hQ8
    rw [hQ8] at HCL
    have HC7 := Lib.hid cc7
    clear cc0 cc1 cc2 cc3 cc4 cc5 cc6 cc7 hQ8 hd9
    go_wp2_with fail
    go_loopw [3, 5] (fun v3 v5 wr => ∃ (i b' : Nat), i ≤ 8 ∧ v5 = .int .i64 i ∧ Hid (BY b' wr v3 (vbs (Q8.take i))) ∧ Hid (W1.heap.size ≤ b' ∧ b' ≠ L ∧ (v3 ≠ .slice none 0 0)) ∧ Hid (Below W1.heap.size W1 wr ∧ L < wr.heap.size ∧ wr.heap[L]? = wc.heap[L]?)) (fun _ v5 _ => 8 - (intOf v5).toNat)
    case atStart => exact ⟨0, B, by omega, rfl, HBY, Lib.hid ⟨HBL.out.1, HBL.out.2.2.1, by simp⟩, Lib.hid ⟨HB2.out, HBL.out.2.2.2, rfl⟩⟩
    case round =>
      obtain ⟨i, b', hi, rfl, HV, Hb, HW⟩ := hrel
      have hlen : (vbs (Q8.take i)).length ≤ 80 := by
        have := vbs_len (Q8.take i) (fun y hy => HQok.out y (List.mem_of_mem_take hy))
        rw [List.length_take, HQl.out] at this
        omega
      have HLN := Lib.hid hlen
      clear hlen
      by_cases hi8 : i < 8
      · obtain ⟨x, hx⟩ : ∃ x, Q8[i]? = some x := ⟨_, List.getElem?_eq_getElem (by rw [HQl.out]; exact hi8)⟩
        have hxb := HQok.out x (List.mem_of_getElem? hx)
        have r0 : wr.cell? ⟨L, i, none⟩ = some (.int .i64 x) := (World.cell?_of_block HW.out.2.2).trans (HCL.out i x hx)
        have HTK : Hid (vbs (Q8.take (i + 1)) = vbs (Q8.take i) ++ vb (zig x)) := Lib.hid (by rw [List.take_add_one, hx]; simp [vbs])
        have HVL : Hid ((vb (zig x)).length ≤ 10) := Lib.hid (vb_len _ (zig_lt _ hxb))
        have i1 : (i : Int) < 8 := by omega
        have HXB := Lib.hid hxb
        clear hx hxb
        go_wp2_with fail
        refine (refNum x wr HXB.out).mono ?_
        rintro e w2 ⟨bn, vn, rfl, hbn, hvn, hb2, _⟩
        have HR2 : Hid (RD w2 vn (vb (zig x))) := Lib.hid (BY.rd hvn (by have := HVL.out; omega))
        have HV2 : Hid (BY b' w2 u3 (vbs (Q8.take i))) := Lib.hid (VZ.below HV.out hb2)
        have HW2 : Hid (Below W1.heap.size W1 w2 ∧ L < w2.heap.size ∧ w2.heap[L]? = wc.heap[L]?) := Lib.hid ⟨HW.out.1.trans (hb2.mono HW.out.1.size), Nat.lt_of_lt_of_le HW.out.2.1 hb2.size, (hb2.block L HW.out.2.1).trans HW.out.2.2⟩
        clear hbn hvn hb2 HV HW r0
        have hbig : (vbs (Q8.take i)).length + (vb (zig x)).length ≤ 140737488355328 := by have := HLN.out; have := HVL.out; omega
        go_wp2_with (at_builtin; refine app_by rfl _ _ rfl b' _ (vbs (Q8.take i)) rfl HV2.out vn (vb (zig x)) rfl HR2.out hbig ?_)
        rintro v3 w3 ⟨b3, hb3, hv3, ho3, hn3⟩
        have HV3 : Hid (BY b3 w3 v3 (vbs (Q8.take (i + 1)))) := Lib.hid (by rw [HTK.out]; exact hv3)
        have Hb3 : Hid (W1.heap.size ≤ b3 ∧ b3 ≠ L ∧ v3 ≠ .slice none 0 0) := Lib.hid (by
          have h1 := Hb.out
          have h2 := HW2.out.2.1
          have h3 := HW2.out.1.size
          refine ⟨?_, ?_, fun h => h1.2.2 (hn3 h)⟩
          · rcases hb3 with rfl | h; exact h1.1; omega
          · rcases hb3 with rfl | h; exact h1.2.1; omega)
        have HW3 : Hid (Below W1.heap.size W1 w3 ∧ L < w3.heap.size ∧ w3.heap[L]? = wc.heap[L]?) := Lib.hid ⟨HW2.out.1.trans (ho3.2.2 _ Hb.out.1 HW2.out.1.size), Nat.lt_of_lt_of_le HW2.out.2.1 ho3.1, (ho3.2.1 L HW2.out.2.1 (Ne.symm Hb.out.2.1)).trans HW2.out.2.2⟩
        clear hb3 hv3 ho3 hn3 hbig HV2 HW2 HR2
        go_wp2_with fail
        go_roundw
        case rel => exact ⟨i + 1, b3, by omega, by go_num, HV3, Hb3, HW3⟩
        case measure => simp [intOf] <;> omega
      · obtain rfl : i = 8 := by omega
        have HTK : Hid (Q8.take 8 = Q8) := Lib.hid (List.take_of_length_le (by rw [HQl.out]; omega))
        have c7 : wr.cell? ⟨X, 7, none⟩ = some (.slice A d.length c) := (HW.out.1.cell (p := ⟨X, 7, none⟩) hzX).trans HC7.out
        have HRd : Hid (RD wr (.slice A d.length c) d) := Lib.hid ((HD.out.keep HB1.out).keep HW.out.1)
        have hbig : (vbs (Q8.take 8)).length + d.length ≤ 140737488355328 := by have := HLN.out; omega
        clear hi8
        go_upto_region 6 with (fail)
        go_wp2_with (at_builtin; refine app_by rfl _ _ rfl b' _ (vbs (Q8.take 8)) rfl HV.out (.slice A d.length c) d rfl HRd.out hbig ?_)
        rintro v3 w3 ⟨b3, hb3, hv3, ho3, hn3⟩
        have HV3 : Hid (BY b3 w3 v3 (oneB o d)) := Lib.hid (by
          have h := hv3
          rw [HTK.out, ← HQ8.out] at h
          simpa [vbs, oneB] using h)
        have HF : Hid (W.heap.size ≤ b3 ∧ Below W.heap.size W w3 ∧ v3 ≠ .slice none 0 0) := Lib.hid (by
          have h1 := Hb.out
          have h2 := HW.out.1.size
          have h3 := HB1.out.size
          have hB : Below W1.heap.size W1 w3 := HW.out.1.trans (ho3.2.2 _ h1.1 h2)
          refine ⟨?_, HB1.out.trans (hB.mono h3), fun h => h1.2.2 (hn3 h)⟩
          rcases hb3 with rfl | h <;> omega)
        clear hb3 hv3 ho3 hn3 hbig HV HW HRd c7
        go_wp2
        go_ret
        exact ⟨b3, v3, rfl, HF.out.1, HV3.out, HF.out.2.1, HF.out.2.2⟩
end Go.Proofs.Ytahggokeelgjdaa
