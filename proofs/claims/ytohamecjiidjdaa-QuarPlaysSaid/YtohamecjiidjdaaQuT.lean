/- Contracts of package quar: Take, Batches, Has. -/
import Derived.Test.YtohamecjiidjdaaQuS
import Derived.Test.YtohamecjiidjdaaQuM
import Derived.Test.YtohamecjiidjdaaEpo
import Derived.Deep.RegionHeld3
import Derived.Deep.LoopGhost
import Derived.Shelf.GgClosure.Gives
namespace Go.Proofs.Ytohamecjiidjdaa
open Go.RowKit
set_option linter.unusedVariables false
set_option linter.unusedSimpArgs false

/-- The head, and the rest, of a slice. -/
theorem vi_take {b off c : Nat} {W : World} {ms : List It} (n : Nat) (h : VI b W (.slice (some ⟨b, off, none⟩) ms.length c) ms) (hn : n ≤ ms.length) : VI b W (.slice (some ⟨b, off, none⟩) (ms.take n).length c) (ms.take n) := by
  obtain ⟨A, c', e, h1, h2, h3, h4, ⟨h5, _⟩ | ⟨off', e1, hl, hc, hsp⟩⟩ := h
  · injection e with e2; rw [h5] at e2; cases e2
  · injection e with e2 e3 e4
    subst e4
    rw [e1] at e2
    injection e2 with e2
    injection e2 with _ e5
    subst e5
    refine ⟨_, _, rfl, flat_len enc5 5 enc5_len _, by rw [List.length_take]; omega, h3, enc5_one _, .inr ⟨off, rfl, hl, fun j u hu => ?_, hsp⟩⟩
    rw [flat_take enc5 5 enc5_len] at hu
    exact hc j u (take_get hu)
theorem vi_drop {b off c : Nat} {W : World} {ms : List It} (n : Nat) (h : VI b W (.slice (some ⟨b, off, none⟩) ms.length c) ms) (hn : n ≤ ms.length) :
    VI b W (.slice (if c = n then some ⟨b, off, none⟩ else some ⟨b, off + n * 5, none⟩) (ms.length - n) (c - n)) (ms.drop n) := by
  obtain ⟨A, c', e, h1, h2, h3, h4, ⟨h5, _⟩ | ⟨off', e1, hl, hc, hsp⟩⟩ := h
  · injection e with e2; rw [h5] at e2; cases e2
  · injection e with e2 e3 e4
    subst e4
    rw [e1] at e2
    injection e2 with e2
    injection e2 with _ e5
    subst e5
    have hlen : (ms.drop n).length = ms.length - n := List.length_drop
    show VZ 5 b W _ (ms.drop n).length _
    rw [hlen]
    by_cases hcn : c = n
    · have h0 : ms.length - n = 0 := by omega
      refine ⟨_, _, rfl, by rw [flat_len enc5 5 enc5_len, hlen], by omega, by omega, enc5_one _, .inr ⟨off, by simp [hcn], hl, fun j u hu => ?_, fun i hi => by rw [hcn] at hi; simp at hi⟩⟩
      have := (List.getElem?_eq_some_iff.1 hu).1
      rw [flat_len enc5 5 enc5_len, hlen, h0] at this
      omega
    · refine ⟨_, _, rfl, by rw [flat_len enc5 5 enc5_len, hlen], by omega, by omega, enc5_one _, .inr ⟨off + n * 5, by simp [hcn], hl, fun j u hu => ?_, fun i hi => ?_⟩⟩
      · rw [flat_drop enc5 5 enc5_len, List.getElem?_drop] at hu
        have := hc _ u hu
        rwa [← Nat.add_assoc] at this
      · have := hsp (n * 5 + i) (by rw [Nat.sub_mul] at hi; omega)
        rwa [← Nat.add_assoc] at this
/-- How many Take takes. -/
def tk (ms : List It) (N : Int) (on : Bool) : Nat := match ms with
  | [] => 0
  | p :: r => if p.ep < endedI N on then bat p.ep (p :: r) else 0
def TakeQ (g b : Nat) (W : World) (ms : List It) (n : Nat) (e : Ending) (w' : World) : Prop :=
  ∃ b' b1 v, e = .returned v ∧ (b' = b ∨ W.heap.size ≤ b') ∧ Fr g b W w' ∧ QuB g b' w' (ms.drop n) ∧ VI b1 w' v (ms.take n) ∧ W.heap.size ≤ b1
set_option maxHeartbeats 1600000 in
theorem qtake_any (g b : Nat) (ms : List It) (N : Int) (on : Bool) (W : World) (h : QuB g b W ms) (h0 : 0 ≤ N) (h1 : N ≤ 1000) (hsm : ms.length ≤ 100) :
    Calls Try.prog 6 #[.pointer (some ⟨g, 0, none⟩), .agg #[.int .i64 N, .bool on]] W (TakeQ g b W ms (tk ms N on)) := by
  have hbel := alc0 W (.cells #[.int .i64 N, .bool on] 28)
  have H := Lib.hid h
  have hg : g < W.heap.size := h.1
  clear h
  cases ms with
  | nil =>
    go_enter Try.func6, Try.ntmps6
    go_upto_region 1 with (fail)
    refine wp_region_held_drew (S := fun w' => True) (by kernel_rfl) ?_ (fun hHeld => ?_)
    · trivial
    refine wpAnyH_take (i := 0) (v := ?_) rfl (by kernel_rfl) (by kernel_rfl) (by kernel_rfl) (fun _ _ _ h => h) (Or.inl ⟨by kernel_rfl, ?_⟩) (by assumption) ?_
    rotate_left
    · (intro w hSw; (try dsimp only at hSw); go_simp)
      try (with_reducible rfl)
    rotate_left
    try simp (maxSteps := 4000000) only [Act.put, List.setIfInBounds_toArray, List.set_cons_zero, List.set_cons_succ, List.getElem_toArray, List.getElem_cons_zero, List.getElem_cons_succ]
    refine wpAnyH_ready (rs := [1]) (by kernel_rfl) (by simp) ?_
    refine AllReadyH.cons rfl (fun K2 hK2 => ?_) AllReadyH.nil
    go_simp
    refine (qlen g b [] _ ((H.out.below hbel).drw _)).mono ?_
    rintro e w1 ⟨rfl, rfl⟩
    refine hK2.out _ _ ?_ (fun hHeld2 => ?_)
    · trivial
    clear hK2 K2 hHeld
    have hHeld := hHeld2
    clear hHeld2
    try simp (maxSteps := 4000000) only [Act.put, List.setIfInBounds_toArray, List.set_cons_zero, List.set_cons_succ]
    refine wpAnyH_take (i := 2) (v := ?_) rfl (by kernel_rfl) (by kernel_rfl) (by kernel_rfl) (fun _ _ _ h => h) (Or.inl ⟨by kernel_rfl, ?_⟩) (by assumption) ?_
    rotate_left
    · (intro w hSw; (try dsimp only at hSw); go_simp)
      try (with_reducible rfl)
    rotate_left
    try simp (maxSteps := 4000000) only [Act.put, List.setIfInBounds_toArray, List.set_cons_zero, List.set_cons_succ, List.getElem_toArray, List.getElem_cons_zero, List.getElem_cons_succ]
    refine wpAnyH_take (i := 3) (v := ?_) rfl (by kernel_rfl) (by kernel_rfl) (by kernel_rfl) (fun _ _ _ h => h) (Or.inl ⟨by kernel_rfl, ?_⟩) (by assumption) ?_
    rotate_left
    · (intro w hSw; (try dsimp only at hSw); go_simp)
      try (with_reducible rfl)
    rotate_left
    try simp (maxSteps := 4000000) only [Act.put, List.setIfInBounds_toArray, List.set_cons_zero, List.set_cons_succ, List.getElem_toArray, List.getElem_cons_zero, List.getElem_cons_succ]
    refine wpAnyH_take (i := 4) (v := undef) rfl (by kernel_rfl) (by kernel_rfl) (by kernel_rfl) (fun _ _ _ h => h) (Or.inr ⟨by kernel_rfl, rfl⟩) (by assumption) ?_
    try simp (maxSteps := 4000000) only [Act.put, List.setIfInBounds_toArray, List.set_cons_zero, List.set_cons_succ, List.getElem_toArray, List.getElem_cons_zero, List.getElem_cons_succ]
    refine wpAnyH_take (i := 5) (v := undef) rfl (by kernel_rfl) (by kernel_rfl) (by kernel_rfl) (fun _ _ _ h => h) (Or.inr ⟨by kernel_rfl, rfl⟩) (by assumption) ?_
    try simp (maxSteps := 4000000) only [Act.put, List.setIfInBounds_toArray, List.set_cons_zero, List.set_cons_succ, List.getElem_toArray, List.getElem_cons_zero, List.getElem_cons_succ]
    refine wpAnyH_take (i := 6) (v := undef) rfl (by kernel_rfl) (by kernel_rfl) (by kernel_rfl) (fun _ _ _ h => h) (Or.inr ⟨by kernel_rfl, rfl⟩) (by assumption) ?_
    try simp (maxSteps := 4000000) only [Act.put, List.setIfInBounds_toArray, List.set_cons_zero, List.set_cons_succ, List.getElem_toArray, List.getElem_cons_zero, List.getElem_cons_succ]
    refine wpAnyH_take (i := 7) (v := undef) rfl (by kernel_rfl) (by kernel_rfl) (by kernel_rfl) (fun _ _ _ h => h) (Or.inr ⟨by kernel_rfl, rfl⟩) (by assumption) ?_
    try simp (maxSteps := 4000000) only [Act.put, List.setIfInBounds_toArray, List.set_cons_zero, List.set_cons_succ, List.getElem_toArray, List.getElem_cons_zero, List.getElem_cons_succ]
    refine wpAnyH_take (i := 8) (v := undef) rfl (by kernel_rfl) (by kernel_rfl) (by kernel_rfl) (fun _ _ _ h => h) (Or.inr ⟨by kernel_rfl, rfl⟩) (by assumption) ?_
    try simp (maxSteps := 4000000) only [Act.put, List.setIfInBounds_toArray, List.set_cons_zero, List.set_cons_succ, List.getElem_toArray, List.getElem_cons_zero, List.getElem_cons_succ]
    refine wpAnyH_take (i := 9) (v := undef) rfl (by kernel_rfl) (by kernel_rfl) (by kernel_rfl) (fun _ _ _ h => h) (Or.inr ⟨by kernel_rfl, rfl⟩) (by assumption) ?_
    try simp (maxSteps := 4000000) only [Act.put, List.setIfInBounds_toArray, List.set_cons_zero, List.set_cons_succ, List.getElem_toArray, List.getElem_cons_zero, List.getElem_cons_succ]
    refine wpAnyH_take (i := 10) (v := undef) rfl (by kernel_rfl) (by kernel_rfl) (by kernel_rfl) (fun _ _ _ h => h) (Or.inr ⟨by kernel_rfl, rfl⟩) (by assumption) ?_
    try simp (maxSteps := 4000000) only [Act.put, List.setIfInBounds_toArray, List.set_cons_zero, List.set_cons_succ, List.getElem_toArray, List.getElem_cons_zero, List.getElem_cons_succ]
    refine wpAnyH_take (i := 11) (v := undef) rfl (by kernel_rfl) (by kernel_rfl) (by kernel_rfl) (fun _ _ _ h => h) (Or.inr ⟨by kernel_rfl, rfl⟩) (by assumption) ?_
    try simp (maxSteps := 4000000) only [Act.put, List.setIfInBounds_toArray, List.set_cons_zero, List.set_cons_succ, List.getElem_toArray, List.getElem_cons_zero, List.getElem_cons_succ]
    refine wpAnyH_take (i := 12) (v := undef) rfl (by kernel_rfl) (by kernel_rfl) (by kernel_rfl) (fun _ _ _ h => h) (Or.inr ⟨by kernel_rfl, rfl⟩) (by assumption) ?_
    try simp (maxSteps := 4000000) only [Act.put, List.setIfInBounds_toArray, List.set_cons_zero, List.set_cons_succ, List.getElem_toArray, List.getElem_cons_zero, List.getElem_cons_succ]
    refine wpAnyH_take (i := 13) (v := undef) rfl (by kernel_rfl) (by kernel_rfl) (by kernel_rfl) (fun _ _ _ h => h) (Or.inr ⟨by kernel_rfl, rfl⟩) (by assumption) ?_
    try simp (maxSteps := 4000000) only [Act.put, List.setIfInBounds_toArray, List.set_cons_zero, List.set_cons_succ, List.getElem_toArray, List.getElem_cons_zero, List.getElem_cons_succ]
    refine wpAnyH_take (i := 14) (v := ?_) rfl (by kernel_rfl) (by kernel_rfl) (by kernel_rfl) (fun _ _ _ h => h) (Or.inl ⟨by kernel_rfl, ?_⟩) (by assumption) ?_
    rotate_left
    · (intro w hSw; (try dsimp only at hSw); go_simp)
      try (with_reducible rfl)
    rotate_left
    try simp (maxSteps := 4000000) only [Act.put, List.setIfInBounds_toArray, List.set_cons_zero, List.set_cons_succ, List.getElem_toArray, List.getElem_cons_zero, List.getElem_cons_succ]
    refine wpAnyH_done (by kernel_rfl) ?_ _
    go_wp2
    go_ret
    exact ⟨b, _, _, rfl, .inl rfl, Fr.of_below (below_drewN hbel _), (H.out.below hbel).drw _, vz_nil 5 W.heap.size _, Nat.le_refl _⟩
  | cons p r =>
    have H2 := H.out.below hbel
    obtain ⟨_, k2, k3, v, k5, k6⟩ := H2
    rcases vi_open k6 with ⟨_, e⟩ | ⟨off, c, rfl, k7, k8, k9, k10⟩
    · simp at e
    · obtain ⟨z0, z1, z2, z3, z4⟩ := k10 0 p rfl
      simp only [Nat.zero_mul, Nat.add_zero] at z0 z1 z2 z3 z4
      obtain ⟨L, hL⟩ : ∃ L, r.length + 1 = L := ⟨_, rfl⟩
      have hLp : ¬ (L : Int) = 0 := by omega
      have hLp2 : (0 : Int) < L := by omega
      have hLn : 0 < L := by omega
      have hd0 : decide ((0 : Int) < L) = true := by simpa using hLp2
      have hdn : decide (0 < L) = true := by simpa using hLn
      have hLb : ((L : Int) == 0) = false := by rw [beq_eq_false_iff_ne]; omega
      have hlen : (p :: r).length = L := by simp [hL]
      rw [hlen] at k5 k8
      have HLN := Lib.hid hlen
      obtain ⟨T, hT⟩ : ∃ T, tk (p :: r) N on = T := ⟨_, rfl⟩
      rw [hT]
      have HT9 := Lib.hid hT
      clear k6 k10 hlen hL hT
      go_enter Try.func6, Try.ntmps6
      go_upto_region 1 with (fail)
      go_cut [21] (fun v21 wx => ∃ X : Bool, v21 = .bool X ∧ Hid (X = !decide (p.ep < endedI N on)) ∧ Hid (Below W.heap.size W wx))
      case first =>
        obtain ⟨W1, hW1⟩ : ∃ W1, W.alloc (.cells #[.int .i64 N, .bool on] 28) = W1 := ⟨_, rfl⟩
        have c0 : W1.cell? ⟨W.heap.size, 0, none⟩ = some (.int .i64 N) := by rw [← hW1]; simp
        have c1 : W1.cell? ⟨W.heap.size, 1, none⟩ = some (.bool on) := by rw [← hW1]; simp
        have HB1 : Hid (Below W.heap.size W W1) := Lib.hid (by rw [← hW1]; exact hbel)
        have HQ1 : Hid (QuB g b W1 (p :: r)) := Lib.hid (H.out.below HB1.out)
        rw [hW1] at k5 z4 ⊢
        clear hW1 z0 z1 z2 z3
        refine wp_region_held_drew (S := fun w' => w'.cell? ⟨W.heap.size, 0, none⟩ = some (.int .i64 N) ∧ w'.cell? ⟨W.heap.size, 1, none⟩ = some (.bool on) ∧ w'.cell? ⟨g, 0, none⟩ = some (.slice (some ⟨b, off, none⟩) L c) ∧ w'.cell? ⟨b, off + 4, none⟩ = some (.int .i64 p.ep)) (by kernel_rfl) ?_ (fun hHeld => ?_)
        · exact ⟨c0, c1, k5, z4⟩
        refine wpAnyH_take (i := 0) (v := ?_) rfl (by kernel_rfl) (by kernel_rfl) (by kernel_rfl) (fun _ _ _ h => h) (Or.inl ⟨by kernel_rfl, ?_⟩) (by assumption) ?_
        rotate_left
        · (intro w hSw; (try dsimp only at hSw); go_simp)
          try (with_reducible rfl)
        rotate_left
        try simp (maxSteps := 4000000) only [Act.put, List.setIfInBounds_toArray, List.set_cons_zero, List.set_cons_succ, List.getElem_toArray, List.getElem_cons_zero, List.getElem_cons_succ]
        refine wpAnyH_ready (rs := [1]) (by kernel_rfl) (by simp) ?_
        refine AllReadyH.cons rfl (fun K2 hK2 => ?_) AllReadyH.nil
        go_simp
        refine (qlen g b (p :: r) _ (HQ1.out.drw _)).mono ?_
        rintro e w1 ⟨rfl, rfl⟩
        rw [HLN.out]
        refine hK2.out _ _ ?_ (fun hHeld2 => ?_)
        · exact ⟨c0, c1, k5, z4⟩
        clear hK2 K2 hHeld
        have hHeld := hHeld2
        clear hHeld2
        try simp (maxSteps := 4000000) only [Act.put, List.setIfInBounds_toArray, List.set_cons_zero, List.set_cons_succ]
        refine wpAnyH_take (i := 2) (v := ?_) rfl (by kernel_rfl) (by kernel_rfl) (by kernel_rfl) (fun _ _ _ h => h) (Or.inl ⟨by kernel_rfl, ?_⟩) (by assumption) ?_
        rotate_left
        · (intro w hSw; (try dsimp only at hSw); go_simp)
          try (with_reducible rfl)
        rotate_left
        try simp (maxSteps := 4000000) only [Act.put, List.setIfInBounds_toArray, List.set_cons_zero, List.set_cons_succ, List.getElem_toArray, List.getElem_cons_zero, List.getElem_cons_succ]
        refine wpAnyH_take (i := 3) (v := ?_) rfl (by kernel_rfl) (by kernel_rfl) (by kernel_rfl) (fun _ _ _ h => h) (Or.inl ⟨by kernel_rfl, ?_⟩) (by assumption) ?_
        rotate_left
        · (intro w hSw; (try dsimp only at hSw); go_simp)
          try (with_reducible rfl)
        rotate_left
        try simp (maxSteps := 4000000) only [Act.put, List.setIfInBounds_toArray, List.set_cons_zero, List.set_cons_succ, List.getElem_toArray, List.getElem_cons_zero, List.getElem_cons_succ]
        refine wpAnyH_take (i := 4) (v := ?_) rfl (by kernel_rfl) (by kernel_rfl) (by kernel_rfl) (fun _ _ _ h => h) (Or.inl ⟨by kernel_rfl, ?_⟩) (by assumption) ?_
        rotate_left
        · (intro w hSw; (try dsimp only at hSw); go_simp)
          try (with_reducible rfl)
        rotate_left
        try simp (maxSteps := 4000000) only [Act.put, List.setIfInBounds_toArray, List.set_cons_zero, List.set_cons_succ, List.getElem_toArray, List.getElem_cons_zero, List.getElem_cons_succ]
        refine wpAnyH_take (i := 5) (v := ?_) rfl (by kernel_rfl) (by kernel_rfl) (by kernel_rfl) (fun _ _ _ h => h) (Or.inl ⟨by kernel_rfl, ?_⟩) (by assumption) ?_
        rotate_left
        · (intro w hSw; (try dsimp only at hSw); go_simp)
          try (with_reducible rfl)
        rotate_left
        try simp (maxSteps := 4000000) only [Act.put, List.setIfInBounds_toArray, List.set_cons_zero, List.set_cons_succ, List.getElem_toArray, List.getElem_cons_zero, List.getElem_cons_succ]
        refine wpAnyH_take (i := 6) (v := ?_) rfl (by kernel_rfl) (by kernel_rfl) (by kernel_rfl) (fun _ _ _ h => h) (Or.inl ⟨by kernel_rfl, ?_⟩) (by assumption) ?_
        rotate_left
        · (intro w hSw; (try dsimp only at hSw); go_simp)
          try (with_reducible rfl)
        rotate_left
        try simp (maxSteps := 4000000) only [Act.put, List.setIfInBounds_toArray, List.set_cons_zero, List.set_cons_succ, List.getElem_toArray, List.getElem_cons_zero, List.getElem_cons_succ]
        refine wpAnyH_take (i := 7) (v := ?_) rfl (by kernel_rfl) (by kernel_rfl) (by kernel_rfl) (fun _ _ _ h => h) (Or.inl ⟨by kernel_rfl, ?_⟩) (by assumption) ?_
        rotate_left
        · (intro w hSw; (try dsimp only at hSw); go_simp)
          try (with_reducible rfl)
        rotate_left
        try simp (maxSteps := 4000000) only [Act.put, List.setIfInBounds_toArray, List.set_cons_zero, List.set_cons_succ, List.getElem_toArray, List.getElem_cons_zero, List.getElem_cons_succ]
        refine wpAnyH_take (i := 8) (v := ?_) rfl (by kernel_rfl) (by kernel_rfl) (by kernel_rfl) (fun _ _ _ h => h) (Or.inl ⟨by kernel_rfl, ?_⟩) (by assumption) ?_
        rotate_left
        · (intro w hSw; (try dsimp only at hSw); go_simp)
          try (with_reducible rfl)
        rotate_left
        try simp (maxSteps := 4000000) only [Act.put, List.setIfInBounds_toArray, List.set_cons_zero, List.set_cons_succ, List.getElem_toArray, List.getElem_cons_zero, List.getElem_cons_succ]
        refine wpAnyH_take (i := 9) (v := ?_) rfl (by kernel_rfl) (by kernel_rfl) (by kernel_rfl) (fun _ _ _ h => h) (Or.inl ⟨by kernel_rfl, ?_⟩) (by assumption) ?_
        rotate_left
        · (intro w hSw; (try dsimp only at hSw); go_simp)
          try (with_reducible rfl)
        rotate_left
        try simp (maxSteps := 4000000) only [Act.put, List.setIfInBounds_toArray, List.set_cons_zero, List.set_cons_succ, List.getElem_toArray, List.getElem_cons_zero, List.getElem_cons_succ]
        refine wpAnyH_take (i := 10) (v := ?_) rfl (by kernel_rfl) (by kernel_rfl) (by kernel_rfl) (fun _ _ _ h => h) (Or.inl ⟨by kernel_rfl, ?_⟩) (by assumption) ?_
        rotate_left
        · (intro w hSw; (try dsimp only at hSw); go_simp)
          try (with_reducible rfl)
        rotate_left
        try simp (maxSteps := 4000000) only [Act.put, List.setIfInBounds_toArray, List.set_cons_zero, List.set_cons_succ, List.getElem_toArray, List.getElem_cons_zero, List.getElem_cons_succ]
        refine wpAnyH_take (i := 11) (v := ?_) rfl (by kernel_rfl) (by kernel_rfl) (by kernel_rfl) (fun _ _ _ h => h) (Or.inl ⟨by kernel_rfl, ?_⟩) (by assumption) ?_
        rotate_left
        · (intro w hSw; (try dsimp only at hSw); go_simp)
          try (with_reducible rfl)
        rotate_left
        try simp (maxSteps := 4000000) only [Act.put, List.setIfInBounds_toArray, List.set_cons_zero, List.set_cons_succ, List.getElem_toArray, List.getElem_cons_zero, List.getElem_cons_succ]
        refine wpAnyH_ready (rs := [12]) (by kernel_rfl) (by simp) ?_
        refine AllReadyH.cons rfl (fun K2 hK2 => ?_) AllReadyH.nil
        go_simp
        refine (epast _ _ _ _ h0 h1).mono ?_
        rintro e w2 ⟨rfl, hb2⟩
        have HB2 : Hid (Below W.heap.size W w2) := Lib.hid (thn (below_drewN HB1.out _) hb2)
        have hs : (fun w' : World => w'.cell? ⟨W.heap.size, 0, none⟩ = some (.int .i64 N) ∧ w'.cell? ⟨W.heap.size, 1, none⟩ = some (.bool on) ∧ w'.cell? ⟨g, 0, none⟩ = some (.slice (some ⟨b, off, none⟩) L c) ∧ w'.cell? ⟨b, off + 4, none⟩ = some (.int .i64 p.ep)) w2 := by
          have hz : W.heap.size < W1.heap.size := World.block_lt_of_cell? W1 ⟨W.heap.size, 0, none⟩ c0
          have hz2 : g < W1.heap.size := World.block_lt_of_cell? W1 ⟨g, 0, none⟩ k5
          have hz3 : b < W1.heap.size := World.block_lt_of_cell? W1 ⟨b, off + 4, none⟩ z4
          exact ⟨(hb2.cell hz).trans c0, (hb2.cell hz).trans c1, (hb2.cell hz2).trans k5, (hb2.cell hz3).trans z4⟩
        clear hb2
        refine hK2.out _ _ hs (fun hHeld2 => ?_)
        clear hK2 K2 hHeld
        have hHeld := hHeld2
        clear hHeld2 hs
        try simp (maxSteps := 4000000) only [Act.put, List.setIfInBounds_toArray, List.set_cons_zero, List.set_cons_succ]
        refine wpAnyH_take (i := 13) (v := ?_) rfl (by kernel_rfl) (by kernel_rfl) (by kernel_rfl) (fun _ _ _ h => h) (Or.inl ⟨by kernel_rfl, ?_⟩) (by assumption) ?_
        rotate_left
        · (intro w hSw; (try dsimp only at hSw); go_simp)
          try (with_reducible rfl)
        rotate_left
        try simp (maxSteps := 4000000) only [Act.put, List.setIfInBounds_toArray, List.set_cons_zero, List.set_cons_succ, List.getElem_toArray, List.getElem_cons_zero, List.getElem_cons_succ]
        refine wpAnyH_take (i := 14) (v := ?_) rfl (by kernel_rfl) (by kernel_rfl) (by kernel_rfl) (fun _ _ _ h => h) (Or.inl ⟨by kernel_rfl, ?_⟩) (by assumption) ?_
        rotate_left
        · (intro w hSw; (try dsimp only at hSw); go_simp)
          try (with_reducible rfl)
        rotate_left
        try simp (maxSteps := 4000000) only [Act.put, List.setIfInBounds_toArray, List.set_cons_zero, List.set_cons_succ, List.getElem_toArray, List.getElem_cons_zero, List.getElem_cons_succ]
        refine wpAnyH_done (by kernel_rfl) ?_ _
        go_wp2_with fail
        go_meet
        exact ⟨_, rfl, Lib.hid rfl, Lib.hid HB2.out⟩
      case rest =>
        obtain ⟨X, rfl, HX, HB⟩ := hcut
        have HQ : Hid (QuB g b wc (p :: r)) := Lib.hid (H.out.below HB.out)
        clear hbel k5 z0 z1 z2 z3 z4 k3 k9 k7
        cases X with
        | true =>
          obtain rfl : T = 0 := by
            have h := HX.out
            have h2 : decide (p.ep < endedI N on) = false := by simpa using h
            rw [← HT9.out, tk, if_neg (of_decide_eq_false h2)]
          clear HX
          go_wp2
          go_ret
          exact ⟨b, _, _, rfl, .inl rfl, Fr.of_below HB.out, HQ.out, vz_nil 5 W.heap.size _, Nat.le_refl _⟩
        | false =>
          have hn : bat p.ep (p :: r) = T := by
            have h := HX.out
            have h2 : decide (p.ep < endedI N on) = true := by simpa using h
            rw [← HT9.out, tk, if_pos (of_decide_eq_true h2)]
          clear HX
          have hn1 := bat_pos p.ep (p :: r) p rfl rfl
          have hn2 := bat_le p.ep (p :: r)
          rw [HLN.out] at hn2
          go_wp2_with fail
          refine (qbatch g b 0 (p :: r) p wc HQ.out rfl hsm).mono ?_
          rintro e w2 ⟨rfl, q2, hw2⟩
          rw [List.drop_zero]
          have HB2 : Hid (Below W.heap.size W w2) := Lib.hid (by rw [hw2]; exact below_drewN HB.out _)
          have HQ2 : Hid (QuB g b w2 (p :: r)) := Lib.hid (H.out.below HB2.out)
          clear hw2 HQ HB
          rw [hn] at hn1 hn2 ⊢
          obtain ⟨_, k2, k3, v, k5, k6⟩ := HQ2.out
          rcases vi_open k6 with ⟨_, e⟩ | ⟨off, c, rfl, k7, k8, k9, k10⟩
          · simp at e
          · have hTl : ((p :: r).take T).length = T := by rw [List.length_take, HLN.out]; omega
            have hT9 := vi_take T k6 (by rw [HLN.out]; exact hn2)
            rw [hTl] at hT9
            have HT := Lib.hid hT9
            have hD9 := vi_drop T k6 (by rw [HLN.out]; exact hn2)
            rw [HLN.out] at k5 k8 hD9
            have HD := Lib.hid hD9
            clear hT9 hD9 hTl
            have i1 : (T : Int) ≤ c := by omega
            have i2 : (T : Int) ≤ L := by omega
            clear k6 k10 hn
            go_wp2_with fail
            refine (clone_item b _ _ w2 HT.out (by rw [List.length_take]; omega)).mono ?_
            rintro e w3 ⟨b3, v3, rfl, hb3, hv3, hbel3⟩
            have HB3 : Hid (Below W.heap.size W w3) := Lib.hid (thn HB2.out hbel3)
            have HQ3 : Hid (QuB g b w3 (p :: r)) := Lib.hid (HQ2.out.below hbel3)
            have HV3 := Lib.hid hv3
            have HS3 : Hid (W.heap.size ≤ b3 ∧ b3 < w3.heap.size ∨ W.heap.size ≤ b3 ∧ p :: r = p :: r) := Lib.hid (.inr ⟨by have := HB2.out.size; omega, rfl⟩)
            have HDD := Lib.hid (HD.out.below hbel3)
            have k5' : w3.cell? ⟨g, 0, none⟩ = some (.slice (some ⟨b, off, none⟩) L c) := by
              have hz2 : g < w2.heap.size := World.block_lt_of_cell? w2 ⟨g, 0, none⟩ k5
              exact (hbel3.cell hz2).trans k5
            have hbw : W.heap.size ≤ b3 := by have := HB2.out.size; omega
            have HBW := Lib.hid hbw
            clear hb3 hv3 hbel3 k3 k5 k7 k9 HS3 hbw
            have hcc : c = T ∨ ¬ c = T := by omega
            rcases hcc with hcT | hcT
            · have HDE : Hid (VI b w3 (.slice (some ⟨b, off, none⟩) (L - T) 0) ((p :: r).drop T)) := Lib.hid (by have := HDD.out; rw [if_pos hcT, hcT, Nat.sub_self] at this; exact this)
              rw [hcT] at k5'
              clear i1 k8 hcT HT HD HDD
              go_wp2_with fail
              refine (clone_item b _ _ w3 HDE.out (by rw [List.length_drop]; omega)).mono ?_
              rintro e w4 ⟨b4, v4, rfl, hb4, hv4, hbel4⟩
              have hg4 : w4.heap[g]? = w3.heap[g]? := hbel4.block g HQ3.out.1
              have k5'' := (World.cell?_of_block hg4 (a := ⟨g, 0, none⟩)).trans k5'
              have f5 := (World.frozen?_of_block hg4 (a := ⟨g, 0, none⟩)).trans (HQ3.out.2.2.1 0)
              have hsh := hv4
              obtain ⟨A4, c4, rfl, _⟩ := hsh
              obtain ⟨L4, hL4⟩ : ∃ L4, ((p :: r).drop T).length = L4 := ⟨_, rfl⟩
              rw [hL4] at hv4 ⊢
              clear hL4
              have h3g := HQ3.out.1
              have HP : Hid (QuB g b4 (w4.setCell ⟨g, 0, none⟩ (.slice A4 L4 c4)) ((p :: r).drop T)) := Lib.hid (HQ3.out.put hbel4.size hg4 hv4 (by omega))
              have HF : Hid (Fr g b W (w4.setCell ⟨g, 0, none⟩ (.slice A4 L4 c4))) := Lib.hid ((Fr.of_below (thn HB3.out hbel4)).set 0 _)
              have HV4 : Hid (VI b3 (w4.setCell ⟨g, 0, none⟩ (.slice A4 L4 c4)) v3 ((p :: r).take T)) := Lib.hid ((HV3.out.below hbel4).far (by have := HBW.out; omega))
              have HB4 : Hid (W.heap.size ≤ b4) := Lib.hid (by have := HB3.out.size; omega)
              clear hv4 hbel4 hb4 hg4 k5'
              go_wp2
              go_ret
              exact ⟨b4, b3, v3, rfl, .inr HB4.out, HF.out, HP.out, HV4.out, HBW.out⟩
            · have HDE : Hid (VI b w3 (.slice (some ⟨b, off + T * 5, none⟩) (L - T) (c - T)) ((p :: r).drop T)) := Lib.hid (by have := HDD.out; rw [if_neg hcT] at this; exact this)
              clear HT HD HDD
              go_wp2_with fail
              refine (clone_item b _ _ w3 HDE.out (by rw [List.length_drop]; omega)).mono ?_
              rintro e w4 ⟨b4, v4, rfl, hb4, hv4, hbel4⟩
              have hg4 : w4.heap[g]? = w3.heap[g]? := hbel4.block g HQ3.out.1
              have k5'' := (World.cell?_of_block hg4 (a := ⟨g, 0, none⟩)).trans k5'
              have f5 := (World.frozen?_of_block hg4 (a := ⟨g, 0, none⟩)).trans (HQ3.out.2.2.1 0)
              have hsh := hv4
              obtain ⟨A4, c4, rfl, _⟩ := hsh
              obtain ⟨L4, hL4⟩ : ∃ L4, ((p :: r).drop T).length = L4 := ⟨_, rfl⟩
              rw [hL4] at hv4 ⊢
              clear hL4
              have h3g := HQ3.out.1
              have HP : Hid (QuB g b4 (w4.setCell ⟨g, 0, none⟩ (.slice A4 L4 c4)) ((p :: r).drop T)) := Lib.hid (HQ3.out.put hbel4.size hg4 hv4 (by omega))
              have HF : Hid (Fr g b W (w4.setCell ⟨g, 0, none⟩ (.slice A4 L4 c4))) := Lib.hid ((Fr.of_below (thn HB3.out hbel4)).set 0 _)
              have HV4 : Hid (VI b3 (w4.setCell ⟨g, 0, none⟩ (.slice A4 L4 c4)) v3 ((p :: r).take T)) := Lib.hid ((HV3.out.below hbel4).far (by have := HBW.out; omega))
              have HB4 : Hid (W.heap.size ≤ b4) := Lib.hid (by have := HB3.out.size; omega)
              clear hv4 hbel4 hb4 hg4 k5'
              go_wp2
              go_ret
              exact ⟨b4, b3, v3, rfl, .inr HB4.out, HF.out, HP.out, HV4.out, HBW.out⟩
set_option maxHeartbeats 1600000 in
theorem nqtake (N : Int) (on : Bool) (W : World) :
    Calls Try.prog 6 #[.pointer none, .agg #[.int .i64 N, .bool on]] W fun e w' => e = .returned (.slice none 0 0) ∧ Below W.heap.size W w' := by
  have hbel := alc0 W (.cells #[.int .i64 N, .bool on] 28)
  go_enter Try.func6, Try.ntmps6
  go_upto_region 1 with (fail)
  refine wp_region_held_drew (S := fun w' => True) (by kernel_rfl) ?_ (fun hHeld => ?_)
  · trivial
  refine wpAnyH_take (i := 0) (v := ?_) rfl (by kernel_rfl) (by kernel_rfl) (by kernel_rfl) (fun _ _ _ h => h) (Or.inl ⟨by kernel_rfl, ?_⟩) (by assumption) ?_
  rotate_left
  · (intro w hSw; (try dsimp only at hSw); go_simp)
    try (with_reducible rfl)
  rotate_left
  try simp (maxSteps := 4000000) only [Act.put, List.setIfInBounds_toArray, List.set_cons_zero, List.set_cons_succ, List.getElem_toArray, List.getElem_cons_zero, List.getElem_cons_succ]
  refine wpAnyH_ready (rs := [1]) (by kernel_rfl) (by simp) ?_
  refine AllReadyH.cons rfl (fun K2 hK2 => ?_) AllReadyH.nil
  go_simp
  refine (nqlen _).mono ?_
  rintro e w1 ⟨rfl, rfl⟩
  refine hK2.out _ _ ?_ (fun hHeld2 => ?_)
  · trivial
  clear hK2 K2 hHeld
  have hHeld := hHeld2
  clear hHeld2
  try simp (maxSteps := 4000000) only [Act.put, List.setIfInBounds_toArray, List.set_cons_zero, List.set_cons_succ]
  refine wpAnyH_take (i := 2) (v := ?_) rfl (by kernel_rfl) (by kernel_rfl) (by kernel_rfl) (fun _ _ _ h => h) (Or.inl ⟨by kernel_rfl, ?_⟩) (by assumption) ?_
  rotate_left
  · (intro w hSw; (try dsimp only at hSw); go_simp)
    try (with_reducible rfl)
  rotate_left
  try simp (maxSteps := 4000000) only [Act.put, List.setIfInBounds_toArray, List.set_cons_zero, List.set_cons_succ, List.getElem_toArray, List.getElem_cons_zero, List.getElem_cons_succ]
  refine wpAnyH_take (i := 3) (v := ?_) rfl (by kernel_rfl) (by kernel_rfl) (by kernel_rfl) (fun _ _ _ h => h) (Or.inl ⟨by kernel_rfl, ?_⟩) (by assumption) ?_
  rotate_left
  · (intro w hSw; (try dsimp only at hSw); go_simp)
    try (with_reducible rfl)
  rotate_left
  try simp (maxSteps := 4000000) only [Act.put, List.setIfInBounds_toArray, List.set_cons_zero, List.set_cons_succ, List.getElem_toArray, List.getElem_cons_zero, List.getElem_cons_succ]
  refine wpAnyH_take (i := 4) (v := undef) rfl (by kernel_rfl) (by kernel_rfl) (by kernel_rfl) (fun _ _ _ h => h) (Or.inr ⟨by kernel_rfl, rfl⟩) (by assumption) ?_
  try simp (maxSteps := 4000000) only [Act.put, List.setIfInBounds_toArray, List.set_cons_zero, List.set_cons_succ, List.getElem_toArray, List.getElem_cons_zero, List.getElem_cons_succ]
  refine wpAnyH_take (i := 5) (v := undef) rfl (by kernel_rfl) (by kernel_rfl) (by kernel_rfl) (fun _ _ _ h => h) (Or.inr ⟨by kernel_rfl, rfl⟩) (by assumption) ?_
  try simp (maxSteps := 4000000) only [Act.put, List.setIfInBounds_toArray, List.set_cons_zero, List.set_cons_succ, List.getElem_toArray, List.getElem_cons_zero, List.getElem_cons_succ]
  refine wpAnyH_take (i := 6) (v := undef) rfl (by kernel_rfl) (by kernel_rfl) (by kernel_rfl) (fun _ _ _ h => h) (Or.inr ⟨by kernel_rfl, rfl⟩) (by assumption) ?_
  try simp (maxSteps := 4000000) only [Act.put, List.setIfInBounds_toArray, List.set_cons_zero, List.set_cons_succ, List.getElem_toArray, List.getElem_cons_zero, List.getElem_cons_succ]
  refine wpAnyH_take (i := 7) (v := undef) rfl (by kernel_rfl) (by kernel_rfl) (by kernel_rfl) (fun _ _ _ h => h) (Or.inr ⟨by kernel_rfl, rfl⟩) (by assumption) ?_
  try simp (maxSteps := 4000000) only [Act.put, List.setIfInBounds_toArray, List.set_cons_zero, List.set_cons_succ, List.getElem_toArray, List.getElem_cons_zero, List.getElem_cons_succ]
  refine wpAnyH_take (i := 8) (v := undef) rfl (by kernel_rfl) (by kernel_rfl) (by kernel_rfl) (fun _ _ _ h => h) (Or.inr ⟨by kernel_rfl, rfl⟩) (by assumption) ?_
  try simp (maxSteps := 4000000) only [Act.put, List.setIfInBounds_toArray, List.set_cons_zero, List.set_cons_succ, List.getElem_toArray, List.getElem_cons_zero, List.getElem_cons_succ]
  refine wpAnyH_take (i := 9) (v := undef) rfl (by kernel_rfl) (by kernel_rfl) (by kernel_rfl) (fun _ _ _ h => h) (Or.inr ⟨by kernel_rfl, rfl⟩) (by assumption) ?_
  try simp (maxSteps := 4000000) only [Act.put, List.setIfInBounds_toArray, List.set_cons_zero, List.set_cons_succ, List.getElem_toArray, List.getElem_cons_zero, List.getElem_cons_succ]
  refine wpAnyH_take (i := 10) (v := undef) rfl (by kernel_rfl) (by kernel_rfl) (by kernel_rfl) (fun _ _ _ h => h) (Or.inr ⟨by kernel_rfl, rfl⟩) (by assumption) ?_
  try simp (maxSteps := 4000000) only [Act.put, List.setIfInBounds_toArray, List.set_cons_zero, List.set_cons_succ, List.getElem_toArray, List.getElem_cons_zero, List.getElem_cons_succ]
  refine wpAnyH_take (i := 11) (v := undef) rfl (by kernel_rfl) (by kernel_rfl) (by kernel_rfl) (fun _ _ _ h => h) (Or.inr ⟨by kernel_rfl, rfl⟩) (by assumption) ?_
  try simp (maxSteps := 4000000) only [Act.put, List.setIfInBounds_toArray, List.set_cons_zero, List.set_cons_succ, List.getElem_toArray, List.getElem_cons_zero, List.getElem_cons_succ]
  refine wpAnyH_take (i := 12) (v := undef) rfl (by kernel_rfl) (by kernel_rfl) (by kernel_rfl) (fun _ _ _ h => h) (Or.inr ⟨by kernel_rfl, rfl⟩) (by assumption) ?_
  try simp (maxSteps := 4000000) only [Act.put, List.setIfInBounds_toArray, List.set_cons_zero, List.set_cons_succ, List.getElem_toArray, List.getElem_cons_zero, List.getElem_cons_succ]
  refine wpAnyH_take (i := 13) (v := undef) rfl (by kernel_rfl) (by kernel_rfl) (by kernel_rfl) (fun _ _ _ h => h) (Or.inr ⟨by kernel_rfl, rfl⟩) (by assumption) ?_
  try simp (maxSteps := 4000000) only [Act.put, List.setIfInBounds_toArray, List.set_cons_zero, List.set_cons_succ, List.getElem_toArray, List.getElem_cons_zero, List.getElem_cons_succ]
  refine wpAnyH_take (i := 14) (v := ?_) rfl (by kernel_rfl) (by kernel_rfl) (by kernel_rfl) (fun _ _ _ h => h) (Or.inl ⟨by kernel_rfl, ?_⟩) (by assumption) ?_
  rotate_left
  · (intro w hSw; (try dsimp only at hSw); go_simp)
    try (with_reducible rfl)
  rotate_left
  try simp (maxSteps := 4000000) only [Act.put, List.setIfInBounds_toArray, List.set_cons_zero, List.set_cons_succ, List.getElem_toArray, List.getElem_cons_zero, List.getElem_cons_succ]
  refine wpAnyH_done (by kernel_rfl) ?_ _
  go_wp2
  go_ret
  exact ⟨rfl, below_drewN hbel _⟩
theorem qbatches (g b : Nat) (ms : List It) (W : World) (h : QuB g b W ms) (hsm : ms.length ≤ 100) :
    Calls Try.prog 15 #[.pointer (some ⟨g, 0, none⟩)] W fun e w' => e = .returned (.int .i64 (nbp ms ms.length)) ∧ ∃ q, w' = W.drewN q := by
  have H := Lib.hid h
  clear h
  go_enter Try.func15, Try.ntmps15
  go_wp2_with fail
  go_loopw [3, 4] (fun v3 v4 wr => ∃ F q : Nat, F ≤ ms.length ∧ v4 = .int .i64 F ∧ v3 = .int .i64 (nbp ms F) ∧ Hid (F < ms.length → fst ms F) ∧ Hid (wr = W.drewN q)) (fun _ v4 _ => ms.length - (intOf v4).toNat)
  case atStart => exact ⟨0, 0, by omega, rfl, rfl, Lib.hid (fun _ => .inl rfl), Lib.hid rfl⟩
  case round =>
    obtain ⟨F, q, hF, rfl, rfl, HFst, HW⟩ := hrel
    have HQ : Hid (QuB g b wr ms) := Lib.hid (by rw [HW.out]; exact H.out.drw _)
    go_wp2_with fail
    refine (qlen g b ms wr HQ.out).mono ?_
    rintro e w1 ⟨rfl, rfl⟩
    by_cases hlt : F < ms.length
    · have i1 : (F : Int) < ms.length := by omega
      obtain ⟨p, hp⟩ : ∃ p, ms[F]? = some p := ⟨_, List.getElem?_eq_getElem hlt⟩
      obtain ⟨n1, n2, n3, n4⟩ := nbp_next ms F p hp (HFst.out hlt)
      have hle := nbp_le ms F
      obtain ⟨B, hB⟩ : ∃ B, bat p.ep (ms.drop F) = B := ⟨_, rfl⟩
      obtain ⟨M, hM⟩ : ∃ M, nbp ms F = M := ⟨_, rfl⟩
      rw [hB] at n1 n2 n3 n4
      rw [hM] at n1 hle ⊢
      have HN1 := Lib.hid n1
      have HN2 := Lib.hid n2
      have HB := Lib.hid hB
      clear n1 n2 hB hM HFst
      go_wp2_with fail
      refine (qbatch g b F ms p wr HQ.out hp hsm).mono ?_
      rintro e w2 ⟨rfl, q2, hw2⟩
      rw [HB.out]
      have HW2 : Hid (w2 = W.drewN (q + q2)) := Lib.hid (by rw [hw2, HW.out]; exact World.drewN_drewN ..)
      clear hw2 hp HQ
      go_wp2_with fail
      go_roundw
      case rel => exact ⟨F + B, _, by omega, by go_num, by rw [HN1.out]; go_num, Lib.hid (fun _ => HN2.out), HW2⟩
      case measure => simp [intOf] <;> omega
    · obtain rfl : F = ms.length := by omega
      go_wp2
      go_ret
      exact ⟨rfl, q, HW.out⟩
theorem nqbatches (W : World) : Calls Try.prog 15 #[.pointer none] W fun e w' => e = .returned (.int .i64 0) ∧ W = w' := by
  go_enter Try.func15, Try.ntmps15
  go_wp2_with fail
  go_loopw [3, 4] (fun v3 v4 wr => v4 = .int .i64 0 ∧ v3 = .int .i64 0 ∧ W = wr) (fun _ _ _ => 0)
  case atStart => exact ⟨rfl, rfl, rfl⟩
  case round =>
    obtain ⟨rfl, rfl, rfl⟩ := hrel
    go_wp2_with fail
    refine (nqlen _).mono ?_
    rintro e w1 ⟨rfl, rfl⟩
    go_wp2
    go_ret
    exact ⟨rfl, rfl⟩
theorem nqbytes (W : World) : Calls Try.prog 14 #[.pointer none] W fun e w' => e = .returned (.int .i64 0) ∧ W = w' := by
  go_enter Try.func14, Try.ntmps14
  go_wp2_with fail
  refine (nqlist _).mono ?_
  rintro e w1 ⟨rfl, rfl⟩
  go_wp2_with fail
  go_loopw [3, 9] (fun v3 v9 wr => v9 = .int .i64 0 ∧ v3 = .int .i64 0 ∧ W = wr) (fun _ _ _ => 0)
  case atStart => exact ⟨rfl, rfl, rfl⟩
  case round =>
    obtain ⟨rfl, rfl, rfl⟩ := hrel
    go_wp2
    go_ret
    exact ⟨rfl, rfl⟩
theorem has1 (x : Nat) (at_ a0 a1 a2 a3 a4 : Int) (W : World) (h : W.cell? ⟨x, 0, none⟩ = some (.int .i64 at_)) :
    Calls Try.prog 27 #[.agg #[.int .i64 a0, .int .i64 a1, .int .i64 a2, .int .i64 a3, .int .i64 a4], .pointer (some ⟨x, 0, none⟩)] W fun e w' => e = .returned (.bool (a0 == at_)) ∧ Below W.heap.size W w' := by
  have hx := World.block_lt_of_cell? W ⟨x, 0, none⟩ h
  go_enter Try.func27, Try.ntmps27
  go_wp2
  go_ret
  exact ⟨rfl, alc0 _ _⟩
def anyAt (ms : List It) (x : Int) : Bool := ms.any (fun p => p.at_ == x)
theorem idxI (b : Nat) (v : Value) (ms : List It) (x : Nat) (at_ : Int) (W : World) (h : VI b W v ms) (hx : W.cell? ⟨x, 0, none⟩ = some (.int .i64 at_)) (hsm : ms.length ≤ 1000) :
    Calls Try.prog 32 #[v, .func (.func 27) #[] #[.pointer (some ⟨x, 0, none⟩)]] W fun e w' => (∃ i : Int, e = .returned (.int .i64 i) ∧ decide (0 ≤ i) = anyAt ms at_) ∧ Below W.heap.size W w' := by
  have hsh := h
  obtain ⟨A, c, rfl, _⟩ := hsh
  have HV := Lib.hid h
  have hxl := World.block_lt_of_cell? W ⟨x, 0, none⟩ hx
  have HX := Lib.hid hx
  clear h hx
  go_enter Try.func32, Try.ntmps32
  go_wp2_with fail
  go_loopw [8] (fun v8 wr => ∃ i : Nat, i ≤ ms.length ∧ v8 = .int .i64 i ∧ Hid (Below W.heap.size W wr) ∧ Hid (anyAt (ms.take i) at_ = false)) (fun v8 _ => ms.length - (intOf v8).toNat)
  case atStart => exact ⟨0, by omega, rfl, Lib.hid (Below.refl _ _), Lib.hid rfl⟩
  case round =>
    obtain ⟨i, hi, rfl, HW, HA⟩ := hrel
    by_cases hlt : i < ms.length
    · rcases vi_open HV.out with ⟨_, rfl⟩ | ⟨off, c', e, h7, h8, h9, h10⟩
      · simp at hlt
      · injection e with e1 e2 e3
        subst e1; subst e3
        obtain ⟨p, hpi⟩ : ∃ p, ms[i]? = some p := ⟨_, List.getElem?_eq_getElem hlt⟩
        obtain ⟨q0, q1, q2, q3, q4⟩ := h10 i p hpi
        have r0 := (HW.out.cell (p := ⟨b, off + i * 5, none⟩) h7).trans q0
        have r1 := (HW.out.cell (p := ⟨b, off + i * 5 + 1, none⟩) h7).trans q1
        have r2 := (HW.out.cell (p := ⟨b, off + i * 5 + 2, none⟩) h7).trans q2
        have r3 := (HW.out.cell (p := ⟨b, off + i * 5 + 3, none⟩) h7).trans q3
        have r4 := (HW.out.cell (p := ⟨b, off + i * 5 + 4, none⟩) h7).trans q4
        have hat : anyAt (ms.take (i + 1)) at_ = (p.at_ == at_) := by
          have h0 := HA.out
          unfold anyAt at h0 ⊢
          rw [List.take_add_one, hpi, List.any_append, h0]
          simp
        have hany : anyAt (ms.take (i + 1)) at_ = true → anyAt ms at_ = true := fun h => by
          unfold anyAt at h ⊢
          obtain ⟨y, hy, hy2⟩ := List.any_eq_true.1 h
          exact List.any_eq_true.2 ⟨y, List.mem_of_mem_take hy, hy2⟩
        have HAT := Lib.hid hat
        have HANY := Lib.hid hany
        have hcx : wr.cell? ⟨x, 0, none⟩ = some (.int .i64 at_) := (HW.out.cell (p := ⟨x, 0, none⟩) hxl).trans HX.out
        have HCX := Lib.hid hcx
        clear h10 q0 q1 q2 q3 q4 hpi hat hany hcx
        have i1 : (i : Int) < ms.length := by omega
        go_wp2_with fail
        refine (has1 x at_ p.at_ p.room p.cls p.thr p.ep wr HCX.out).mono ?_
        rintro e w2 ⟨rfl, hb2⟩
        have HB2 : Hid (Below W.heap.size W w2) := Lib.hid (thn HW.out hb2)
        clear hb2 r0 r1 r2 r3 r4
        obtain ⟨B, hB⟩ : ∃ B, (p.at_ == at_) = B := ⟨_, rfl⟩
        rw [hB]
        have HBB := Lib.hid hB
        clear hB
        cases B with
        | true =>
          go_wp2
          go_ret
          exact ⟨⟨i, rfl, by rw [HANY.out (by rw [HAT.out, HBB.out])]; simp⟩, HB2.out⟩
        | false =>
          go_wp2_with fail
          go_roundw
          case rel => exact ⟨i + 1, by omega, by go_num, HB2, Lib.hid (by rw [HAT.out, HBB.out])⟩
          case measure => simp [intOf] <;> omega
    · obtain rfl : i = ms.length := by omega
      go_wp2
      go_ret
      exact ⟨⟨-1, rfl, by have := HA.out; rw [List.take_length] at this; rw [this]; rfl⟩, HW.out⟩
theorem hasI (b : Nat) (v : Value) (ms : List It) (x : Nat) (at_ : Int) (W : World) (h : VI b W v ms) (hx : W.cell? ⟨x, 0, none⟩ = some (.int .i64 at_)) (hsm : ms.length ≤ 1000) :
    Calls Try.prog 26 #[v, .func (.func 27) #[] #[.pointer (some ⟨x, 0, none⟩)]] W fun e w' => e = .returned (.bool (anyAt ms at_)) ∧ Below W.heap.size W w' := by
  have HV := Lib.hid h
  have HX := Lib.hid hx
  clear h hx
  go_enter Try.func26, Try.ntmps26
  go_wp2_with fail
  refine (idxI b v ms x at_ W HV.out HX.out hsm).mono ?_
  rintro e w1 ⟨⟨i, rfl, hi⟩, hb⟩
  have HI := Lib.hid hi
  have HB := Lib.hid hb
  clear hi hb
  go_wp2
  go_ret
  exact ⟨ret_bool HI.out, HB.out⟩
theorem qhas (g b : Nat) (ms : List It) (at_ : Int) (W : World) (h : QuB g b W ms) (hsm : ms.length ≤ 1000) :
    Calls Try.prog 13 #[.pointer (some ⟨g, 0, none⟩), .int .i64 at_] W fun e w' => e = .returned (.bool (anyAt ms at_)) ∧ Below W.heap.size W w' := by
  have hbel := alc0 W (.cells #[.int .i64 at_] 3)
  obtain ⟨h1, h2, h3, v, h5, h6⟩ := h
  have HV := Lib.hid (h6.below hbel)
  clear h6
  go_enter Try.func13, Try.ntmps13
  go_wp2_with fail
  refine (hasI b v ms W.heap.size at_ _ HV.out (by simp) hsm).mono ?_
  rintro e w1 ⟨rfl, hb⟩
  have HB := Lib.hid (thn hbel hb)
  clear hb
  go_wp2
  go_ret
  exact ⟨rfl, HB.out⟩
theorem nqhas (at_ : Int) (W : World) : Calls Try.prog 13 #[.pointer none, .int .i64 at_] W fun e w' => e = .returned (.bool false) ∧ Below W.heap.size W w' := by
  go_enter Try.func13, Try.ntmps13
  go_wp2
  go_ret
  exact ⟨rfl, alc0 _ _⟩
end Go.Proofs.Ytohamecjiidjdaa
