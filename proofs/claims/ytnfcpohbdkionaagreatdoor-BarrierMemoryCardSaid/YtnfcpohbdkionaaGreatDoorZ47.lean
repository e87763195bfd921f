/- MsE. -/
import Derived.Test.YtnfcpohbdkionaaGreatDoorZ45
import Derived.Test.YtnfcpohbdkionaaGreatDoorZ46
import Derived.Deep.RegionHeld3
namespace Go.Proofs.YtnfcpohbdkionaaGreatDoor
set_option maxRecDepth 100000
open Go.RowKit Go.ChangeMaps Go.MapKept
set_option linter.unusedVariables false
set_option linter.unusedSimpArgs false
theorem listF_mem {pg : Nat → Bool} {n : Nat} {x : Int} (h : x ∈ listF pg n) : ∃ p : Nat, x = p ∧ p < n ∧ pg p = true := by
  induction n with
  | zero => cases h
  | succ n ih =>
    rw [listF] at h
    by_cases e : pg n = true
    · rw [if_pos e] at h
      rcases List.mem_append.1 h with h | h
      · obtain ⟨p, h1, h2, h3⟩ := ih h
        exact ⟨p, h1, by omega, h3⟩
      · exact ⟨n, List.mem_singleton.1 h, by omega, e⟩
    · rw [if_neg e] at h
      obtain ⟨p, h1, h2, h3⟩ := ih h
      exact ⟨p, h1, by omega, h3⟩
theorem listF_in {pg : Nat → Bool} {n p : Nat} (h1 : p < n) (h2 : pg p = true) : (p : Int) ∈ listF pg n := by
  induction n with
  | zero => omega
  | succ n ih =>
    rw [listF]
    by_cases e : p = n
    · subst e
      rw [if_pos h2]
      exact List.mem_append_right _ (List.mem_singleton.2 rfl)
    · have := ih (by omega)
      by_cases e2 : pg n = true
      · rw [if_pos e2]; exact List.mem_append_left _ this
      · rw [if_neg e2]; exact this
theorem listF_len (pg : Nat → Bool) (n : Nat) : (listF pg n).length ≤ n := by
  induction n with
  | zero => exact Nat.le_refl _
  | succ n ih =>
    rw [listF]
    by_cases e : pg n = true
    · rw [if_pos e, List.length_append]; simp; omega
    · rw [if_neg e]; omega
/-- All pages of a list are alike. -/
def AlikeL (σ1 σ2 : MS) (l : List Int) (k : Nat) : Prop := ∀ j, j < k → ∀ p : Nat, l[j]? = some (p : Int) → ∀ g, g < 16 → σ1.f (16 * p + g) = σ2.f (16 * p + g)
set_option maxHeartbeats 3200000 in
theorem msame (r : Bool) (B1 B2 : Nat) (cl1 cl2 : Nat → Nat) (M1 M2 : Nat) (σ1 σ2 : MS) (W : World) (h1 : MEM B1 cl1 M1 W σ1) (h2 : MEM B2 cl2 M2 W σ2) (hp : σ2.pg = σ1.pg) (hz : ∀ y, 1024 ≤ y → σ1.pg y = false) (hc : ∀ x, σ1.c x = σ2.c x) (hk : σ2.kp = σ1.kp) (hv : ∀ x, σ1.kp x = true → ∀ i, i < 16 → σ2.kv x i = σ1.kv x i)
    (hr : r = true ↔ ∀ p, σ1.pg p = true → ∀ g, g < 16 → σ1.f (16 * p + g) = σ2.f (16 * p + g)) :
    Calls Tryz.prog 12 #[.pointer (some ⟨M1, 0, none⟩), .pointer (some ⟨M2, 0, none⟩)] W fun e w' => e = .returned (.bool r) ∧ Below W.heap.size W w' := by
  have H1 := Lib.hid h1
  have H2 := Lib.hid h2
  obtain ⟨l, hl⟩ : ∃ l, listF σ1.pg 1024 = l := ⟨_, rfl⟩
  have ML1 : Hid (∀ w', MEM B1 cl1 M1 w' σ1 → Calls Tryz.prog 28 #[.pointer (some ⟨M1, 0, none⟩)] w' (ListPost l w')) := Lib.hid (fun w' h => by rw [← hl]; exact mlist h hz)
  have ML2 : Hid (∀ w', MEM B2 cl2 M2 w' σ2 → Calls Tryz.prog 28 #[.pointer (some ⟨M2, 0, none⟩)] w' (ListPost l w')) := Lib.hid (fun w' h => by rw [← hl, ← hp]; exact mlist h (by rw [hp]; exact hz))
  have KA : Hid (∀ w', MEM B1 cl1 M1 w' σ1 → MEM B2 cl2 M2 w' σ2 → Calls Tryz.prog 29 #[.pointer (some ⟨M1, 1, none⟩), .pointer (some ⟨M2, 1, none⟩)] w' fun e w'' => e = .returned (.bool true) ∧ ∃ q, w'' = w'.drewN q) := Lib.hid (fun w' a b => mkeepalike B1 B2 cl1 cl2 M1 M2 σ1 σ2 w' a b hk hv)
  have HIN : Hid (∀ j, j < l.length → ∃ p : Nat, l[j]? = some (p : Int) ∧ l.getD j 0 = (p : Int) ∧ p < 1024 ∧ σ1.pg p = true) := Lib.hid (fun j hj => by
    have e : l[j]? = some l[j] := List.getElem?_eq_getElem hj
    obtain ⟨p, q1, q2, q3⟩ := listF_mem (pg := σ1.pg) (n := 1024) (x := l[j]) (by rw [hl]; exact List.getElem_mem hj)
    exact ⟨p, by rw [e, q1], by rw [List.getD, e]; exact q1, q2, q3⟩)
  have HALL : Hid (AlikeL σ1 σ2 l l.length → r = true) := Lib.hid (fun h => hr.2 (fun p hpp g hg => by
    have h4 : p < 1024 := by
      by_cases e : p < 1024
      · exact e
      · rw [hz p (by omega)] at hpp; cases hpp
    obtain ⟨j, hj, e⟩ := List.getElem_of_mem (show (p : Int) ∈ l by rw [← hl]; exact listF_in h4 hpp)
    exact h j hj p (by rw [List.getElem?_eq_getElem hj, e]) g hg))
  have HNOT : Hid (∀ p, σ1.pg p = true → (¬ ∀ g, g < 16 → σ1.f (16 * p + g) = σ2.f (16 * p + g)) → r = false) := Lib.hid (fun p hpp hn => by
    cases hrr : r with
    | false => rfl
    | true => exact absurd (hr.1 hrr p hpp) hn)
  have HC := Lib.hid (fun (p : Nat) (x : Nat) (_ : 256 * p ≤ x) (_ : x < 256 * p + 256) => hc x)
  have HLN : Hid (l.length ≤ 1024) := Lib.hid (by rw [← hl]; exact listF_len _ _)
  clear h1 h2 hp hz hc hk hv hr hl
  go_enter Tryz.func12, Tryz.ntmps12
  go_upto_region 1 with (fail)
  refine wp_region_held_drew (S := fun w' => True) (by kernel_rfl) ?_ (fun hHeld => ?_)
  · exact trivial
  refine wpAnyH_take (i := 0) (v := ?_) rfl (by kernel_rfl) (by kernel_rfl) (by kernel_rfl) (fun _ _ _ h => h) (Or.inl ⟨by kernel_rfl, ?_⟩) (by assumption) ?_
  rotate_left
  · (intro w hSw; (try dsimp only at hSw); go_simp)
    try (with_reducible rfl)
  rotate_left
  try simp (maxSteps := 4000000) only [Act.put, List.setIfInBounds_toArray, List.set_cons_zero, List.set_cons_succ, List.getElem_toArray, List.getElem_cons_zero, List.getElem_cons_succ]
  refine wpAnyH_take (i := 1) (v := ?_) rfl (by kernel_rfl) (by kernel_rfl) (by kernel_rfl) (fun _ _ _ h => h) (Or.inl ⟨by kernel_rfl, ?_⟩) (by assumption) ?_
  rotate_left
  · (intro w hSw; (try dsimp only at hSw); go_simp)
    try (with_reducible rfl)
  rotate_left
  try simp (maxSteps := 4000000) only [Act.put, List.setIfInBounds_toArray, List.set_cons_zero, List.set_cons_succ, List.getElem_toArray, List.getElem_cons_zero, List.getElem_cons_succ]
  refine wpAnyH_take (i := 2) (v := ?_) rfl (by kernel_rfl) (by kernel_rfl) (by kernel_rfl) (fun _ _ _ h => h) (Or.inl ⟨by kernel_rfl, ?_⟩) (by assumption) ?_
  rotate_left
  · (intro w hSw; (try dsimp only at hSw); go_simp)
    try (with_reducible rfl)
  rotate_left
  try simp (maxSteps := 4000000) only [Act.put, List.setIfInBounds_toArray, List.set_cons_zero, List.set_cons_succ, List.getElem_toArray, List.getElem_cons_zero, List.getElem_cons_succ]
  refine wpAnyH_take (i := 3) (v := ?_) rfl (by kernel_rfl) (by kernel_rfl) (by kernel_rfl) (fun _ _ _ h => h) (Or.inl ⟨by kernel_rfl, ?_⟩) (by assumption) ?_
  rotate_left
  · (intro w hSw; (try dsimp only at hSw); go_simp)
    try (with_reducible rfl)
  rotate_left
  try simp (maxSteps := 4000000) only [Act.put, List.setIfInBounds_toArray, List.set_cons_zero, List.set_cons_succ, List.getElem_toArray, List.getElem_cons_zero, List.getElem_cons_succ]
  refine wpAnyH_take (i := 4) (v := ?_) rfl (by kernel_rfl) (by kernel_rfl) (by kernel_rfl) (fun _ _ _ h => h) (Or.inl ⟨by kernel_rfl, ?_⟩) (by assumption) ?_
  rotate_left
  · (intro w hSw; (try dsimp only at hSw); go_simp)
    try (with_reducible rfl)
  rotate_left
  try simp (maxSteps := 4000000) only [Act.put, List.setIfInBounds_toArray, List.set_cons_zero, List.set_cons_succ, List.getElem_toArray, List.getElem_cons_zero, List.getElem_cons_succ]
  refine wpAnyH_take (i := 5) (v := ?_) rfl (by kernel_rfl) (by kernel_rfl) (by kernel_rfl) (fun _ _ _ h => h) (Or.inl ⟨by kernel_rfl, ?_⟩) (by assumption) ?_
  rotate_left
  · (intro w hSw; (try dsimp only at hSw); go_simp)
    try (with_reducible rfl)
  rotate_left
  try simp (maxSteps := 4000000) only [Act.put, List.setIfInBounds_toArray, List.set_cons_zero, List.set_cons_succ, List.getElem_toArray, List.getElem_cons_zero, List.getElem_cons_succ]
  refine wpAnyH_take (i := 6) (v := ?_) rfl (by kernel_rfl) (by kernel_rfl) (by kernel_rfl) (fun _ _ _ h => h) (Or.inl ⟨by kernel_rfl, ?_⟩) (by assumption) ?_
  rotate_left
  · (intro w hSw; (try dsimp only at hSw); go_simp)
    try (with_reducible rfl)
  rotate_left
  try simp (maxSteps := 4000000) only [Act.put, List.setIfInBounds_toArray, List.set_cons_zero, List.set_cons_succ, List.getElem_toArray, List.getElem_cons_zero, List.getElem_cons_succ]
  refine wpAnyH_take (i := 7) (v := ?_) rfl (by kernel_rfl) (by kernel_rfl) (by kernel_rfl) (fun _ _ _ h => h) (Or.inl ⟨by kernel_rfl, ?_⟩) (by assumption) ?_
  rotate_left
  · (intro w hSw; (try dsimp only at hSw); go_simp)
    try (with_reducible rfl)
  rotate_left
  try simp (maxSteps := 4000000) only [Act.put, List.setIfInBounds_toArray, List.set_cons_zero, List.set_cons_succ, List.getElem_toArray, List.getElem_cons_zero, List.getElem_cons_succ]
  refine wpAnyH_take (i := 9) (v := ?_) rfl (by kernel_rfl) (by kernel_rfl) (by kernel_rfl) (fun _ _ _ h => h) (Or.inl ⟨by kernel_rfl, ?_⟩) (by assumption) ?_
  rotate_left
  · (intro w hSw; (try dsimp only at hSw); go_simp)
    try (with_reducible rfl)
  rotate_left
  try simp (maxSteps := 4000000) only [Act.put, List.setIfInBounds_toArray, List.set_cons_zero, List.set_cons_succ, List.getElem_toArray, List.getElem_cons_zero, List.getElem_cons_succ]
  refine wpAnyH_ready (rs := [8]) (by kernel_rfl) (by simp) ?_
  refine AllReadyH.cons rfl (fun K2 hK2 => ?_) AllReadyH.nil
  go_simp
  with_reducible refine Calls.mono (ML1.out _ (H1.out.later (Below.refl _ _).drew)) ?_
  rintro e w1 ⟨a1, cap1, rfl, hi1, hb1⟩
  have HI1 := Lib.hid hi1
  have HB1 : Hid (Below W.heap.size W w1) := Lib.hid (thn (Below.refl _ _).drew hb1)
  clear hi1 hb1
  refine hK2.out _ _ (trivial) (fun hHeld2 => ?_)
  clear hK2 K2 hHeld
  have hHeld := hHeld2
  clear hHeld2
  try simp (maxSteps := 4000000) only [Act.put, List.setIfInBounds_toArray, List.set_cons_zero, List.set_cons_succ]
  refine wpAnyH_ready (rs := [10]) (by kernel_rfl) (by simp) ?_
  refine AllReadyH.cons rfl (fun K2 hK2 => ?_) AllReadyH.nil
  go_simp
  with_reducible refine Calls.mono (ML2.out _ (H2.out.later HB1.out)) ?_
  rintro e w2 ⟨a2, cap2, rfl, hi2, hb2⟩
  have HI2 := Lib.hid hi2
  have HI1' := Lib.hid (HI1.out.below hb2)
  have HB2 : Hid (Below W.heap.size W w2) := Lib.hid (thn HB1.out hb2)
  clear hi2 hb2 HI1 HB1
  refine hK2.out _ _ (trivial) (fun hHeld2 => ?_)
  clear hK2 K2 hHeld
  have hHeld := hHeld2
  clear hHeld2
  try simp (maxSteps := 4000000) only [Act.put, List.setIfInBounds_toArray, List.set_cons_zero, List.set_cons_succ]
  refine wpAnyH_ready (rs := [11]) (by kernel_rfl) (by simp) ?_
  refine AllReadyH.cons rfl (fun K2 hK2 => ?_) AllReadyH.nil
  go_simp
  with_reducible refine Calls.mono (ieq_yes l a1 a2 cap1 cap2 w2 HI1'.out HI2.out) ?_
  rintro e w3 ⟨rfl, hw3⟩
  have HB3 : Hid (Below W.heap.size W w3) := Lib.hid (by obtain ⟨q, rfl⟩ := hw3; exact below_drewN HB2.out q)
  clear hw3 HI1' HI2 HB2
  refine hK2.out _ _ (trivial) (fun hHeld2 => ?_)
  clear hK2 K2 hHeld
  have hHeld := hHeld2
  clear hHeld2
  try simp (maxSteps := 4000000) only [Act.put, List.setIfInBounds_toArray, List.set_cons_zero, List.set_cons_succ]
  refine wpAnyH_take (i := 12) (v := ?_) rfl (by kernel_rfl) (by kernel_rfl) (by kernel_rfl) (fun _ _ _ h => h) (Or.inl ⟨by kernel_rfl, ?_⟩) (by assumption) ?_
  rotate_left
  · (intro w hSw; (try dsimp only at hSw); go_simp)
    try (with_reducible rfl)
  rotate_left
  try simp (maxSteps := 4000000) only [Act.put, List.setIfInBounds_toArray, List.set_cons_zero, List.set_cons_succ, List.getElem_toArray, List.getElem_cons_zero, List.getElem_cons_succ]
  refine wpAnyH_take (i := 13) (v := ?_) rfl (by kernel_rfl) (by kernel_rfl) (by kernel_rfl) (fun _ _ _ h => h) (Or.inl ⟨by kernel_rfl, ?_⟩) (by assumption) ?_
  rotate_left
  · (intro w hSw; (try dsimp only at hSw); go_simp)
    try (with_reducible rfl)
  rotate_left
  try simp (maxSteps := 4000000) only [Act.put, List.setIfInBounds_toArray, List.set_cons_zero, List.set_cons_succ, List.getElem_toArray, List.getElem_cons_zero, List.getElem_cons_succ]
  refine wpAnyH_take (i := 14) (v := ?_) rfl (by kernel_rfl) (by kernel_rfl) (by kernel_rfl) (fun _ _ _ h => h) (Or.inl ⟨by kernel_rfl, ?_⟩) (by assumption) ?_
  rotate_left
  · (intro w hSw; (try dsimp only at hSw); go_simp)
    try (with_reducible rfl)
  rotate_left
  try simp (maxSteps := 4000000) only [Act.put, List.setIfInBounds_toArray, List.set_cons_zero, List.set_cons_succ, List.getElem_toArray, List.getElem_cons_zero, List.getElem_cons_succ]
  refine wpAnyH_take (i := 15) (v := ?_) rfl (by kernel_rfl) (by kernel_rfl) (by kernel_rfl) (fun _ _ _ h => h) (Or.inl ⟨by kernel_rfl, ?_⟩) (by assumption) ?_
  rotate_left
  · (intro w hSw; (try dsimp only at hSw); go_simp)
    try (with_reducible rfl)
  rotate_left
  try simp (maxSteps := 4000000) only [Act.put, List.setIfInBounds_toArray, List.set_cons_zero, List.set_cons_succ, List.getElem_toArray, List.getElem_cons_zero, List.getElem_cons_succ]
  refine wpAnyH_take (i := 16) (v := ?_) rfl (by kernel_rfl) (by kernel_rfl) (by kernel_rfl) (fun _ _ _ h => h) (Or.inl ⟨by kernel_rfl, ?_⟩) (by assumption) ?_
  rotate_left
  · (intro w hSw; (try dsimp only at hSw); go_simp)
    try (with_reducible rfl)
  rotate_left
  try simp (maxSteps := 4000000) only [Act.put, List.setIfInBounds_toArray, List.set_cons_zero, List.set_cons_succ, List.getElem_toArray, List.getElem_cons_zero, List.getElem_cons_succ]
  refine wpAnyH_take (i := 17) (v := ?_) rfl (by kernel_rfl) (by kernel_rfl) (by kernel_rfl) (fun _ _ _ h => h) (Or.inl ⟨by kernel_rfl, ?_⟩) (by assumption) ?_
  rotate_left
  · (intro w hSw; (try dsimp only at hSw); go_simp)
    try (with_reducible rfl)
  rotate_left
  try simp (maxSteps := 4000000) only [Act.put, List.setIfInBounds_toArray, List.set_cons_zero, List.set_cons_succ, List.getElem_toArray, List.getElem_cons_zero, List.getElem_cons_succ]
  refine wpAnyH_take (i := 18) (v := ?_) rfl (by kernel_rfl) (by kernel_rfl) (by kernel_rfl) (fun _ _ _ h => h) (Or.inl ⟨by kernel_rfl, ?_⟩) (by assumption) ?_
  rotate_left
  · (intro w hSw; (try dsimp only at hSw); go_simp)
    try (with_reducible rfl)
  rotate_left
  try simp (maxSteps := 4000000) only [Act.put, List.setIfInBounds_toArray, List.set_cons_zero, List.set_cons_succ, List.getElem_toArray, List.getElem_cons_zero, List.getElem_cons_succ]
  refine wpAnyH_take (i := 19) (v := ?_) rfl (by kernel_rfl) (by kernel_rfl) (by kernel_rfl) (fun _ _ _ h => h) (Or.inl ⟨by kernel_rfl, ?_⟩) (by assumption) ?_
  rotate_left
  · (intro w hSw; (try dsimp only at hSw); go_simp)
    try (with_reducible rfl)
  rotate_left
  try simp (maxSteps := 4000000) only [Act.put, List.setIfInBounds_toArray, List.set_cons_zero, List.set_cons_succ, List.getElem_toArray, List.getElem_cons_zero, List.getElem_cons_succ]
  refine wpAnyH_take (i := 20) (v := ?_) rfl (by kernel_rfl) (by kernel_rfl) (by kernel_rfl) (fun _ _ _ h => h) (Or.inl ⟨by kernel_rfl, ?_⟩) (by assumption) ?_
  rotate_left
  · (intro w hSw; (try dsimp only at hSw); go_simp)
    try (with_reducible rfl)
  rotate_left
  try simp (maxSteps := 4000000) only [Act.put, List.setIfInBounds_toArray, List.set_cons_zero, List.set_cons_succ, List.getElem_toArray, List.getElem_cons_zero, List.getElem_cons_succ]
  refine wpAnyH_ready (rs := [21]) (by kernel_rfl) (by simp) ?_
  refine AllReadyH.cons rfl (fun K2 hK2 => ?_) AllReadyH.nil
  go_simp
  with_reducible refine Calls.mono (KA.out _ (H1.out.later HB3.out) (H2.out.later HB3.out)) ?_
  rintro e w4 ⟨rfl, hw4⟩
  have HB4 : Hid (Below W.heap.size W w4) := Lib.hid (by obtain ⟨q, rfl⟩ := hw4; exact below_drewN HB3.out q)
  clear hw4 HB3 KA ML2
  refine hK2.out _ _ (trivial) (fun hHeld2 => ?_)
  clear hK2 K2 hHeld
  have hHeld := hHeld2
  clear hHeld2
  try simp (maxSteps := 4000000) only [Act.put, List.setIfInBounds_toArray, List.set_cons_zero, List.set_cons_succ]
  refine wpAnyH_take (i := 22) (v := ?_) rfl (by kernel_rfl) (by kernel_rfl) (by kernel_rfl) (fun _ _ _ h => h) (Or.inl ⟨by kernel_rfl, ?_⟩) (by assumption) ?_
  rotate_left
  · (intro w hSw; (try dsimp only at hSw); go_simp)
    try (with_reducible rfl)
  rotate_left
  try simp (maxSteps := 4000000) only [Act.put, List.setIfInBounds_toArray, List.set_cons_zero, List.set_cons_succ, List.getElem_toArray, List.getElem_cons_zero, List.getElem_cons_succ]
  refine wpAnyH_take (i := 23) (v := ?_) rfl (by kernel_rfl) (by kernel_rfl) (by kernel_rfl) (fun _ _ _ h => h) (Or.inl ⟨by kernel_rfl, ?_⟩) (by assumption) ?_
  rotate_left
  · (intro w hSw; (try dsimp only at hSw); go_simp)
    try (with_reducible rfl)
  rotate_left
  try simp (maxSteps := 4000000) only [Act.put, List.setIfInBounds_toArray, List.set_cons_zero, List.set_cons_succ, List.getElem_toArray, List.getElem_cons_zero, List.getElem_cons_succ]
  refine wpAnyH_done (by kernel_rfl) ?_ _
  clear hHeld
  go_wp2_with fail
  refine (ML1.out _ (H1.out.later HB4.out)).mono ?_
  rintro e w5 ⟨a3, cap3, rfl, hi5, hb5⟩
  have HI5 := Lib.hid hi5
  have HB5 : Hid (Below W.heap.size W w5) := Lib.hid (thn HB4.out hb5)
  clear hi5 hb5 HB4 ML1
  obtain ⟨L, hL⟩ : ∃ L, l.length = L := ⟨_, rfl⟩
  rw [hL]
  have HL := Lib.hid hL
  have hL9 : L ≤ 1024 := by have := HLN.out; omega
  clear hL
  go_wp2_with fail
  go_loopw [34] (fun v wr => ∃ k : Nat, k ≤ L ∧ v = .int .i64 k ∧ Hid (AlikeL σ1 σ2 l k) ∧ Hid (Below W.heap.size W wr) ∧ Hid (Ints .i64 wr a3 l.length l)) (fun v _ => L - (intOf v).toNat)
  case atStart => exact ⟨0, by omega, rfl, Lib.hid (fun j hj => by omega), HB5, HI5⟩
  case round =>
    clear HB5 HI5
    obtain ⟨k, hk, rfl, HK, HB, HI⟩ := hrel
    by_cases hlt : k < L
    · have l1 : (k : Int) < (L : Int) := by omega
      have q0 : (0 : Int) ≤ (k : Int) := by omega
      have q2 : (k : Int).toNat = k := Int.toNat_natCast k
      obtain ⟨p, hp1, hp2, hp3, hp4⟩ := HIN.out k (by rw [HL.out]; exact hlt)
      obtain ⟨-, h0 | ⟨b, off, rfl, hb, -, hcell⟩⟩ := HI.out
      · exfalso; have := HL.out; omega
      have c1 := hcell k (by rw [HL.out]; exact hlt)
      rw [hp2] at c1
      have HP := Lib.hid (And.intro hp1 (And.intro hp3 hp4))
      clear hp1 hp2 hp3 hp4 hcell hb
      go_upto_region 6 with (fail)
      refine wp_region_held_drew (S := fun w' => True) (by kernel_rfl) ?_ (fun hHeld => ?_)
      · exact trivial
      refine wpAnyH_take (i := 0) (v := ?_) rfl (by kernel_rfl) (by kernel_rfl) (by kernel_rfl) (fun _ _ _ h => h) (Or.inl ⟨by kernel_rfl, ?_⟩) (by assumption) ?_
      rotate_left
      · (intro w hSw; (try dsimp only at hSw); go_simp)
        try (with_reducible rfl)
      rotate_left
      try simp (maxSteps := 4000000) only [Act.put, List.setIfInBounds_toArray, List.set_cons_zero, List.set_cons_succ, List.getElem_toArray, List.getElem_cons_zero, List.getElem_cons_succ]
      refine wpAnyH_take (i := 1) (v := ?_) rfl (by kernel_rfl) (by kernel_rfl) (by kernel_rfl) (fun _ _ _ h => h) (Or.inl ⟨by kernel_rfl, ?_⟩) (by assumption) ?_
      rotate_left
      · (intro w hSw; (try dsimp only at hSw); go_simp)
        try (with_reducible rfl)
      rotate_left
      try simp (maxSteps := 4000000) only [Act.put, List.setIfInBounds_toArray, List.set_cons_zero, List.set_cons_succ, List.getElem_toArray, List.getElem_cons_zero, List.getElem_cons_succ]
      refine wpAnyH_take (i := 2) (v := ?_) rfl (by kernel_rfl) (by kernel_rfl) (by kernel_rfl) (fun _ _ _ h => h) (Or.inl ⟨by kernel_rfl, ?_⟩) (by assumption) ?_
      rotate_left
      · (intro w hSw; (try dsimp only at hSw); go_simp)
        try (with_reducible rfl)
      rotate_left
      try simp (maxSteps := 4000000) only [Act.put, List.setIfInBounds_toArray, List.set_cons_zero, List.set_cons_succ, List.getElem_toArray, List.getElem_cons_zero, List.getElem_cons_succ]
      refine wpAnyH_take (i := 3) (v := ?_) rfl (by kernel_rfl) (by kernel_rfl) (by kernel_rfl) (fun _ _ _ h => h) (Or.inl ⟨by kernel_rfl, ?_⟩) (by assumption) ?_
      rotate_left
      · (intro w hSw; (try dsimp only at hSw); go_simp)
        try (with_reducible rfl)
      rotate_left
      try simp (maxSteps := 4000000) only [Act.put, List.setIfInBounds_toArray, List.set_cons_zero, List.set_cons_succ, List.getElem_toArray, List.getElem_cons_zero, List.getElem_cons_succ]
      refine wpAnyH_take (i := 4) (v := ?_) rfl (by kernel_rfl) (by kernel_rfl) (by kernel_rfl) (fun _ _ _ h => h) (Or.inl ⟨by kernel_rfl, ?_⟩) (by assumption) ?_
      rotate_left
      · (intro w hSw; (try dsimp only at hSw); go_simp)
        try (with_reducible rfl)
      rotate_left
      try simp (maxSteps := 4000000) only [Act.put, List.setIfInBounds_toArray, List.set_cons_zero, List.set_cons_succ, List.getElem_toArray, List.getElem_cons_zero, List.getElem_cons_succ]
      refine wpAnyH_take (i := 5) (v := ?_) rfl (by kernel_rfl) (by kernel_rfl) (by kernel_rfl) (fun _ _ _ h => h) (Or.inl ⟨by kernel_rfl, ?_⟩) (by assumption) ?_
      rotate_left
      · (intro w hSw; (try dsimp only at hSw); go_simp)
        try (with_reducible rfl)
      rotate_left
      try simp (maxSteps := 4000000) only [Act.put, List.setIfInBounds_toArray, List.set_cons_zero, List.set_cons_succ, List.getElem_toArray, List.getElem_cons_zero, List.getElem_cons_succ]
      refine wpAnyH_take (i := 6) (v := ?_) rfl (by kernel_rfl) (by kernel_rfl) (by kernel_rfl) (fun _ _ _ h => h) (Or.inl ⟨by kernel_rfl, ?_⟩) (by assumption) ?_
      rotate_left
      · (intro w hSw; (try dsimp only at hSw); go_simp)
        try (with_reducible rfl)
      rotate_left
      try simp (maxSteps := 4000000) only [Act.put, List.setIfInBounds_toArray, List.set_cons_zero, List.set_cons_succ, List.getElem_toArray, List.getElem_cons_zero, List.getElem_cons_succ]
      refine wpAnyH_ready (rs := [7]) (by kernel_rfl) (by simp) ?_
      refine AllReadyH.cons rfl (fun K2 hK2 => ?_) AllReadyH.nil
      go_simp
      by_cases hall : ∀ g, g < 16 → σ1.f (16 * p + g) = σ2.f (16 * p + g)
      · have HA := Lib.hid hall
        clear hall
        with_reducible refine Calls.mono (malike p true B1 B2 cl1 cl2 M1 M2 σ1 σ2 _ (H1.out.later HB.out.drew) (H2.out.later HB.out.drew) HP.out.2.1 (HC.out p) ⟨fun _ => HA.out, fun _ => rfl⟩) ?_
        rintro e w6 ⟨rfl, hb6⟩
        have hb6' : Below wr.heap.size wr w6 := thn (Below.refl _ _).drew hb6
        have HB6 : Hid (Below W.heap.size W w6) := Lib.hid (thn HB.out hb6')
        have HI6 := Lib.hid (HI.out.below hb6')
        have HK6 : Hid (AlikeL σ1 σ2 l (k + 1)) := Lib.hid (fun j hj p' hp' => by
          by_cases e : j = k
          · rw [e, HP.out.1] at hp'
            have e2 := Option.some.inj hp'
            have e3 : p = p' := by omega
            rw [← e3]; exact HA.out
          · exact HK.out j (by omega) p' hp')
        clear hb6 hb6'
        refine hK2.out _ _ (trivial) (fun hHeld2 => ?_)
        clear hK2 K2 hHeld
        have hHeld := hHeld2
        clear hHeld2
        try simp (maxSteps := 4000000) only [Act.put, List.setIfInBounds_toArray, List.set_cons_zero, List.set_cons_succ]
        refine wpAnyH_take (i := 8) (v := ?_) rfl (by kernel_rfl) (by kernel_rfl) (by kernel_rfl) (fun _ _ _ h => h) (Or.inl ⟨by kernel_rfl, ?_⟩) (by assumption) ?_
        rotate_left
        · (intro w hSw; (try dsimp only at hSw); go_simp)
          try (with_reducible rfl)
        rotate_left
        try simp (maxSteps := 4000000) only [Act.put, List.setIfInBounds_toArray, List.set_cons_zero, List.set_cons_succ, List.getElem_toArray, List.getElem_cons_zero, List.getElem_cons_succ]
        refine wpAnyH_done (by kernel_rfl) ?_ _
        clear hHeld c1
        go_wp2_with fail
        go_roundw
        case rel => exact ⟨k + 1, by omega, by go_num, HK6, HB6, HI6⟩
        case measure => simp [intOf]; omega
      · have HA := Lib.hid hall
        clear hall
        obtain rfl : r = false := HNOT.out p HP.out.2.2 HA.out
        with_reducible refine Calls.mono (malike p false B1 B2 cl1 cl2 M1 M2 σ1 σ2 _ (H1.out.later HB.out.drew) (H2.out.later HB.out.drew) HP.out.2.1 (HC.out p) ⟨fun h => Bool.noConfusion h, fun h => absurd h HA.out⟩) ?_
        rintro e w6 ⟨rfl, hb6⟩
        have HB6 : Hid (Below W.heap.size W w6) := Lib.hid (thn HB.out.drew hb6)
        clear hb6
        refine hK2.out _ _ (trivial) (fun hHeld2 => ?_)
        clear hK2 K2 hHeld
        have hHeld := hHeld2
        clear hHeld2
        try simp (maxSteps := 4000000) only [Act.put, List.setIfInBounds_toArray, List.set_cons_zero, List.set_cons_succ]
        refine wpAnyH_take (i := 8) (v := ?_) rfl (by kernel_rfl) (by kernel_rfl) (by kernel_rfl) (fun _ _ _ h => h) (Or.inl ⟨by kernel_rfl, ?_⟩) (by assumption) ?_
        rotate_left
        · (intro w hSw; (try dsimp only at hSw); go_simp)
          try (with_reducible rfl)
        rotate_left
        try simp (maxSteps := 4000000) only [Act.put, List.setIfInBounds_toArray, List.set_cons_zero, List.set_cons_succ, List.getElem_toArray, List.getElem_cons_zero, List.getElem_cons_succ]
        refine wpAnyH_done (by kernel_rfl) ?_ _
        clear hHeld c1
        go_wp2_with fail
        go_ret
        exact ⟨rfl, HB6.out⟩
    · obtain rfl : k = L := by omega
      have l1 : ¬ (k : Int) < (k : Int) := by omega
      obtain rfl : r = true := HALL.out (by rw [HL.out]; exact HK.out)
      go_wp2_with fail
      go_ret
      exact ⟨rfl, HB.out⟩
end Go.Proofs.YtnfcpohbdkionaaGreatDoor
