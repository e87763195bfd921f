/- The store: what is written. -/
import Derived.Test.YtgidnmjeifgciaaDoorSoF
import Derived.Deep.RegionHeld3
namespace Go.Proofs.YtgidnmjeifgciaaDoor
set_option maxRecDepth 100000
open Go.RowKit Go.ChangeMaps Go.MapKept
open Go.Maps (Keyed)
set_option linter.unusedVariables false
set_option linter.unusedSimpArgs false

/-- Bytes with some of them written anew. -/
def over (c : Nat → Nat) (o k : Nat) (d : Nat → Nat) : Nat → Nat := fun x => if o ≤ x ∧ x < o + k then d (x - o) else c x
theorem nodup_inj {α β : Type} {f : α → β} : ∀ {l : List α}, (l.map f).Nodup → ∀ {a b : α}, a ∈ l → b ∈ l → f a = f b → a = b
  | [], _, _, _, ha, _, _ => by simp at ha
  | x :: l, h, a, b, ha, hb, e => by
    rw [List.map_cons, List.nodup_cons] at h
    rcases List.mem_cons.1 ha with h1 | h1
    · rcases List.mem_cons.1 hb with h2 | h2
      · rw [h1, h2]
      · exact absurd (show f x ∈ l.map f from List.mem_map.2 ⟨b, h2, by rw [← e, h1]⟩) h.1
    · rcases List.mem_cons.1 hb with h2 | h2
      · exact absurd (show f x ∈ l.map f from List.mem_map.2 ⟨a, h1, by rw [e, h2]⟩) h.1
      · exact nodup_inj h.2 h1 h2 e
theorem PG.cells {D : Nat} {W : World} {f : Nat → Nat} (h : PG D W f) (o k : Nat) (hk : o + k ≤ 256) (c : Nat → Nat) : PG D (W.setCells D o ((List.range k).map fun i => Value.int .u8 ((c i : Nat) : Int))) (fun j => if o ≤ j ∧ j < o + k then c (j - o) else f j) :=
  PGn.cells (D := D) (n := 256) h o k hk c
theorem STL.write {B g b : Nat} {w : World} {l : List (Nat × Nat)} {c : Nat → Nat} (h : STL B g b w l c) {P q : Nat} (hq : (P, q) ∈ l) (o k : Nat) (hk : o + k ≤ 256) (d : Nat → Nat) : STL B g b (w.setCells q o ((List.range k).map fun i => Value.int .u8 ((d i : Nat) : Int))) l (over c (P * 256 + o) k d) := by
  obtain ⟨h1, ⟨h2, h3, h4, h5, h6⟩, h7, h8, h9, h10⟩ := h
  obtain ⟨ho, hs⟩ := ob_cells q ((List.range k).map fun i => Value.int .u8 ((d i : Nat) : Int)) o w
  obtain ⟨k1, k2, k3, k4⟩ := h8 (P, q) hq
  have hf := h7
  obtain ⟨_, _, _, _, hnd, _⟩ := hf
  refine ⟨(World.cell?_of_block (ho.2.1 g h5 (Ne.symm k1))).trans h1, ⟨h2, h3, h4, by rw [hs]; exact h5, by rw [hs]; exact h6⟩, h7.keep (ho.2.1 b h6 (Ne.symm k2)), fun pq hpq => ?_, h9, fun x hx => ?_⟩
  · obtain ⟨m1, m2, m3, m4⟩ := h8 pq hpq
    refine ⟨m1, m2, m3, ?_⟩
    by_cases e : pq.2 = q
    · have e2 : pq = (P, q) := nodup_inj h9 hpq hq e
      subst e2
      have h11 := PG.cells k4 o k hk d
      refine ⟨h11.1, fun j hj => ?_, h11.2.2⟩
      rw [h11.2.1 j hj]
      simp only [over]
      by_cases hc : o ≤ j ∧ j < o + k
      · rw [if_pos hc, if_pos (by omega)]
        rw [show P * 256 + j - (P * 256 + o) = j - o by omega]
      · rw [if_neg hc, if_neg (by omega)]
    · have e2 : pq.1 ≠ P := fun e3 => e (by have := nodup_inj hnd hpq hq e3; rw [this])
      have h11 := m4.keep (W' := w.setCells q o ((List.range k).map fun i => Value.int .u8 ((d i : Nat) : Int))) (by rw [hs]; exact Nat.le_refl _) (ho.2.1 pq.2 m4.1 e)
      refine ⟨h11.1, fun j hj => ?_, h11.2.2⟩
      rw [h11.2.1 j hj]
      simp only [over]
      rw [if_neg (by omega)]
  · simp only [over]
    rw [if_neg (fun hc => hx q (by rw [show x / 256 = P by omega]; exact hq))]
    exact h10 x hx
set_option maxRecDepth 100000 in
set_option maxHeartbeats 3200000 in
theorem writeC (B g b x3 x5 sb so n cb P R T dn : Nat) (w : World) (l : List (Nat × Nat)) (c d : Nat → Nat) (h : STL B g b w l c) (hx3 : w.cell? ⟨x3, 0, none⟩ = some (.pointer (some ⟨g, 0, none⟩))) (hx5 : w.cell? ⟨x5, 0, none⟩ = some (.slice (some ⟨sb, so, none⟩) n cb))
    (hs : ∀ i, i < n → w.cell? ⟨sb, so + i, none⟩ = some (.int .u8 (d i : Int))) (hncb : n ≤ cb) (hx3b : x3 ≠ b) (hx5b : x5 ≠ b) (hsb : sb ≠ b) (hP : P < 1024) (hRT : R < T) (hT : T ≤ 256) (hdn : dn + (T - R) ≤ n) :
    Calls Tryd.prog 111 #[.int .i64 (P : Int), .int .i64 (R : Int), .int .i64 (T : Int), .int .i64 (dn : Int), .pointer (some ⟨x3, 0, none⟩), .pointer (some ⟨x5, 0, none⟩)] w fun e w' => e = .returned (.tuple #[]) ∧ (∃ l', STL B g b w' l' (over c (P * 256 + R) (T - R) (fun i => d (dn + i))) ∧ ∀ pq ∈ l', pq ∈ l ∨ w.heap.size ≤ pq.2) ∧ w.heap.size ≤ w'.heap.size ∧ (∀ i, i < w.heap.size → i ≠ b → (∀ pq ∈ l, pq.2 ≠ i) → w'.heap[i]? = w.heap[i]?) ∧ Below B w w' := by
  have HST : Hid (STL B g b w.drew l c) := Lib.hid (h.keep (Nat.le_refl _) (fun _ _ _ => rfl))
  have hbB := h.2.1.2.1
  have HBB := Lib.hid hbB
  have HBZ : Hid (B ≤ w.heap.size) := Lib.hid (by have := h.2.1.1; have := h.2.1.2.2.2.1; omega)
  have kcb : ¬ cb = dn := by omega
  have kc2 : ¬ 256 = R := by omega
  have kd : (dn : Int) ≤ n := by omega
  have kd0 : (0 : Int) ≤ dn := by omega
  have kt : (T : Int) ≤ 256 := by omega
  have kr : (R : Int) ≤ T := by omega
  have hz5 := World.block_lt_of_cell? w _ hx5
  have HSS := Lib.hid hs
  clear h hs hbB
  go_enter Tryd.func111, Tryd.ntmps111
  go_upto_region 0 with (fail)
  refine wp_region_held_drew (S := fun w' => w'.cell? ⟨x5, 0, none⟩ = some (.slice (some ⟨sb, so, none⟩) n cb) ∧ w'.cell? ⟨x3, 0, none⟩ = some (.pointer (some ⟨g, 0, none⟩))) (by kernel_rfl) ?_ (fun hHeld => ?_)
  · exact ⟨hx5, hx3⟩
  refine wpAnyH_take (i := 0) (v := ?_) rfl (by kernel_rfl) (by kernel_rfl) (by kernel_rfl) (fun _ _ _ h => h) (Or.inl ⟨by kernel_rfl, ?_⟩) (by assumption) ?_
  rotate_left
  · (intro w hSw; (try dsimp only at hSw); go_simp)
    try (with_reducible rfl)
  rotate_left
  try simp (maxSteps := 4000000) only [Act.put, List.setIfInBounds_toArray, List.set_cons_zero, List.set_cons_succ, List.getElem_toArray, List.getElem_cons_zero, List.getElem_cons_succ]
  refine wpAnyH_take (i := 1) (v := ?_) rfl (by kernel_rfl) (by kernel_rfl) (by kernel_rfl) (fun _ _ _ h => h) (Or.inl ⟨by kernel_rfl, ?_⟩) (by assumption) ?_
  rotate_left
  · (intro w hSw; (try dsimp only at hSw); go_simp)
    try (with_reducible rfl)
  rotate_left
  try simp (maxSteps := 4000000) only [Act.put, List.setIfInBounds_toArray, List.set_cons_zero, List.set_cons_succ, List.getElem_toArray, List.getElem_cons_zero, List.getElem_cons_succ]
  refine wpAnyH_take (i := 3) (v := ?_) rfl (by kernel_rfl) (by kernel_rfl) (by kernel_rfl) (fun _ _ _ h => h) (Or.inl ⟨by kernel_rfl, ?_⟩) (by assumption) ?_
  rotate_left
  · (intro w hSw; (try dsimp only at hSw); go_simp)
    try (with_reducible rfl)
  rotate_left
  try simp (maxSteps := 4000000) only [Act.put, List.setIfInBounds_toArray, List.set_cons_zero, List.set_cons_succ, List.getElem_toArray, List.getElem_cons_zero, List.getElem_cons_succ]
  refine wpAnyH_take (i := 4) (v := ?_) rfl (by kernel_rfl) (by kernel_rfl) (by kernel_rfl) (fun _ _ _ h => h) (Or.inl ⟨by kernel_rfl, ?_⟩) (by assumption) ?_
  rotate_left
  · (intro w hSw; (try dsimp only at hSw); go_simp)
    try (with_reducible rfl)
  rotate_left
  try simp (maxSteps := 4000000) only [Act.put, List.setIfInBounds_toArray, List.set_cons_zero, List.set_cons_succ, List.getElem_toArray, List.getElem_cons_zero, List.getElem_cons_succ]
  refine wpAnyH_take (i := 6) (v := ?_) rfl (by kernel_rfl) (by kernel_rfl) (by kernel_rfl) (fun _ _ _ h => h) (Or.inl ⟨by kernel_rfl, ?_⟩) (by assumption) ?_
  rotate_left
  · (intro w hSw; (try dsimp only at hSw); go_simp)
    try (with_reducible rfl)
  rotate_left
  try simp (maxSteps := 4000000) only [Act.put, List.setIfInBounds_toArray, List.set_cons_zero, List.set_cons_succ, List.getElem_toArray, List.getElem_cons_zero, List.getElem_cons_succ]
  refine wpAnyH_take (i := 7) (v := ?_) rfl (by kernel_rfl) (by kernel_rfl) (by kernel_rfl) (fun _ _ _ h => h) (Or.inl ⟨by kernel_rfl, ?_⟩) (by assumption) ?_
  rotate_left
  · (intro w hSw; (try dsimp only at hSw); go_simp)
    try (with_reducible rfl)
  rotate_left
  try simp (maxSteps := 4000000) only [Act.put, List.setIfInBounds_toArray, List.set_cons_zero, List.set_cons_succ, List.getElem_toArray, List.getElem_cons_zero, List.getElem_cons_succ]
  refine wpAnyH_take (i := 8) (v := ?_) rfl (by kernel_rfl) (by kernel_rfl) (by kernel_rfl) (fun _ _ _ h => h) (Or.inl ⟨by kernel_rfl, ?_⟩) (by assumption) ?_
  rotate_left
  · (intro w hSw; (try dsimp only at hSw); go_simp)
    try (with_reducible rfl)
  rotate_left
  try simp (maxSteps := 4000000) only [Act.put, List.setIfInBounds_toArray, List.set_cons_zero, List.set_cons_succ, List.getElem_toArray, List.getElem_cons_zero, List.getElem_cons_succ]
  refine wpAnyH_ready (rs := [2]) (by kernel_rfl) (by simp) ?_
  refine AllReadyH.cons rfl (fun K2 hK2 => ?_) AllReadyH.nil
  go_simp
  with_reducible refine Calls.mono (page_any B g b w.drew l c HST.out P hP) ?_
  rintro e w1 ⟨⟨q, l', rfl, hq, hS1, hl'⟩, ho1⟩
  have hz3 := World.block_lt_of_cell? w _ hx3
  have h15 : w1.cell? ⟨x5, 0, none⟩ = some (.slice (some ⟨sb, so, none⟩) n cb) := (World.cell?_of_block (ho1.2.1 x5 hz5 hx5b)).trans hx5
  have h13 : w1.cell? ⟨x3, 0, none⟩ = some (.pointer (some ⟨g, 0, none⟩)) := (World.cell?_of_block (ho1.2.1 x3 hz3 hx3b)).trans hx3
  have hPG := (hS1.2.2.2.1 (P, q) hq).2.2.2
  have hlen : ((List.range (T - R)).map fun i => Value.int .u8 ((d (dn + i) : Nat) : Int)).length = T - R := by simp
  have hcopy : (Builtin.copy_ #[35, 35] 3 #[.slice (some ⟨q, R, none⟩) (T - R) (256 - R), .slice (some ⟨sb, so + dn, none⟩) (n - dn) (cb - dn)]).run Tryd.prog w1 = .ok (goInt (T - R : Nat)) (w1.setCells q R ((List.range (T - R)).map fun i => Value.int .u8 ((d (dn + i) : Nat) : Int))) := by
    have := run_copy_cells (P := Tryd.prog) w1 35 35 3 5 q R (T - R) (256 - R) ⟨sb, so + dn, none⟩ (n - dn) (cb - dn) ((List.range (T - R)).map fun i => Value.int .u8 ((d (dn + i) : Nat) : Int)) Tryd.underlying35 (by kernel_rfl) (by rw [hlen]; exact (Nat.min_eq_right (by omega)).symm)
      (fun j v hv => by
        have hj : j < T - R := by have := (List.getElem?_eq_some_iff.1 hv).1; rwa [hlen] at this
        rw [addp]
        have h2 := HSS.out (dn + j) (by omega)
        have hz := World.block_lt_of_cell? w _ h2
        have h3 := (World.cell?_of_block (a := ⟨sb, so + (dn + j), none⟩) (ho1.2.1 sb hz hsb)).trans h2
        simp [hj] at hv
        rw [← hv, Nat.add_assoc]
        exact h3)
      (fun j hj => by rw [hlen] at hj; have h2 := hPG.2.1 (R + j) (by omega); exact Option.isSome_iff_exists.2 ⟨_, h2⟩) (fun j hj => hPG.2.2 _) (fun v hv => by obtain ⟨i, _, rfl⟩ := List.mem_map.1 hv; rfl)
    rw [hlen] at this
    exact this
  have hS2 := hS1.write hq R (T - R) (by omega) (fun i => d (dn + i))
  obtain ⟨ho2, hs2⟩ := ob_cells q ((List.range (T - R)).map fun i => Value.int .u8 ((d (dn + i) : Nat) : Int)) R w1
  have hqB := (hS1.2.2.2.1 (P, q) hq).2.2.1
  obtain ⟨w5, hw5⟩ : ∃ w5, w1.setCells q R ((List.range (T - R)).map fun i => Value.int .u8 ((d (dn + i) : Nat) : Int)) = w5 := ⟨_, rfl⟩
  rw [hw5] at hcopy hS2 ho2 hs2
  have HFIN : Hid ((∃ l', STL B g b w5 l' (over c (P * 256 + R) (T - R) (fun i => d (dn + i))) ∧ ∀ pq ∈ l', pq ∈ l ∨ w.heap.size ≤ pq.2) ∧ w.heap.size ≤ w5.heap.size ∧ (∀ i, i < w.heap.size → i ≠ b → (∀ pq ∈ l, pq.2 ≠ i) → w5.heap[i]? = w.heap[i]?) ∧ Below B w w5) := Lib.hid (by
    refine ⟨⟨l', hS2, fun pq hpq => (hl' pq hpq).imp id (fun e => by rw [e]; exact Nat.le_refl _)⟩, Nat.le_trans ho1.1 ho2.1, fun i hi hib hil => ?_, ?_⟩
    · have hiq : i ≠ q := by
        rcases hl' (P, q) hq with h | h
        · exact fun e => hil (P, q) h e.symm
        · have h' : q = w.heap.size := h
          omega
      rw [ho2.2.1 i (Nat.lt_of_lt_of_le hi ho1.1) hiq]
      exact ho1.2.1 i hi hib
    · have hbz := HBZ.out
      exact (((Below.refl _ _).drew : Below B w w.drew).trans (ho1.2.2 B HBB.out hbz)).trans (ho2.2.2 B hqB (Nat.le_trans hbz ho1.1)))
  have hqx5 : x5 ≠ q := fun e => by have h := hPG.2.1 0 (by decide); rw [← e, h15] at h; cases h
  have hqx3 : x3 ≠ q := fun e => by have h := hPG.2.1 0 (by decide); rw [← e, h13] at h; cases h
  have h55 := (World.cell?_of_block (ho2.2.1 x5 (World.block_lt_of_cell? w1 _ h15) hqx5)).trans h15
  have h53 := (World.cell?_of_block (ho2.2.1 x3 (World.block_lt_of_cell? w1 _ h13) hqx3)).trans h13
  clear hPG hlen hS1 hS2 ho1 ho2 hs2 hqB hw5 hl' hqx5 hqx3 hq hx3 hx5 HSS hz3 hz5
  refine hK2.out _ _ ⟨h15, h13⟩ (fun hHeld2 => ?_)
  clear hK2 K2 hHeld
  have hHeld := hHeld2
  clear hHeld2
  try simp (maxSteps := 4000000) only [Act.put, List.setIfInBounds_toArray, List.set_cons_zero, List.set_cons_succ]
  refine wpAnyH_take (i := 5) (v := ?_) rfl (by kernel_rfl) (by kernel_rfl) (by kernel_rfl) (fun _ _ _ h => h) (Or.inl ⟨by kernel_rfl, ?_⟩) (by assumption) ?_
  rotate_left
  · (intro w hSw; (try dsimp only at hSw); go_simp)
    try (with_reducible rfl)
  rotate_left
  try simp (maxSteps := 4000000) only [Act.put, List.setIfInBounds_toArray, List.set_cons_zero, List.set_cons_succ, List.getElem_toArray, List.getElem_cons_zero, List.getElem_cons_succ]
  refine wpAnyH_ready (rs := [9]) (by kernel_rfl) (by simp) ?_
  refine AllReadyH.cons rfl (fun K2 hK2 => ?_) AllReadyH.nil
  go_simp
  refine hK2.out _ _ ⟨h55, h53⟩ (fun hHeld2 => ?_)
  clear hK2 K2 hHeld
  have hHeld := hHeld2
  clear hHeld2
  try simp (maxSteps := 4000000) only [Act.put, List.setIfInBounds_toArray, List.set_cons_zero, List.set_cons_succ]
  refine wpAnyH_done (by kernel_rfl) ?_ _
  go_wp2
  exact bodyPost_end (v := .tuple #[]) (by simp [results, Tryd.results111, go_sem]) rfl ⟨rfl, HFIN.out⟩
end Go.Proofs.YtgidnmjeifgciaaDoor
