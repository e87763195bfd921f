/- The store: what is read. -/
import Derived.Test.YtgidnmjeifgciaaDoorSoD
import Derived.Deep.RegionHeld3
namespace Go.Proofs.YtgidnmjeifgciaaDoor
set_option maxRecDepth 100000
open Go.RowKit Go.ChangeMaps Go.MapKept
open Go.Maps (Keyed)
set_option linter.unusedVariables false
set_option linter.unusedSimpArgs false

theorem addp (b o j : Nat) : (⟨b, o, none⟩ : Addr).add j = ⟨b, o + j, none⟩ := by unfold Addr.add; split <;> simp_all
/-- n bytes in a block of their own. -/
def PGn (D n : Nat) (W : World) (f : Nat → Nat) : Prop := D < W.heap.size ∧ (∀ j, j < n → W.cell? ⟨D, j, none⟩ = some (.int .u8 (f j : Int))) ∧ ∀ o, W.frozen? ⟨D, o, none⟩ = false
theorem PGn.keep {D n : Nat} {W W' : World} {f : Nat → Nat} (h : PGn D n W f) (hs : W.heap.size ≤ W'.heap.size) (e : W'.heap[D]? = W.heap[D]?) : PGn D n W' f :=
  ⟨Nat.lt_of_lt_of_le h.1 hs, fun j hj => (World.cell?_of_block e).trans (h.2.1 j hj), fun o => (World.frozen?_of_block e).trans (h.2.2 o)⟩
theorem ob_set (g o : Nat) (W : World) (v : Value) : OB g W (W.setCell ⟨g, o, none⟩ v) :=
  ⟨by simp [World.setCell], fun i _ hi => Below.heap_setCell W ⟨g, o, none⟩ v i hi, fun L hL _ => (Below.refl _ _).setCell hL _⟩
theorem ob_cells (b : Nat) : ∀ (vs : List Value) (o : Nat) (W : World), OB b W (W.setCells b o vs) ∧ (W.setCells b o vs).heap.size = W.heap.size
  | [], o, W => ⟨OB.of_below (Below.refl _ _), rfl⟩
  | v :: r, o, W => by
    have h := ob_cells b r (o + 1) (W.setCell ⟨b, o, none⟩ v)
    exact ⟨(ob_set b o W v).trans h.1 (.inl rfl), h.2.trans (by simp [World.setCell])⟩
/-- Bytes that are written over some of those. -/
theorem PGn.cells {D n : Nat} {W : World} {f : Nat → Nat} (h : PGn D n W f) (o k : Nat) (hk : o + k ≤ n) (c : Nat → Nat) : PGn D n (W.setCells D o ((List.range k).map fun i => Value.int .u8 ((c i : Nat) : Int))) (fun j => if o ≤ j ∧ j < o + k then c (j - o) else f j) := by
  have hl : ((List.range k).map fun i => Value.int .u8 ((c i : Nat) : Int)).length = k := by simp
  refine ⟨by rw [(ob_cells D _ o W).2]; exact h.1, fun j hj => ?_, fun q => by rw [World.frozen?_setCells]; exact h.2.2 q⟩
  by_cases hc : o ≤ j ∧ j < o + k
  · have h1 := World.cell?_setCells_in D ((List.range k).map fun i => Value.int .u8 ((c i : Nat) : Int)) o W (fun i hi => by
      rw [hl] at hi
      rw [h.2.1 (o + i) (by omega)]; rfl) (j - o) (by rw [hl]; omega)
    rw [show o + (j - o) = j by omega] at h1
    rw [h1]
    simp only [if_pos hc]
    simp
  · rw [World.cell?_setCells_out D _ o W ⟨D, j, none⟩ (fun _ _ => by rw [hl]; show j < o ∨ o + k ≤ j; omega)]
    simp only [if_neg hc]
    exact h.2.1 j hj
set_option maxRecDepth 100000 in
set_option maxHeartbeats 3200000 in
theorem readC (B g b x3 x7 D n P R T dn : Nat) (w : World) (l : List (Nat × Nat)) (c f : Nat → Nat) (h : STL B g b w l c) (hx3 : w.cell? ⟨x3, 0, none⟩ = some (.pointer (some ⟨g, 0, none⟩))) (hx7 : w.cell? ⟨x7, 0, none⟩ = some (.slice (some ⟨D, 0, none⟩) n n))
    (hxD : x7 ≠ D) (hD : PGn D n w f) (hP : P < 1024) (hRT : R < T) (hT : T ≤ 256) (hdn : dn + (T - R) ≤ n) (hn : n ≤ 262144) (hz : ∀ k, k < T - R → f (dn + k) = 0) :
    Calls Tryd.prog 123 #[.int .i64 (P : Int), .int .i64 (R : Int), .int .i64 (T : Int), .int .i64 (dn : Int), .pointer (some ⟨x3, 0, none⟩), .pointer (some ⟨x7, 0, none⟩)] w fun e w' => e = .returned (.tuple #[]) ∧ PGn D n w' (fun j => if dn ≤ j ∧ j < dn + (T - R) then c (P * 256 + R + (j - dn)) else f j) ∧ OB D w w' := by
  have hg := h.1
  have HD := Lib.hid hD
  rcases lookP w b l h.2.2.1 P (by omega) with ⟨q, hq, hl1, -⟩ | ⟨hno, hl1, -⟩
  · have hl3 : (Instr.lookup 147 (.map (some b)) (.agg #[.int .i64 (P : Int)]) true).run Tryd.prog w = .ok (.tuple #[.slice (some ⟨q, 0, none⟩) 256 256, .bool true]) w := hl1
    obtain ⟨k1, k2, k3, k4⟩ := h.2.2.2.1 (P, q) hq
    have kc1 : ¬ n = dn := by omega
    have kc2 : ¬ 256 = R := by omega
    have kd : (dn : Int) ≤ n := by omega
    have kd0 : (0 : Int) ≤ dn := by omega
    have kt : (T : Int) ≤ 256 := by omega
    have kr : (R : Int) ≤ T := by omega
    have hlen : ((List.range (T - R)).map fun i => Value.int .u8 ((c (P * 256 + R + i) : Nat) : Int)).length = T - R := by simp
    have hcopy : (Builtin.copy_ #[35, 35] 3 #[.slice (some ⟨D, dn, none⟩) (n - dn) (n - dn), .slice (some ⟨q, R, none⟩) (T - R) (256 - R)]).run Tryd.prog w.drew = .ok (goInt (T - R : Nat)) (w.drew.setCells D dn ((List.range (T - R)).map fun i => Value.int .u8 ((c (P * 256 + R + i) : Nat) : Int))) := by
      have := run_copy_cells (P := Tryd.prog) w.drew 35 35 3 5 D dn (n - dn) (n - dn) ⟨q, R, none⟩ (T - R) (256 - R) ((List.range (T - R)).map fun i => Value.int .u8 ((c (P * 256 + R + i) : Nat) : Int)) Tryd.underlying35 (by kernel_rfl) (by rw [hlen]; exact (Nat.min_eq_left (by omega)).symm)
        (fun j v hv => by
          have hj : j < T - R := by have := (List.getElem?_eq_some_iff.1 hv).1; rwa [hlen] at this
          rw [addp]
          have h2 := k4.2.1 (R + j) (by omega)
          simp [hj] at hv
          rw [← hv]
          have e : P * 256 + R + j = P * 256 + (R + j) := by omega
          rw [e]
          exact h2)
        (fun j hj => by rw [hlen] at hj; have h2 := hD.2.1 (dn + j) (by omega); exact Option.isSome_iff_exists.2 ⟨_, h2⟩) (fun j hj => hD.2.2 _) (fun v hv => by obtain ⟨i, _, rfl⟩ := List.mem_map.1 hv; rfl)
      rw [hlen] at this
      exact this
    have hPG := hD.cells dn (T - R) hdn (fun i => c (P * 256 + R + i))
    have hOB := (ob_cells D ((List.range (T - R)).map fun i => Value.int .u8 ((c (P * 256 + R + i) : Nat) : Int)) dn w).1
    obtain ⟨w5, hw5⟩ : ∃ w5, w.drew.setCells D dn ((List.range (T - R)).map fun i => Value.int .u8 ((c (P * 256 + R + i) : Nat) : Int)) = w5 := ⟨_, rfl⟩
    have hPD : PGn D n w.drew f := hD
    have HPG5 : Hid (PGn D n w5 (fun j => if dn ≤ j ∧ j < dn + (T - R) then c (P * 256 + R + (j - dn)) else f j)) := Lib.hid (by rw [← hw5]; exact hPD.cells dn (T - R) hdn (fun i => c (P * 256 + R + i)))
    have HOB5 : Hid (OB D w w5) := Lib.hid (by
      rw [← hw5]
      exact (OB.of_below (Below.refl _ _).drew).trans (ob_cells D _ dn w.drew).1 (.inl rfl))
    rw [hw5] at hcopy
    have hx75 : w5.cell? ⟨x7, 0, none⟩ = some (.slice (some ⟨D, 0, none⟩) n n) := by
      have hz7 := World.block_lt_of_cell? w _ hx7
      exact (World.cell?_of_block (HOB5.out.2.1 x7 hz7 hxD)).trans hx7
    clear hl1 hq k1 k2 k3 k4 hPG hOB hw5 hPD hlen h hD
    go_enter Tryd.func123, Tryd.ntmps123
    go_upto_region 2 with (fail)
    refine wp_region_held_drew (S := fun w' => w'.cell? ⟨x7, 0, none⟩ = some (.slice (some ⟨D, 0, none⟩) n n)) (by kernel_rfl) ?_ (fun hHeld => ?_)
    · exact hx7
    refine wpAnyH_take (i := 0) (v := ?_) rfl (by kernel_rfl) (by kernel_rfl) (by kernel_rfl) (fun _ _ _ h => h) (Or.inl ⟨by kernel_rfl, ?_⟩) (by assumption) ?_
    rotate_left
    · (intro w hSw; (try dsimp only at hSw); go_simp)
      try (with_reducible rfl)
    rotate_left
    try simp (maxSteps := 4000000) only [Act.put, List.setIfInBounds_toArray, List.set_cons_zero, List.set_cons_succ, List.getElem_toArray, List.getElem_cons_zero, List.getElem_cons_succ]
    refine wpAnyH_take (i := 1) (v := ?_) rfl (by kernel_rfl) (by kernel_rfl) (by kernel_rfl) (fun _ _ _ h => h) (Or.inl ⟨by kernel_rfl, ?_⟩) (by assumption) ?_
    rotate_left
    · (intro w hSw; (try dsimp only at hSw); go_simp)
      try (with_reducible rfl)
    rotate_left
    try simp (maxSteps := 4000000) only [Act.put, List.setIfInBounds_toArray, List.set_cons_zero, List.set_cons_succ, List.getElem_toArray, List.getElem_cons_zero, List.getElem_cons_succ]
    refine wpAnyH_take (i := 2) (v := ?_) rfl (by kernel_rfl) (by kernel_rfl) (by kernel_rfl) (fun _ _ _ h => h) (Or.inl ⟨by kernel_rfl, ?_⟩) (by assumption) ?_
    rotate_left
    · (intro w hSw; (try dsimp only at hSw); go_simp)
      try (with_reducible rfl)
    rotate_left
    try simp (maxSteps := 4000000) only [Act.put, List.setIfInBounds_toArray, List.set_cons_zero, List.set_cons_succ, List.getElem_toArray, List.getElem_cons_zero, List.getElem_cons_succ]
    refine wpAnyH_take (i := 3) (v := ?_) rfl (by kernel_rfl) (by kernel_rfl) (by kernel_rfl) (fun _ _ _ h => h) (Or.inl ⟨by kernel_rfl, ?_⟩) (by assumption) ?_
    rotate_left
    · (intro w hSw; (try dsimp only at hSw); go_simp)
      try (with_reducible rfl)
    rotate_left
    try simp (maxSteps := 4000000) only [Act.put, List.setIfInBounds_toArray, List.set_cons_zero, List.set_cons_succ, List.getElem_toArray, List.getElem_cons_zero, List.getElem_cons_succ]
    refine wpAnyH_take (i := 4) (v := ?_) rfl (by kernel_rfl) (by kernel_rfl) (by kernel_rfl) (fun _ _ _ h => h) (Or.inl ⟨by kernel_rfl, ?_⟩) (by assumption) ?_
    rotate_left
    · (intro w hSw; (try dsimp only at hSw); go_simp)
      try (with_reducible rfl)
    rotate_left
    try simp (maxSteps := 4000000) only [Act.put, List.setIfInBounds_toArray, List.set_cons_zero, List.set_cons_succ, List.getElem_toArray, List.getElem_cons_zero, List.getElem_cons_succ]
    refine wpAnyH_take (i := 5) (v := ?_) rfl (by kernel_rfl) (by kernel_rfl) (by kernel_rfl) (fun _ _ _ h => h) (Or.inl ⟨by kernel_rfl, ?_⟩) (by assumption) ?_
    rotate_left
    · (intro w hSw; (try dsimp only at hSw); go_simp)
      try (with_reducible rfl)
    rotate_left
    try simp (maxSteps := 4000000) only [Act.put, List.setIfInBounds_toArray, List.set_cons_zero, List.set_cons_succ, List.getElem_toArray, List.getElem_cons_zero, List.getElem_cons_succ]
    refine wpAnyH_take (i := 6) (v := ?_) rfl (by kernel_rfl) (by kernel_rfl) (by kernel_rfl) (fun _ _ _ h => h) (Or.inl ⟨by kernel_rfl, ?_⟩) (by assumption) ?_
    rotate_left
    · (intro w hSw; (try dsimp only at hSw); go_simp)
      try (with_reducible rfl)
    rotate_left
    try simp (maxSteps := 4000000) only [Act.put, List.setIfInBounds_toArray, List.set_cons_zero, List.set_cons_succ, List.getElem_toArray, List.getElem_cons_zero, List.getElem_cons_succ]
    refine wpAnyH_ready (rs := [7]) (by kernel_rfl) (by simp) ?_
    refine AllReadyH.cons rfl (fun K2 hK2 => ?_) AllReadyH.nil
    go_simp
    refine hK2.out _ _ hx75 (fun hHeld2 => ?_)
    clear hK2 K2 hHeld
    have hHeld := hHeld2
    clear hHeld2
    try simp (maxSteps := 4000000) only [Act.put, List.setIfInBounds_toArray, List.set_cons_zero, List.set_cons_succ]
    refine wpAnyH_done (by kernel_rfl) ?_ _
    go_wp2
    exact bodyPost_end (v := .tuple #[]) (by simp [results, Tryd.results123, go_sem]) rfl ⟨rfl, HPG5.out, HOB5.out⟩
  · have hl3 : (Instr.lookup 147 (.map (some b)) (.agg #[.int .i64 (P : Int)]) true).run Tryd.prog w = .ok (.tuple #[.slice none 0 0, .bool false]) w := hl1
    have HF : Hid (PGn D n w (fun j => if dn ≤ j ∧ j < dn + (T - R) then c (P * 256 + R + (j - dn)) else f j)) := Lib.hid ⟨hD.1, fun j hj => by
      by_cases hc : dn ≤ j ∧ j < dn + (T - R)
      · have e1 : f j = 0 := by have := hz (j - dn) (by omega); rwa [show dn + (j - dn) = j by omega] at this
        have e2 : c (P * 256 + R + (j - dn)) = 0 := h.2.2.2.2.2 _ (fun q hq => hno q (by rw [show (P * 256 + R + (j - dn)) / 256 = P by omega] at hq; exact hq))
        have h3 := hD.2.1 j hj
        rw [e1] at h3
        simp only [if_pos hc, e2]
        exact h3
      · simp only [if_neg hc]
        exact hD.2.1 j hj, hD.2.2⟩
    clear hl1 hno h hD hz
    go_enter Tryd.func123, Tryd.ntmps123
    go_wp2
    exact bodyPost_end (v := .tuple #[]) (by simp [results, Tryd.results123, go_sem]) rfl ⟨rfl, HF.out, OB.of_below (Below.refl _ _)⟩
end Go.Proofs.YtgidnmjeifgciaaDoor
