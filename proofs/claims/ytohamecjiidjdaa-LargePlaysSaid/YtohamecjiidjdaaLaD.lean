/- slices.Insert of one large chunk, ahead of others. -/
import Derived.Test.YtohamecjiidjdaaLaC
namespace Go.Proofs.Ytohamecjiidjdaa
open Go.RowKit Go.Lib
set_option linter.unusedVariables false
set_option linter.unusedSimpArgs false

theorem one_cell4 (y : La) : ∀ u ∈ enc4 y, u.oneCell' = true := fun u hu => by
  simp only [enc4, List.mem_cons, List.not_mem_nil, or_false] at hu
  rcases hu with rfl | rfl | rfl | rfl <;> rfl
theorem info4 : (Try.prog.info? 50).map (·.size) = some 4 := by kernel_rfl
theorem size4 (w : World) : (Go.sizeOf 50).run Try.prog w = .ok 4 w := by kernel_rfl
theorem cellsV4 {b off c n : Nat} {W : World} {ms : List La} (h : V4 b W (.slice (some ⟨b, off, none⟩) n c) ms) : n = ms.length ∧ n ≤ c ∧ c ≤ 9223372036854775807 ∧ (ms.flatMap enc4).length = n * 4 ∧ b < W.heap.size ∧ (∀ j u, (ms.flatMap enc4)[j]? = some u → W.cell? ⟨b, off + j, none⟩ = some u) ∧ ∀ i, i < c * 4 → (W.cell? ⟨b, off + i, none⟩).isSome = true ∧ W.frozen? ⟨b, off + i, none⟩ = false := by
  obtain ⟨A, c', e, h1, h2, h3, h4, ⟨h5, _⟩ | ⟨off', e1, hl, hc, hsp⟩⟩ := h
  · injection e with e2; rw [h5] at e2; cases e2
  · injection e with e2 e3 e4
    subst e3 e4
    rw [e1] at e2
    injection e2 with e2
    injection e2 with _ e5
    subst e5
    exact ⟨rfl, h2, h3, h1, hl, hc, hsp⟩
theorem shape_of {W : World} {b o : Nat} {v : Value} (h : W.cell? ⟨b, o, none⟩ = some v) : ∃ t k, W.shape? b = some (t, k) ∧ k ≠ 0 := by
  unfold World.cell? at h
  unfold World.shape?
  split at h
  · rename_i c t f he
    have he' : W.heap[b]? = some (.cells c t f) := he
    rw [he']
    refine ⟨t, c.size, rfl, fun h0 => ?_⟩
    have : c = #[] := Array.eq_empty_of_size_eq_zero h0
    subst this
    simp at h
  · cases h
set_option maxHeartbeats 8000000 in
set_option maxRecDepth 100000 in
theorem lins_shift (b off c k vb : Nat) (ms : List La) (y : La) (W : World) (h : V4 b W (.slice (some ⟨b, off, none⟩) ms.length c) ms) (hn : ms.length ≤ 1000) (hk : k < ms.length) (hroom : ms.length + 1 ≤ c) (hy : One vb W y) (hvb : vb ≠ b) :
    Calls Try.prog 30 #[.slice (some ⟨b, off, none⟩) ms.length c, .int .i64 (k : Int), .slice (some ⟨vb, 0, none⟩) 1 1] W (InsPost b W (insL ms k y)) := by
  obtain ⟨_, hnc, hc63, hcl, hbl, hcs, hsp⟩ := cellsV4 h
  obtain ⟨hys, ⟨tA, hsa⟩, hfa, hfe⟩ := hy
  have hfl := insL_flat ms k y
  have hll := insL_len ms k y (by omega)
  have hones : ∀ u ∈ (insL ms k y).flatMap enc4, u.oneCell' = true := enc4_one _
  have h1c : ∀ u ∈ ms.flatMap enc4, u.oneCell' = true := enc4_one _
  generalize hcse : ms.flatMap enc4 = cs at *
  generalize hflE : (insL ms k y).flatMap enc4 = fl at *
  obtain ⟨n, hnn⟩ : ∃ n, ms.length = n := ⟨_, rfl⟩
  rw [hnn] at hn hk hroom hnc hcl hll ⊢
  have hc0 : ∃ v0, W.cell? ⟨b, off + 0, none⟩ = some v0 := ⟨_, hcs 0 (cs[0]'(by omega)) (List.getElem?_eq_getElem (by omega))⟩
  obtain ⟨v0, hv0⟩ := hc0
  obtain ⟨tB, kB, hsb, hkB⟩ := shape_of hv0
  have hov : ∀ lb cb, (callFunc 36 #[.slice (some ⟨vb, 0, none⟩) 1 1, .slice (some ⟨b, off + (k + 1) * 4, none⟩) lb cb]).run Try.prog W = .ok (.value (.bool false)) W := fun lb cb => by
    rw [run_callFunc_extern Try.func36 (by kernel_rfl) (by kernel_rfl) (by kernel_rfl) (e := Extern.SlicesOverlaps.overlaps #[46, 46] #[4]) (by kernel_rfl),
      Lib.run_overlaps_apart W 46 4 50 Try.underlying46 4 size4 ⟨vb, 0, none⟩ ⟨b, off + (k + 1) * 4, none⟩ 1 1 lb cb hvb tA tB 4 kB hsa hsb hkB hfa hfe]
    rfl
  obtain ⟨mv, hmv⟩ : ∃ mv, cs.drop (k * 4) = mv := ⟨_, rfl⟩
  have hdl : mv.length = (n - k) * 4 := by rw [← hmv, List.length_drop, hcl]; omega
  have hcp1 : ∀ ty dc sc, (Builtin.copy_ #[46, 46] ty #[.slice (some ⟨b, off + (k + 1) * 4, none⟩) (n - k) dc, .slice (some ⟨b, off + k * 4, none⟩) (n + 1 - k) sc]).run Try.prog W.drew = .ok (goInt (Nat.min (n + 1 - k) (n - k))) (W.drew.setCells b (off + (k + 1) * 4) mv) := fun ty dc sc =>
    run_copy_sz W.drew _ _ ty 50 4 b (off + (k + 1) * 4) (n - k) dc ⟨b, off + k * 4, none⟩ (n + 1 - k) sc mv Try.underlying46 info4 (by rw [hdl]; simp only [Nat.min_def]; split <;> omega)
      (fun j v hj => by rw [addp, Nat.add_assoc]; exact hcs (k * 4 + j) v (by rw [← hmv, List.getElem?_drop] at hj; exact hj))
      (fun j hj => by rw [Nat.add_assoc]; exact (hsp _ (by rw [hdl] at hj; omega)).1) (fun j hj => by rw [Nat.add_assoc]; exact (hsp _ (by rw [hdl] at hj; omega)).2) (fun v hv => h1c v (by rw [← hmv] at hv; exact List.mem_of_mem_drop hv))
  obtain ⟨W1, hW1⟩ : ∃ W1, W1 = W.drew.setCells b (off + (k + 1) * 4) mv := ⟨_, rfl⟩
  have hsp1 : ∀ i, i < c * 4 → (W1.cell? ⟨b, off + i, none⟩).isSome = true ∧ W1.frozen? ⟨b, off + i, none⟩ = false := fun i hi => by
    rw [hW1]
    exact ⟨World.isSome_setCells b _ _ _ _ (hsp i hi).1, by rw [World.frozen?_setCells]; exact (hsp i hi).2⟩
  have hcp2 : ∀ ty dc, (Builtin.copy_ #[46, 46] ty #[.slice (some ⟨b, off + k * 4, none⟩) (n + 1 - k) dc, .slice (some ⟨vb, 0, none⟩) 1 1]).run Try.prog W1 = .ok (goInt (Nat.min 1 (n + 1 - k))) (W1.setCells b (off + k * 4) (enc4 y)) := fun ty dc =>
    run_copy_sz W1 _ _ ty 50 4 b (off + k * 4) (n + 1 - k) dc ⟨vb, 0, none⟩ 1 1 (enc4 y) Try.underlying46 info4 (by rw [show (enc4 y).length = 4 from rfl]; simp only [Nat.min_def]; split <;> omega)
      (fun j v hj => by rw [addp, hW1, World.cell?_setCells_out b _ _ _ _ (fun h _ => absurd h hvb)]; exact hys j v hj)
      (fun j hj => by rw [Nat.add_assoc]; exact (hsp1 _ (by rw [show (enc4 y).length = 4 from rfl] at hj; omega)).1) (fun j hj => by rw [Nat.add_assoc]; exact (hsp1 _ (by rw [show (enc4 y).length = 4 from rfl] at hj; omega)).2) (one_cell4 y)
  rw [← hW1] at hcp1
  have hnl : (insL ms k y).length = n + 1 := hll
  have HF : Hid (InsPost b W (insL ms k y) (.returned (.slice (some ⟨b, off, none⟩) (n + 1) c)) (W1.setCells b (off + k * 4) (enc4 y))) := by
    have hsz : (W1.setCells b (off + k * 4) (enc4 y)).heap.size = W.heap.size := by rw [setCells_size, hW1, setCells_size]; rfl
    refine ⟨_, rfl, b, .inl rfl, ?_, by rw [hsz]; exact Nat.le_refl _, fun i hi hib => ?_, fun L hL hLW => ?_⟩
    · rw [hnl, hflE]
      refine ⟨_, c, rfl, by rw [hfl, List.length_append, List.length_append, List.length_take, List.length_drop, hcl, show (enc4 y).length = 4 from rfl]; omega, hroom, hc63, hones, .inr ⟨off, rfl, by rw [hsz]; exact hbl, fun j u hu => ?_, fun i hi => ⟨World.isSome_setCells b _ _ _ _ (hsp1 i hi).1, by rw [World.frozen?_setCells]; exact (hsp1 i hi).2⟩⟩⟩
      rw [hfl] at hu
      have htl : (cs.take (k * 4)).length = k * 4 := by rw [List.length_take, hcl]; omega
      by_cases h1 : j < k * 4
      · rw [World.cell?_setCells_out b _ _ _ ⟨b, off + j, none⟩ (fun _ _ => by simp; omega), hW1, World.cell?_setCells_out b _ _ _ ⟨b, off + j, none⟩ (fun _ _ => by simp; omega)]
        rw [List.getElem?_append_left (by rw [htl]; omega), List.getElem?_take_of_lt h1] at hu
        exact hcs j u hu
      · rw [List.getElem?_append_right (by rw [htl]; omega), htl] at hu
        by_cases h2 : j < k * 4 + 4
        · rw [List.getElem?_append_left (by show _ < 4; omega)] at hu
          have := World.cell?_setCells_in b (enc4 y) (off + k * 4) W1 (fun t ht => by rw [Nat.add_assoc]; exact (hsp1 _ (by have : t < 4 := ht; omega)).1) (j - k * 4) (by show _ < 4; omega)
          rw [show off + j = off + k * 4 + (j - k * 4) by omega, this]
          rw [← hu]
          simp [List.getElem?_eq_getElem (show j - k * 4 < (enc4 y).length by show _ < 4; omega)]
        · rw [List.getElem?_append_right (by show 4 ≤ _; omega), show (enc4 y).length = 4 from rfl, hmv] at hu
          rw [World.cell?_setCells_out b _ _ _ ⟨b, off + j, none⟩ (fun _ _ => by rw [show (enc4 y).length = 4 from rfl]; simp; omega), hW1]
          have hj' := (List.getElem?_eq_some_iff.1 hu).1
          have := World.cell?_setCells_in b mv (off + (k + 1) * 4) W.drew (fun t ht => by rw [Nat.add_assoc]; exact (hsp _ (by rw [hdl] at ht; omega)).1) (j - k * 4 - 4) hj'
          rw [show off + j = off + (k + 1) * 4 + (j - k * 4 - 4) by omega, this]
          simpa [List.getElem?_eq_getElem hj'] using hu
    · rw [setCells_other _ _ _ _ _ hib, hW1, setCells_other _ _ _ _ _ hib]; rfl
    · rw [hW1]
      exact setCells_below L b hL _ _ W _ (setCells_below L b hL _ _ W _ ((Below.refl L W).drew))
  have hz1 : ¬ ((k : Int) = (n : Int)) := by omega
  have hkI : (k : Int) ≤ (n : Int) := by omega
  have hz3 : ¬ ((c : Int) < (n : Int) + 1) := by omega
  have hcI : (n : Int) + 1 ≤ (c : Int) := by omega
  have hw1 : IntKind.i64.wrap ((k : Int) + 1) = (k : Int) + 1 := by rw [IntKind.wrap_i64]; omega
  have hb1 : (0 : Int) ≤ (k : Int) + 1 := by omega
  have htn : ((k : Int) + 1).toNat = k + 1 := by omega
  have hb2 : ¬ (c = k + 1) := by omega
  have hb3 : (k : Int) ≤ (n : Int) + 1 := by omega
  have hb4 : ¬ (c = k) := by omega
  have hc2 : c ≤ 9223372036854775807 := hc63
  clear hW1 hsp1 hsp hcs hfl hll hones h1c hcl hcse hflE hmv hdl hys hsa hfa hfe hsb hkB hv0 h hnl
  have HOV := Lib.hid hov
  have HC1 := Lib.hid hcp1
  have HC2 := Lib.hid hcp2
  clear hov hcp1 hcp2
  go_enter Try.func30, Try.ntmps30
  go_wp2_with (simp only [HOV.out])
  go_region_law (refine step_copy_runI rfl (.tmp 73) (.tmp 76) 46 46 rfl (.slice (some ⟨b, off + (k + 1) * 4, none⟩) (n - k) (c - (k + 1))) (.slice (some ⟨b, off + k * 4, none⟩) (n + 1 - k) (c - k)) (by simp [Act.eval, Act.put]) (by simp [Act.eval, Act.put]) (HC1.out _ _ _) ?_)
  have hc2e := HC2.out 3 (c - k)
  go_wp2
  go_ret
  exact HF.out
end Go.Proofs.Ytohamecjiidjdaa
