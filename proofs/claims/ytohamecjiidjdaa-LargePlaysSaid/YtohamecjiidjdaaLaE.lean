/- slices.Insert of one large chunk, ahead of others, where there is no room. -/
import Derived.Test.YtohamecjiidjdaaLaD
import Derived.Lib.AppendZerosOnto
namespace Go.Proofs.Ytohamecjiidjdaa
open Go.RowKit Go.Lib
set_option linter.unusedVariables false
set_option linter.unusedSimpArgs false

set_option maxHeartbeats 8000000 in
set_option maxRecDepth 100000 in
theorem lins_grow (b off c k vb : Nat) (ms : List La) (y : La) (W : World) (h : V4 b W (.slice (some ⟨b, off, none⟩) ms.length c) ms) (hn : ms.length ≤ 1000) (hk : k < ms.length) (hroom : c < ms.length + 1) (hy : One vb W y) :
    Calls Try.prog 30 #[.slice (some ⟨b, off, none⟩) ms.length c, .int .i64 (k : Int), .slice (some ⟨vb, 0, none⟩) 1 1] W (InsPost b W (insL ms k y)) := by
  obtain ⟨_, hnc, hc63, hcl, hbl, hcs, hsp⟩ := cellsV4 h
  obtain ⟨hys, -, -, -⟩ := hy
  have hvl : vb < W.heap.size := World.block_lt_of_cell? W _ (hys 0 _ rfl)
  have hfl := insL_flat ms k y
  have hll := insL_len ms k y (by omega)
  have hones : ∀ u ∈ (insL ms k y).flatMap enc4, u.oneCell' = true := enc4_one _
  have h1c : ∀ u ∈ ms.flatMap enc4, u.oneCell' = true := enc4_one _
  generalize hcse : ms.flatMap enc4 = cs at *
  generalize hflE : (insL ms k y).flatMap enc4 = fl at *
  obtain ⟨n, hnn⟩ : ∃ n, ms.length = n := ⟨_, rfl⟩
  rw [hnn] at hn hk hroom hnc hcl hll ⊢
  obtain ⟨i0, hi0, hz0, hzs, hzb⟩ := info_parts tyLarge.inf
  have hold : (Builtin.firstCells i0.size k (.slice (some ⟨b, off, none⟩) k c)).run Try.prog W.drew = .ok (cs.take (k * 4)).toArray W.drew := by
    rw [hzs]
    exact run_firstCells_some W.drew 4 k ⟨b, off, none⟩ k c (cs.take (k * 4)) (by rw [List.length_take, hcl]; omega) (fun j v hj => by
      rw [addp]
      rw [List.getElem?_take] at hj
      split at hj
      · exact hcs j v hj
      · cases hj)
  have hkk : (n : Int) + 1 - (k : Int) = ((n + 1 - k : Nat) : Int) := by omega
  have hik : k + (n + 1 - k) = n + 1 := by omega
  obtain ⟨D, hD⟩ : ∃ D, W.heap.size = D := ⟨_, rfl⟩
  obtain ⟨G, hG⟩ : ∃ G, G = grownCap W (n + 1) c 50 := ⟨_, rfl⟩
  obtain ⟨ROW, hROW⟩ : ∃ ROW : Array Value, ROW = (cs.take (k * 4)).toArray ++ Builtin.zeroCells (Value.agg #[.int .i64 0, .int .i64 0, .int .i64 0, .int .i64 0]).cells (n + 1 - k) ++ Builtin.zeroCells (Value.agg #[.int .i64 0, .int .i64 0, .int .i64 0, .int .i64 0]).cells (G - (n + 1)) := ⟨_, rfl⟩
  have hrz : ∀ ty, (Builtin.append_ #[46, 3] ty #[.slice (some ⟨b, off, none⟩) k c, .int .i64 ((n : Int) + 1 - (k : Int))]).run Try.prog W = .ok (.slice (some ⟨D, 0, none⟩) (n + 1) G) (W.drew.alloc (.cells ROW 50)) := fun ty => by
    have h := Lib.run_append_grow_zeros W 46 3 ty 50 i0 _ .i64 .i64 Try.underlying46 Try.underlying3 hi0 hz0 (some ⟨b, off, none⟩) k c (cs.take (k * 4)) hold (n + 1 - k) (by omega) (by omega) (by omega) (by omega) (by rw [hzb]; omega) (by rw [hzb, hik]; exact growslice_fits hroom (by omega))
    rw [hik] at h
    rw [hkk, h, hROW, hG, hD]
  have hGn : n + 1 ≤ G := by rw [hG]; exact grownCap_ge W _ _ _
  have hG63 : G ≤ 9223372036854775807 := by
    have := grownCap_le_maxLen W (n + 1) c 50 (by unfold maxLen; omega)
    rw [← hG] at this
    unfold maxLen at this
    omega
  have hRl : ROW.size = G * 4 := by
    have hz : ∀ m, (Builtin.zeroCells (Value.agg #[.int .i64 0, .int .i64 0, .int .i64 0, .int .i64 0]).cells m).size = m * 4 := fun m => by
      simp [Builtin.zeroCells, Value.cells]
    rw [hROW, Array.size_append, Array.size_append, hz, hz]
    simp [hcl]
    omega
  have hRt : ∀ j u, j < k * 4 → cs[j]? = some u → ROW[j]? = some u := fun j u hj hu => by
    have htl : (cs.take (k * 4)).length = k * 4 := by rw [List.length_take, hcl]; omega
    rw [hROW, Array.append_assoc, Array.getElem?_append_left (by simp [hcl]; omega)]
    rw [List.getElem?_toArray, List.getElem?_take_of_lt hj, hu]
  have hR1 : ∀ u ∈ ROW.toList, True := fun _ _ => trivial
  obtain ⟨W1, hW1⟩ : ∃ W1, W1 = W.drew.alloc (.cells ROW 50) := ⟨_, rfl⟩
  have hN : ∀ j, j < G * 4 → (W1.cell? ⟨D, j, none⟩).isSome = true := fun j hj => by
    rw [hW1, World.cell?_alloc_at (w := W.drew) ROW _ D j hD.symm, Array.getElem?_eq_getElem (by omega)]; rfl
  have hNt : ∀ j u, j < k * 4 → cs[j]? = some u → W1.cell? ⟨D, j, none⟩ = some u := fun j u hj hu => by
    rw [hW1, World.cell?_alloc_at (w := W.drew) ROW _ D j hD.symm]; exact hRt j u hj hu
  have hNf : ∀ j, W1.frozen? ⟨D, j, none⟩ = false := fun j => by rw [hW1]; exact World.frozen?_alloc_at (w := W.drew) ROW _ D j hD.symm
  have hOb : ∀ j v, W.cell? ⟨b, j, none⟩ = some v → W1.cell? ⟨b, j, none⟩ = some v := fun j v h => by rw [hW1, World.cell?_alloc_past (w := W.drew) _ b j hbl]; exact h
  have hOv : ∀ j v, W.cell? ⟨vb, j, none⟩ = some v → W1.cell? ⟨vb, j, none⟩ = some v := fun j v h => by rw [hW1, World.cell?_alloc_past (w := W.drew) _ vb j hvl]; exact h
  have hbD : b ≠ D := by omega
  have hcpA : ∀ (X : World), (∀ x, X.cell? x = W1.cell? x) → (∀ x, X.frozen? x = W1.frozen? x) → ∀ ty dc, (Builtin.copy_ #[46, 46] ty #[.slice (some ⟨D, k * 4, none⟩) (n + 1 - k) dc, .slice (some ⟨vb, 0, none⟩) 1 1]).run Try.prog X = .ok (goInt (Nat.min 1 (n + 1 - k))) (X.setCells D (k * 4) (enc4 y)) := fun X hXc hXf ty dc =>
    run_copy_sz X _ _ ty 50 4 D (k * 4) (n + 1 - k) dc ⟨vb, 0, none⟩ 1 1 (enc4 y) Try.underlying46 info4 (by rw [show (enc4 y).length = 4 from rfl]; simp only [Nat.min_def]; split <;> omega)
      (fun j v hj => by rw [addp, hXc]; exact hOv _ v (hys j v hj))
      (fun j hj => by rw [hXc]; exact hN _ (by have : j < 4 := hj; omega)) (fun j hj => by rw [hXf]; exact hNf _) (one_cell4 y)
  obtain ⟨mv, hmv⟩ : ∃ mv, cs.drop (k * 4) = mv := ⟨_, rfl⟩
  have hdl : mv.length = (n - k) * 4 := by rw [← hmv, List.length_drop, hcl]; omega
  have hcpB : ∀ (X : World), (∀ x, X.cell? x = (W1.setCells D (k * 4) (enc4 y)).cell? x) → (∀ x, X.frozen? x = (W1.setCells D (k * 4) (enc4 y)).frozen? x) → ∀ ty dc sc, (Builtin.copy_ #[46, 46] ty #[.slice (some ⟨D, (k + 1) * 4, none⟩) (n - k) dc, .slice (some ⟨b, off + k * 4, none⟩) (n - k) sc]).run Try.prog X = .ok (goInt (Nat.min (n - k) (n - k))) (X.setCells D ((k + 1) * 4) mv) := fun X hXc hXf ty dc sc =>
    run_copy_sz X _ _ ty 50 4 D ((k + 1) * 4) (n - k) dc ⟨b, off + k * 4, none⟩ (n - k) sc mv Try.underlying46 info4 (by rw [hdl]; simp only [Nat.min_def]; split <;> omega)
      (fun j v hj => by
        rw [addp, hXc, World.cell?_setCells_out _ _ _ _ _ (fun h _ => absurd h hbD), Nat.add_assoc]
        exact hOb _ v (hcs (k * 4 + j) v (by rw [← hmv, List.getElem?_drop] at hj; exact hj)))
      (fun j hj => by rw [hXc]; exact World.isSome_setCells D _ _ _ _ (hN _ (by rw [hdl] at hj; omega))) (fun j hj => by rw [hXf, World.frozen?_setCells]; exact hNf _) (fun v hv => h1c v (by rw [← hmv] at hv; exact List.mem_of_mem_drop hv))
  have HF : ∀ X : World, X.heap = ((W1.setCells D (k * 4) (enc4 y)).setCells D ((k + 1) * 4) mv).heap → Below W.heap.size W X → InsPost b W (insL ms k y) (.returned (.slice (some ⟨D, 0, none⟩) (n + 1) G)) X := by
    intro X hX hbX
    have hXc : ∀ x, X.cell? x = ((W1.setCells D (k * 4) (enc4 y)).setCells D ((k + 1) * 4) mv).cell? x := fun x => by unfold World.cell?; rw [hX]
    have hXf : ∀ x, X.frozen? x = ((W1.setCells D (k * 4) (enc4 y)).setCells D ((k + 1) * 4) mv).frozen? x := fun x => by unfold World.frozen?; rw [hX]
    have hsz : D < X.heap.size := by rw [hX, setCells_size, setCells_size, hW1, World.size_alloc]; show D < W.heap.size + 1; omega
    refine ⟨_, rfl, D, .inr (by omega), ?_, by omega, fun i hi hib => hbX.block i hi, fun L hL hLW => hbX.mono hLW⟩
    rw [hll, hflE]
    refine ⟨_, G, rfl, by rw [hfl, List.length_append, List.length_append, List.length_take, List.length_drop, hcl, show (enc4 y).length = 4 from rfl]; omega, hGn, hG63, hones, .inr ⟨0, rfl, hsz, fun j u hu => ?_, fun i hi => ⟨?_, ?_⟩⟩⟩
    · rw [Nat.zero_add, hXc]
      rw [hfl] at hu
      have htl : (cs.take (k * 4)).length = k * 4 := by rw [List.length_take, hcl]; omega
      by_cases h1 : j < k * 4
      · rw [World.cell?_setCells_out D _ _ _ ⟨D, j, none⟩ (fun _ _ => by simp; omega), World.cell?_setCells_out D _ _ _ ⟨D, j, none⟩ (fun _ _ => by simp; omega)]
        rw [List.getElem?_append_left (by rw [htl]; omega), List.getElem?_take_of_lt h1] at hu
        exact hNt j u h1 hu
      · rw [List.getElem?_append_right (by rw [htl]; omega), htl] at hu
        by_cases h2 : j < k * 4 + 4
        · rw [List.getElem?_append_left (by show _ < 4; omega)] at hu
          rw [World.cell?_setCells_out D _ _ _ ⟨D, j, none⟩ (fun _ _ => by simp; omega)]
          have := World.cell?_setCells_in D (enc4 y) (k * 4) W1 (fun t ht => hN _ (by have : t < 4 := ht; omega)) (j - k * 4) (by show _ < 4; omega)
          rw [show j = k * 4 + (j - k * 4) by omega, this]
          rw [← hu]
          simp [List.getElem?_eq_getElem (show j - k * 4 < (enc4 y).length by show _ < 4; omega)]
        · rw [List.getElem?_append_right (by show 4 ≤ _; omega), show (enc4 y).length = 4 from rfl, hmv] at hu
          have hj' := (List.getElem?_eq_some_iff.1 hu).1
          have := World.cell?_setCells_in D mv ((k + 1) * 4) (W1.setCells D (k * 4) (enc4 y)) (fun t ht => World.isSome_setCells D _ _ _ _ (hN _ (by rw [hdl] at ht; omega))) (j - k * 4 - 4) hj'
          rw [show j = (k + 1) * 4 + (j - k * 4 - 4) by omega, this]
          simpa [List.getElem?_eq_getElem hj'] using hu
    · rw [Nat.zero_add, hXc]
      exact World.isSome_setCells D _ _ _ _ (World.isSome_setCells D _ _ _ _ (hN i hi))
    · rw [Nat.zero_add, hXf, World.frozen?_setCells, World.frozen?_setCells]
      exact hNf i
  have hBX : Below W.heap.size W (((W.alloc (.cells ROW 50)).drew.setCells D (k * 4) (enc4 y)).drew.setCells D ((k + 1) * 4) mv) := setCells_below _ D (by omega) _ _ W _ ((setCells_below _ D (by omega) _ _ W _ ((alc0 W _).drew)).drew)
  subst hW1
  have hHF := HF (((W.alloc (.cells ROW 50)).drew.setCells D (k * 4) (enc4 y)).drew.setCells D ((k + 1) * 4) mv) (by
    have e1 : ∀ (vs : List Value) (o : Nat) (X Y : World), X.heap = Y.heap → (X.setCells D o vs).heap = (Y.setCells D o vs).heap := by
      intro vs
      induction vs with
      | nil => intro o X Y h; exact h
      | cons v r ih => intro o X Y h; exact ih (o + 1) _ _ (by simp only [World.setCell]; rw [h])
    exact e1 mv _ _ _ (e1 (enc4 y) _ _ _ rfl)) hBX
  have HHF := Lib.hid hHF
  have hcA := hcpA ((W.alloc (.cells ROW 50)).drew) (fun x => rfl) (fun x => rfl) 3 (G - k)
  have hcB := hcpB (((W.alloc (.cells ROW 50)).drew.setCells D (k * 4) (enc4 y)).drew) (fun x => by
    have e : ∀ (vs : List Value) (o : Nat) (X Y : World), X.heap = Y.heap → (X.setCells D o vs).heap = (Y.setCells D o vs).heap := by
      intro vs
      induction vs with
      | nil => intro o X Y h; exact h
      | cons v r ih => intro o X Y h; exact ih (o + 1) _ _ (by simp only [World.setCell]; rw [h])
    have e2 := e (enc4 y) (k * 4) ((W.alloc (.cells ROW 50)).drew) (W.drew.alloc (.cells ROW 50)) rfl
    unfold World.cell?
    rw [show (((W.alloc (.cells ROW 50)).drew.setCells D (k * 4) (enc4 y)).drew).heap = ((W.alloc (.cells ROW 50)).drew.setCells D (k * 4) (enc4 y)).heap from rfl, e2]) (fun x => by
    have e : ∀ (vs : List Value) (o : Nat) (X Y : World), X.heap = Y.heap → (X.setCells D o vs).heap = (Y.setCells D o vs).heap := by
      intro vs
      induction vs with
      | nil => intro o X Y h; exact h
      | cons v r ih => intro o X Y h; exact ih (o + 1) _ _ (by simp only [World.setCell]; rw [h])
    have e2 := e (enc4 y) (k * 4) ((W.alloc (.cells ROW 50)).drew) (W.drew.alloc (.cells ROW 50)) rfl
    unfold World.frozen?
    rw [show (((W.alloc (.cells ROW 50)).drew.setCells D (k * 4) (enc4 y)).drew).heap = ((W.alloc (.cells ROW 50)).drew.setCells D (k * 4) (enc4 y)).heap from rfl, e2]) 3 (G - (k + 1)) (c - k)
  have hrz1 := hrz 46
  have HCB := Lib.hid hcB
  have hz1 : ¬ ((k : Int) = (n : Int)) := by omega
  have hkI : (k : Int) ≤ (n : Int) := by omega
  have hz3 : (c : Int) < (n : Int) + 1 := by omega
  have hw1 : IntKind.i64.wrap ((k : Int) + 1) = (k : Int) + 1 := by rw [IntKind.wrap_i64]; omega
  have hb1 : (0 : Int) ≤ (k : Int) + 1 := by omega
  have htn : ((k : Int) + 1).toNat = k + 1 := by omega
  have hGk : ¬ (G = k) := by omega
  have hGk1 : ¬ (G = k + 1) := by omega
  have hck : ¬ (c = k) := by omega
  have hkG : (k : Int) ≤ (G : Int) := by omega
  have hkc : (k : Int) ≤ (c : Int) := by omega
  have hk1 : (k : Int) + 1 ≤ (n : Int) + 1 := by omega
  have hnG : (n : Int) + 1 ≤ (G : Int) := by omega
  clear HF hcpA hcpB hrz hcB hHF hBX hold hROW hG hRl hRt hR1 hN hNt hNf hOb hOv hys hfl hll hones h1c hcl hcse hflE hmv hdl hsp hcs hkk hik h hD hi0 hz0 hzs hzb
  go_enter Try.func30, Try.ntmps30
  go_wp2_with (at_builtin; refine Lib.wpList_append_run _ rfl _ _ _ _ rfl _ _ rfl rfl _ _ hrz1 ?_)
  go_region_law (refine step_copy_runI rfl (.tmp 50) (.tmp 53) 46 46 rfl (.slice (some ⟨D, (k + 1) * 4, none⟩) (n - k) (G - (k + 1))) (.slice (some ⟨b, off + k * 4, none⟩) (n - k) (c - k)) (by simp [Act.eval, Act.put]) (by simp [Act.eval, Act.put]) HCB.out ?_)
  go_wp2
  go_ret
  exact HHF.out
end Go.Proofs.Ytohamecjiidjdaa
