/- Facts for the walk of PagesPlays. -/
import Derived.Test.YtgjahmdfkbdcpaaDoorPagesA
import Derived.Test.YtgjahmdfkbdcpaaDoorRecs
import Derived.Deep.WholeRow
import Derived.Deep.DeepCutAuto
import Derived.Laws.Tables
namespace Go.Proofs.YtgjahmdfkbdcpaaDoor
open Go.RowKit
set_option linter.unusedVariables false
set_option linter.unusedSimpArgs false

/-- A row of bools at block b says which of the first K numbers are in it. -/
def ArrS (b K : Nat) (W : World) (ws : List Nat) : Prop :=
  b < W.heap.size ∧ ∀ i, i < K → W.cell? ⟨b, i, none⟩ = some (.bool (bitB ws i)) ∧ W.frozen? ⟨b, i, none⟩ = false
theorem ArrS.set_ {b K : Nat} {W : World} {ws ws' : List Nat} {x : Nat} {v : Bool} (h : ArrS b K W ws) (hx : x < K) (h1 : bitB ws' x = v) (hb : ∀ y, y ≠ x → bitB ws' y = bitB ws y) : ArrS b K (W.setCell ⟨b, x, none⟩ (.bool v)) ws' := by
  refine ⟨by rw [size_set]; exact h.1, fun i hi => ?_⟩
  obtain ⟨k1, k2⟩ := h.2 i hi
  refine ⟨?_, by simp [k2]⟩
  by_cases e : x = i
  · subst e
    rw [World.cell?_setCell_same _ _ _ k1, h1]
  · rw [World.cell?_setCell_other _ _ _ _ (by intro q; injection q with _ q; exact e q), k1, hb i (fun q => e q.symm)]
theorem ArrS.put {b K : Nat} {W : World} {ws ws' : List Nat} {x : Nat} (h : ArrS b K W ws) (hx : x < K) (hb : ∀ y, bitB ws' y = (bitB ws y || decide (x = y))) : ArrS b K (W.setCell ⟨b, x, none⟩ (.bool true)) ws' :=
  h.set_ hx (by rw [hb, decide_eq_true rfl, Bool.or_true]) (fun y e => by rw [hb, decide_eq_false (fun q => e q.symm), Bool.or_false])
theorem ArrS.drop {b K : Nat} {W : World} {ws ws' : List Nat} {x : Nat} (h : ArrS b K W ws) (hx : x < K) (hb : ∀ y, bitB ws' y = (bitB ws y && !decide (x = y))) : ArrS b K (W.setCell ⟨b, x, none⟩ (.bool false)) ws' :=
  h.set_ hx (by rw [hb, decide_eq_true rfl, Bool.not_true, Bool.and_false]) (fun y e => by rw [hb, decide_eq_false (fun q => e q.symm), Bool.not_false, Bool.and_true])
theorem ArrS.keep {b K : Nat} {W W' : World} {ws : List Nat} (h : ArrS b K W ws) (hs : W.heap.size ≤ W'.heap.size) (hk : W'.heap[b]? = W.heap[b]?) : ArrS b K W' ws := by
  refine ⟨Nat.lt_of_lt_of_le h.1 hs, fun i hi => ?_⟩
  obtain ⟨h1, h2⟩ := h.2 i hi
  exact ⟨(World.cell?_of_block hk).trans h1, (World.frozen?_of_block hk).trans h2⟩
theorem ArrS.same {b K : Nat} {W : World} {ws ws' : List Nat} (h : ArrS b K W ws) (hb : ∀ y, y < K → bitB ws' y = bitB ws y) : ArrS b K W ws' :=
  ⟨h.1, fun i hi => by rw [hb i hi]; exact h.2 i hi⟩

def arrZ : Array Value := Array.replicate 1024 (.bool false)
theorem arrInfo : (Tryd.prog.info? 40).map (fun i => (i.zero, i.size)) = some (some (.agg arrZ), 1024) := by kernel_rfl
theorem arrBuilt : Tryd.prog.built 40 ((#[] : Array (Nat × Value)).toList) = some arrZ := by kernel_rfl
theorem arrOne : arrZ.all (·.oneCell') = true := by
  rw [Array.all_eq_true]
  intro i h
  simp [arrZ, Value.oneCell']
theorem arrSize : arrZ.size = 1024 := by simp [arrZ]
theorem arrAt (i : Nat) (h : i < 1024) : arrZ[i]? = some (.bool false) := by simp [arrZ, h]

/-- The pages and the row of bools say the same. -/
def StP (lo hi g p b : Nat) (W : World) (c k pk : Int) (ws : List Nat) : Prop :=
  PgIs lo hi g p W c k pk ws ∧ ArrS b 1024 W ws ∧ ws.length = 16 ∧ c = cntB ws 1024 ∧ (∀ y, 1024 ≤ y → bitB ws y = false) ∧ p < b
theorem StP.grow {lo hi g p b : Nat} {W W' : World} {c k pk : Int} {ws : List Nat} (h : StP lo hi g p b W c k pk ws) (hw : Below W.heap.size W W') : StP lo hi g p b W' c k pk ws := by
  obtain ⟨hs, ha, hl, hc, hz, hb⟩ := h
  exact ⟨hs.below hw hs.2.1.2 hw.size, ha.keep hw.size (hw.block _ ha.1), hl, hc, hz, hb⟩
theorem pgset {lo hi g p b o : Nat} {W : World} {c k pk : Int} {ws : List Nat} {v : Value} (h : PgIs lo hi g p W c k pk ws) (hb : p < b) : PgIs lo hi g p (W.setCell ⟨b, o, none⟩ v) c k pk ws :=
  h.keep (by rw [size_set]; exact Nat.le_refl _) (fun i i1 i2 => heap_other _ _ _ i (by intro e; simp at e; omega))
theorem stp_new {w v1 : World} {g p : Nat} {k : Int} {Z : Array Value} {T : TypeId} (hs : PgIs w.heap.size p g p v1 0 k 0 (List.replicate 16 0)) (hZ : ∀ i, i < 1024 → Z[i]? = some (.bool false)) :
    StP w.heap.size p g p v1.heap.size (v1.alloc (.cells Z T)) 0 k 0 (List.replicate 16 0) := by
  refine ⟨hs.keep (by simp) (fun i _ hi => heap_old _ _ _ (by have := hs.2.1.2; omega)), ⟨by simp, fun i hi => ⟨?_, by simp⟩⟩, List.length_replicate .., ?_, fun y _ => bitB_none 16 y, hs.2.1.2⟩
  · rw [World.cell?_alloc_mark, bitB_none]; exact hZ i hi
  · have : ∀ n, cntB (List.replicate 16 0) n = 0 := fun n => by
      induction n with
      | zero => rfl
      | succ n ih => rw [cntB, ih, bitB_none]; rfl
    rw [this]; rfl
theorem StP.puts {lo hi g p b X N : Nat} {W W2 : World} {c k pk pk' : Int} {ws : List Nat} (h : StP lo hi g p b W c k pk ws) (hX : X + N ≤ 1024) (h0 : ∀ y, X ≤ y → y < X + N → bitB ws y = false) (h1 : PgIs lo hi g p W2 (c + N) k pk' (putN ws X N).1) (h2 : ArrS b 1024 W2 (putN ws X N).1) : StP lo hi g p b W2 (c + N) k pk' (putN ws X N).1 := by
  obtain ⟨hs, ha, hl, hc, hz, hb⟩ := h
  refine ⟨h1, h2, by rw [putN_len]; exact hl, ?_, fun y hy => ?_, hb⟩
  · rw [putN_cnt ws X N 1024 hX (by omega), putN_count ws X N (by omega) h0, hc]
  · rw [putN_bits ws X N y (by omega), hz y hy, decide_eq_false (by omega)]; rfl
theorem StP.drops {lo hi g p b X N : Nat} {W W2 : World} {c k pk pk' : Int} {ws : List Nat} (h : StP lo hi g p b W c k pk ws) (hX : X + N ≤ 1024) (h0 : ∀ y, X ≤ y → y < X + N → bitB ws y = true) (h1 : PgIs lo hi g p W2 (c - N) k pk' (dropN ws X N).1) (h2 : ArrS b 1024 W2 (dropN ws X N).1) : StP lo hi g p b W2 (c - N) k pk' (dropN ws X N).1 := by
  obtain ⟨hs, ha, hl, hc, hz, hb⟩ := h
  refine ⟨h1, h2, by rw [dropN_len]; exact hl, ?_, fun y hy => ?_, hb⟩
  · rw [dropN_cnt ws X N 1024 hX (by omega), dropN_count ws X N (by omega) h0, hc]
  · rw [dropN_bits ws X N y (by omega), hz y hy]; rfl
theorem StP.drops_le {lo hi g p b X N : Nat} {W : World} {c k pk : Int} {ws : List Nat} (h : StP lo hi g p b W c k pk ws) (hX : X + N ≤ 1024) (h0 : ∀ y, X ≤ y → y < X + N → bitB ws y = true) : (N : Int) ≤ c := by
  obtain ⟨hs, ha, hl, hc, hz, hb⟩ := h
  have := dropN_cnt ws X N 1024 hX (by omega)
  rw [dropN_count ws X N (by omega) h0] at this
  omega

def someB (ws : List Nat) (f : Nat) : Nat → Bool
  | 0 => false
  | k + 1 => someB ws f k || bitB ws (f + k)
theorem some_yes {ws : List Nat} {f m : Nat} (h : someB ws f m = true) : ∃ y, f ≤ y ∧ y < f + m ∧ bitB ws y = true := by
  induction m with
  | zero => cases h
  | succ m ih =>
    rw [someB, Bool.or_eq_true] at h
    rcases h with h | h
    · obtain ⟨y, a, b, c⟩ := ih h
      exact ⟨y, a, by omega, c⟩
    · exact ⟨f + m, by omega, by omega, h⟩
theorem some_no {ws : List Nat} {f m : Nat} (h : someB ws f m = false) : ∀ y, f ≤ y → y < f + m → bitB ws y = false := by
  induction m with
  | zero => intro y a b; omega
  | succ m ih =>
    rw [someB, Bool.or_eq_false_iff] at h
    intro y a b
    by_cases e : y = f + m
    · rw [e]; exact h.2
    · exact ih h.1 y a (by omega)
theorem whole_yes {ws : List Nat} {f m : Nat} (h : wholeB ws f m = true) : ∀ y, f ≤ y → y < f + m → bitB ws y = true := fun y a b => by
  have := whole_at h (j := y - f) (by omega)
  rwa [show f + (y - f) = y by omega] at this
theorem whole_zero {ws : List Nat} {f m : Nat} (hm : 1 ≤ m) (h : bitB ws f = false) : wholeB ws f m = false := whole_cut (j := 0) h hm

theorem pnext_is {lo hi g p : Nat} {W : World} {c k pk : Int} {ws : List Nat} (Y : Nat) (h : PgIs lo hi g p W c k pk ws) (hY : Y < 1024) (hl : ws.length = 16) (hb : bitB ws Y = true) (ht : TzTab W) :
    Calls Tryd.prog 29 #[.pointer (some ⟨p, 0, none⟩), .int .i64 Y] W fun e w' => e = .returned (.int .i64 Y) ∧ W = w' := by
  refine (pnext (Y : Int) h ht).mono ?_
  rintro e w' ⟨hw, r', he, _, hf⟩
  have hm : max (Y : Int) 0 = Y := by omega
  rw [hm] at hf
  have := hf (by omega)
  rw [Int.toNat_natCast] at this
  refine ⟨?_, hw⟩
  rw [he]
  rcases this with ⟨_, q⟩ | ⟨y, e2, y1, _, y3, y4⟩
  · rw [q Y (Nat.le_refl _) (by rw [hl]; omega)] at hb; cases hb
  · by_cases e3 : y = Y
    · rw [e2, e3]
    · rw [y4 Y (Nat.le_refl _) (by omega)] at hb; cases hb
theorem putN_next {ws : List Nat} {x j : Nat} (h : x + (j + 1) ≤ 64 * ws.length) : (∀ y, bitB (putN ws x (j + 1)).1 y = (bitB (putN ws x j).1 y || decide (x + j = y))) ∧ (putN ws x (j + 1)).2 = (putN ws x j).2 + (if bitB (putN ws x j).1 (x + j) then 0 else 1) := by
  refine ⟨fun y => ?_, by rw [putN]; split <;> simp⟩
  rw [putN_bits ws x (j + 1) y h, putN_bits ws x j y (by omega), Bool.or_assoc]
  congr 1
  rw [Bool.eq_iff_iff]
  simp only [Bool.or_eq_true, decide_eq_true_eq]
  omega
theorem dropN_next {ws : List Nat} {x j : Nat} (h : x + (j + 1) ≤ 64 * ws.length) : (∀ y, bitB (dropN ws x (j + 1)).1 y = (bitB (dropN ws x j).1 y && !decide (x + j = y))) ∧ (dropN ws x (j + 1)).2 = (dropN ws x j).2 + (if bitB (dropN ws x j).1 (x + j) then 1 else 0) := by
  refine ⟨fun y => ?_, by rw [dropN]; split <;> simp⟩
  rw [dropN_bits ws x (j + 1) y h, dropN_bits ws x j y (by omega), Bool.and_assoc]
  congr 1
  rw [Bool.eq_iff_iff]
  simp only [Bool.and_eq_true, Bool.not_eq_true', decide_eq_false_iff_not]
  omega


end Go.Proofs.YtgjahmdfkbdcpaaDoor
