/- The walk of SlotsPlays. -/
import Derived.Test.YtgjahmdfkbdcpaaDoorSlotsA
import Derived.Test.YtgjahmdfkbdcpaaDoorRecs
import Derived.Deep.WholeRow
import Derived.Deep.DeepCutAuto
import Derived.Deep.RegionWith
import Derived.Deep.QuietTactic
import Derived.WalkSmall
import Derived.Laws.Tables
namespace Go.Proofs.YtgjahmdfkbdcpaaDoor
open Go.RowKit
set_option linter.unusedVariables false
set_option linter.unusedSimpArgs false

/-- A row of bools at block b says which of the first K numbers are in it. -/
def ArrS (b K : Nat) (W : World) (ws : List Nat) : Prop :=
  b < W.heap.size ∧ ∀ i, i < K → W.cell? ⟨b, i, none⟩ = some (.bool (bitB ws i)) ∧ W.frozen? ⟨b, i, none⟩ = false
theorem ArrS.set_ {b K : Nat} {W : World} {ws ws' : List Nat} {x : Nat} {v : Bool} (h : ArrS b K W ws) (hx : x < K) (h1 : bitB ws' x = v) (hb : ∀ y, y ≠ x → bitB ws' y = bitB ws y) : ArrS b K (W.setCell ⟨b, x, none⟩ (.bool v)) ws' := by
  refine ⟨by rw [size_set]; exact h.1, fun i hi => ?_⟩
  obtain ⟨k1, k2⟩ := h.2 i hi
  refine ⟨?_, by simp [k2]⟩
  by_cases e : x = i
  · subst e
    rw [World.cell?_setCell_same _ _ _ k1, h1]
  · rw [World.cell?_setCell_other _ _ _ _ (by intro q; injection q with _ q; exact e q), k1, hb i (fun q => e q.symm)]
theorem ArrS.put {b K : Nat} {W : World} {ws ws' : List Nat} {x : Nat} (h : ArrS b K W ws) (hx : x < K) (hb : ∀ y, bitB ws' y = (bitB ws y || decide (x = y))) : ArrS b K (W.setCell ⟨b, x, none⟩ (.bool true)) ws' :=
  h.set_ hx (by rw [hb, decide_eq_true rfl, Bool.or_true]) (fun y e => by rw [hb, decide_eq_false (fun q => e q.symm), Bool.or_false])
theorem ArrS.drop {b K : Nat} {W : World} {ws ws' : List Nat} {x : Nat} (h : ArrS b K W ws) (hx : x < K) (hb : ∀ y, bitB ws' y = (bitB ws y && !decide (x = y))) : ArrS b K (W.setCell ⟨b, x, none⟩ (.bool false)) ws' :=
  h.set_ hx (by rw [hb, decide_eq_true rfl, Bool.not_true, Bool.and_false]) (fun y e => by rw [hb, decide_eq_false (fun q => e q.symm), Bool.not_false, Bool.and_true])
theorem ArrS.keep {b K : Nat} {W W' : World} {ws : List Nat} (h : ArrS b K W ws) (hs : W.heap.size ≤ W'.heap.size) (hk : W'.heap[b]? = W.heap[b]?) : ArrS b K W' ws := by
  refine ⟨Nat.lt_of_lt_of_le h.1 hs, fun i hi => ?_⟩
  obtain ⟨h1, h2⟩ := h.2 i hi
  exact ⟨(World.cell?_of_block hk).trans h1, (World.frozen?_of_block hk).trans h2⟩
theorem ArrS.same {b K : Nat} {W : World} {ws ws' : List Nat} (h : ArrS b K W ws) (hb : ∀ y, y < K → bitB ws' y = bitB ws y) : ArrS b K W ws' :=
  ⟨h.1, fun i hi => by rw [hb i hi]; exact h.2 i hi⟩

def arrZ : Array Value := Array.replicate 64 (.bool false)
theorem arrInfo : (Tryd.prog.info? 53).map (fun i => (i.zero, i.size)) = some (some (.agg arrZ), 64) := by kernel_rfl
theorem arrBuilt : Tryd.prog.built 53 ((#[] : Array (Nat × Value)).toList) = some arrZ := by kernel_rfl
theorem arrOne : arrZ.all (·.oneCell') = true := by kernel_rfl
theorem arrSize : arrZ.size = 64 := by simp [arrZ]
theorem arrAt (i : Nat) (h : i < 64) : arrZ[i]? = some (.bool false) := by simp [arrZ, h]

/-- The slots and the row of bools say the same. -/
def StL (lo hi g p b : Nat) (W : World) (c : Int) (ws : List Nat) : Prop :=
  SlIs lo hi g p W c ws ∧ ArrS b 64 W ws ∧ ws.length = 256 ∧ c = cntB ws 64 ∧ (∀ y, 64 ≤ y → bitB ws y = false) ∧ p < b
theorem StL.bd {lo hi g p b : Nat} {W : World} {c : Int} {ws : List Nat} (h : StL lo hi g p b W c ws) : 0 ≤ c ∧ c ≤ 64 := by
  obtain ⟨_, _, _, e, _⟩ := h
  have := cntB_le ws 64
  omega
theorem cntB_pos {ws : List Nat} {x n : Nat} (hb : bitB ws x = true) (hx : x < n) : 1 ≤ cntB ws n := by
  have := (listB_at hx hb).1
  omega
theorem StL.one {lo hi g p b : Nat} {W : World} {c : Int} {ws : List Nat} {x : Nat} (h : StL lo hi g p b W c ws) (hb : bitB ws x = true) : 1 ≤ c := by
  obtain ⟨_, _, _, e, hz, _⟩ := h
  have hx : x < 64 := by
    by_cases h : x < 64
    · exact h
    · rw [hz x (by omega)] at hb; cases hb
  have := cntB_pos hb hx
  omega
theorem StL.grow {lo hi g p b : Nat} {W W' : World} {c : Int} {ws : List Nat} (h : StL lo hi g p b W c ws) (hw : Below W.heap.size W W') : StL lo hi g p b W' c ws := by
  obtain ⟨hs, ha, hl, hc, hz, hb⟩ := h
  exact ⟨hs.below hw hs.2.1.2 hw.size, ha.keep hw.size (hw.block _ ha.1), hl, hc, hz, hb⟩
theorem slset {lo hi g p b o : Nat} {W : World} {c : Int} {ws : List Nat} {v : Value} (h : SlIs lo hi g p W c ws) (hb : p < b) : SlIs lo hi g p (W.setCell ⟨b, o, none⟩ v) c ws :=
  h.keep (by rw [size_set]; exact Nat.le_refl _) (fun i i1 i2 => heap_other _ _ _ i (by intro e; simp at e; omega))
theorem StL.put {lo hi g p b x : Nat} {W W1 : World} {c c' : Int} {ws ws' : List Nat} (h : StL lo hi g p b W c ws) (hx : x < 64) (h1 : SlIs lo hi g p W1 c' ws') (ho : Only lo hi W W1) (e1 : bitB ws x = true → c' = c) (e2 : bitB ws x = false → c' = c + 1) (e3 : ws'.length = ws.length) (e4 : ∀ y, bitB ws' y = (bitB ws y || decide (x = y))) :
    StL lo hi g p b (W1.setCell ⟨b, x, none⟩ (.bool true)) c' ws' := by
  obtain ⟨hs, ha, hl, hc, hz, hb⟩ := h
  have hpb := hs.2.1.1
  refine ⟨slset h1 hb, (ha.keep (Nat.le_of_eq ho.2.1.symm) (ho.2.2 b (by omega))).put hx e4, by rw [e3]; exact hl, ?_, fun y hy => by rw [e4, hz y hy, decide_eq_false (by omega)]; rfl, hb⟩
  cases hbx : bitB ws x with
  | true =>
    have : cntB ws' 64 = cntB ws 64 := cntB_same (fun y _ => by
      rw [e4]
      by_cases e : x = y
      · rw [← e, hbx]; rfl
      · rw [decide_eq_false e, Bool.or_false])
    rw [e1 hbx, hc, this]
  | false => rw [e2 hbx, hc, cntB_put hx e4 hbx]; omega
theorem StL.drop {lo hi g p b x : Nat} {W W1 : World} {c c' : Int} {ws ws' : List Nat} (h : StL lo hi g p b W c ws) (hx : x < 64) (h1 : SlIs lo hi g p W1 c' ws') (ho : Only lo hi W W1) (e1 : bitB ws x = true → c' = c - 1) (e2 : bitB ws x = false → c' = c) (e3 : ws'.length = ws.length) (e4 : ∀ y, bitB ws' y = (bitB ws y && !decide (x = y))) :
    StL lo hi g p b (W1.setCell ⟨b, x, none⟩ (.bool false)) c' ws' := by
  obtain ⟨hs, ha, hl, hc, hz, hb⟩ := h
  have hpb := hs.2.1.1
  refine ⟨slset h1 hb, (ha.keep (Nat.le_of_eq ho.2.1.symm) (ho.2.2 b (by omega))).drop hx e4, by rw [e3]; exact hl, ?_, fun y hy => by rw [e4, hz y hy]; rfl, hb⟩
  cases hbx : bitB ws x with
  | false =>
    have : cntB ws' 64 = cntB ws 64 := cntB_same (fun y _ => by
      rw [e4]
      by_cases e : x = y
      · rw [← e, hbx]; rfl
      · rw [decide_eq_false e, Bool.not_false, Bool.and_true])
    rw [e2 hbx, hc, this]
  | true => rw [e1 hbx, hc, ← cntB_drop hx e4 hbx]; omega

/-- How many granules the first k bytes of a stretch touch, from the byte B on. -/
def jk (B k : Nat) : Nat := if k = 0 then 0 else (B + k - 1) / 16 - B / 16 + 1
theorem jk_step (B k : Nat) : (B / 16 + jk B k = (B + k) / 16 ∧ jk B (k + 1) = jk B k + 1) ∨ (B / 16 + jk B k = (B + k) / 16 + 1 ∧ jk B (k + 1) = jk B k ∧ 0 < jk B k) := by
  unfold jk
  by_cases h : k = 0
  · subst h; simp
  · rw [if_neg h, if_neg (by omega), show B + (k + 1) - 1 = B + k by omega]
    omega
/-- One byte: its granule, and what that does. -/
theorem drop_byte {ws : List Nat} {B k : Nat} (hl : ws.length = 256) (hB : (B + k) / 16 < 64) :
    (∀ y, bitB (dropN ws (B / 16) (jk B (k + 1))).1 y = (bitB (dropN ws (B / 16) (jk B k)).1 y && !decide ((B + k) / 16 = y))) ∧ (dropN ws (B / 16) (jk B (k + 1))).2 = (dropN ws (B / 16) (jk B k)).2 + (if bitB (dropN ws (B / 16) (jk B k)).1 ((B + k) / 16) then 1 else 0) := by
  rcases jk_step B k with ⟨h1, h2⟩ | ⟨h1, h2, h3⟩
  · rw [h2, ← h1]
    refine ⟨fun y => ?_, by rw [dropN]; split <;> simp⟩
    rw [dropN_bits ws _ _ y (by omega), dropN_bits ws _ _ y (by omega), Bool.and_assoc]
    congr 1
    rw [Bool.eq_iff_iff]
    simp only [Bool.and_eq_true, Bool.not_eq_true', decide_eq_false_iff_not]
    omega
  · rw [h2]
    have hb : bitB (dropN ws (B / 16) (jk B k)).1 ((B + k) / 16) = false := by
      rw [dropN_bits ws _ _ _ (by omega), decide_eq_true (by omega), Bool.not_true, Bool.and_false]
    refine ⟨fun y => ?_, by rw [hb]; simp⟩
    by_cases e : (B + k) / 16 = y
    · rw [← e, hb]; rfl
    · rw [decide_eq_false e, Bool.not_false, Bool.and_true]
theorem dropN_stop {ws : List Nat} {x j m : Nat} (hz : ∀ y, x + j ≤ y → bitB ws y = false) (hm : j ≤ m) (hr : x + m ≤ 64 * ws.length) : dropN ws x m = dropN ws x j := by
  induction m with
  | zero => obtain rfl : j = 0 := by omega
            rfl
  | succ m ih =>
    by_cases e : j = m + 1
    · rw [e]
    · have ih := ih (by omega) (by omega)
      have hb : bitB (dropN ws x m).1 (x + m) = false := by rw [dropN_bits ws _ _ _ (by omega), hz _ (by omega)]; rfl
      rw [dropN, hb]
      exact ih
/-- What Wrote takes out is what the bytes take out, one by one. -/
theorem wrote_bytes {ws : List Nat} {B L K : Nat} (hl : ws.length = 256) (hz : ∀ y, 64 ≤ y → bitB ws y = false) (hB : B < 1024) (hL : L < 64) (hK : K = min L (1024 - B)) :
    dropN ws (spF B L 16).toNat (sJ 16384 (spF B L 16) (spN B L 16)) = dropN ws (B / 16) (jk B K) := by
  by_cases h0 : L = 0
  · have hm : mayB B L = false := mayB_false.2 (by omega)
    have e1 : spF B L 16 = 0 := by simp [spF, hm]
    have e2 : spN B L 16 = 0 := by simp [spN, hm]
    rw [e1, e2, show sJ 16384 0 0 = 0 by decide, show jk B K = 0 by unfold jk; rw [if_pos (by omega)]]
    rfl
  · have hm : mayB B L = true := mayB_iff.2 (by omega)
    obtain ⟨e1, e2⟩ := spG hm
    have hj : sJ 16384 (spF B L 16) (spN B L 16) = jk B L := by
      rw [e1, e2]; unfold sJ sendI jk; rw [if_pos (by omega), if_neg h0]; omega
    rw [hj, e1, show ((B : Int) / 16).toNat = B / 16 by omega]
    by_cases hc : L ≤ 1024 - B
    · obtain rfl : K = L := by omega
      rfl
    · have hjk : jk B K ≤ jk B L := by unfold jk; rw [if_neg h0, if_neg (by omega)]; omega
      refine dropN_stop (fun y hy => ?_) hjk (by unfold jk; rw [if_neg h0]; omega)
      refine hz y ?_
      unfold jk at hy
      rw [if_neg (by omega)] at hy
      omega

/-- The first number that is in it, from x on. -/
def Up (ws : List Nat) (x : Nat) (r : Int) : Prop := (r = -1 ∧ ∀ y, x ≤ y → bitB ws y = false) ∨ ∃ y : Nat, r = y ∧ x ≤ y ∧ bitB ws y = true ∧ ∀ z, x ≤ z → z < y → bitB ws z = false
theorem Up.yes {ws : List Nat} {x : Nat} (h : bitB ws x = true) : Up ws x x := .inr ⟨x, rfl, Nat.le_refl _, h, fun z a b => by omega⟩
theorem Up.no {ws : List Nat} {x : Nat} {r : Int} (h : Up ws (x + 1) r) (hx : bitB ws x = false) : Up ws x r := by
  rcases h with ⟨e, h⟩ | ⟨y, e, y1, y2, y3⟩
  · refine .inl ⟨e, fun y hy => ?_⟩
    by_cases q : y = x
    · rw [q]; exact hx
    · exact h y (by omega)
  · refine .inr ⟨y, e, by omega, y2, fun z z1 z2 => ?_⟩
    by_cases q : z = x
    · rw [q]; exact hx
    · exact y3 z (by omega) z2
theorem Up.of {ws : List Nat} {x : Nat} {r r' : Int} (h : Up ws x r) (hl : ws.length = 256) (hz : ∀ y, 64 ≤ y → bitB ws y = false) (h2 : FirstOf ws x r') : r' = r := by
  rcases h with ⟨e, h⟩ | ⟨y, e, y1, y2, y3⟩
  · rcases h2 with ⟨e2, _⟩ | ⟨z, _, z1, _, z2, _⟩
    · rw [e, e2]
    · rw [h z z1] at z2; cases z2
  · rcases h2 with ⟨_, q⟩ | ⟨z, e2, z1, _, z2, z3⟩
    · by_cases hy : y < 64
      · rw [q y y1 (by rw [hl]; omega)] at y2; cases y2
      · rw [hz y (by omega)] at y2; cases y2
    · by_cases h4 : y < z
      · rw [z3 y y1 h4] at y2; cases y2
      · by_cases h5 : z < y
        · rw [y3 z z1 h5] at z2; cases z2
        · omega

theorem stl_new {w v1 : World} {g p : Nat} {Z : Array Value} {T : TypeId} (hs : SlIs w.heap.size p g p v1 0 (List.replicate 256 0)) (hZ : ∀ i, i < 64 → Z[i]? = some (.bool false)) :
    StL w.heap.size p g p v1.heap.size (v1.alloc (.cells Z T)) 0 (List.replicate 256 0) := by
  refine ⟨hs.keep (by simp) (fun i _ hi => heap_old _ _ _ (by have := hs.2.1.2; omega)), ⟨by simp, fun i hi => ⟨?_, by simp⟩⟩, List.length_replicate .., ?_, fun y _ => bitB_none 256 y, hs.2.1.2⟩
  · rw [World.cell?_alloc_mark, bitB_none]; exact hZ i hi
  · have : cntB (List.replicate 256 0) 64 = 0 := by
      have : ∀ n, cntB (List.replicate 256 0) n = 0 := fun n => by
        induction n with
        | zero => rfl
        | succ n ih => rw [cntB, ih, bitB_none]; rfl
      exact this 64
    rw [this]; rfl
theorem StL.wrote {lo hi g p b : Nat} {W : World} {c : Int} {ws : List Nat} {B K : Nat} (h : StL lo hi g p b W c ws) (hB : B < 1024) (hK : B + K ≤ 1024) : (dropN ws (B / 16) (jk B K)).2 ≤ c ∧
    ∀ W2, SlIs lo hi g p W2 (c - (dropN ws (B / 16) (jk B K)).2) (dropN ws (B / 16) (jk B K)).1 → ArrS b 64 W2 (dropN ws (B / 16) (jk B K)).1 → StL lo hi g p b W2 (c - (dropN ws (B / 16) (jk B K)).2) (dropN ws (B / 16) (jk B K)).1 := by
  obtain ⟨hs, ha, hl, hc, hz, hb⟩ := h
  have hr : B / 16 + jk B K ≤ 64 := by unfold jk; split <;> omega
  have hd := dropN_cnt ws (B / 16) (jk B K) 64 hr (by omega)
  refine ⟨by omega, fun W2 h1 h2 => ⟨h1, h2, by rw [dropN_len]; exact hl, by omega, fun y hy => ?_, hb⟩⟩
  rw [dropN_bits ws _ _ y (by omega), hz y hy]; rfl
theorem slnext_is {lo hi g p : Nat} {W : World} {c : Int} {ws : List Nat} (Y : Nat) (r : Int) (h : SlIs lo hi g p W c ws) (hY : Y < 16384) (hl : ws.length = 256) (hz : ∀ y, 64 ≤ y → bitB ws y = false) (hu : Up ws Y r) (ht : TzTab W) :
    Calls Tryd.prog 36 #[.pointer (some ⟨p, 0, none⟩), .int .i64 Y] W fun e w' => e = .returned (.int .i64 r) ∧ W = w' := by
  refine (slnext (Y : Int) h ht).mono ?_
  rintro e w' ⟨hw, r', he, _, hf⟩
  have hm : max (Y : Int) 0 = Y := by omega
  rw [hm] at hf
  have := hf (by omega)
  rw [Int.toNat_natCast] at this
  exact ⟨by rw [he, hu.of hl hz this], hw⟩

set_option maxRecDepth 8000 in
set_option maxHeartbeats 4000000 in
theorem walkSlotsPlays (a0 : Option Addr) (len0 cap0 : Nat) (z0 : List Int) (w : World) (w0 : IsRecs 3 w a0 len0 cap0 z0) (ht : TzTab w) :
    Calls Tryd.prog 6 #[.slice a0 len0 cap0] w fun e w' => e = .returned (.bool true) ∧ Below w.heap.size w w' := by
  have T := Lib.hid ht; clear ht
  have HI := Lib.hid (w0.recs (by decide)); clear w0
  obtain ⟨zv, zi⟩ := zero_of_info arrInfo
  have zb := fun W : World => run_build (P := Tryd.prog) W 53 #[] arrZ arrBuilt
  have zs1 := fun W : World => run_storeAt_new (P := Tryd.prog) W 53 arrZ arrZ (by rw [arrSize]; exact zi) rfl arrOne
  have zs2 := fun W : World => run_storeCells_new (P := Tryd.prog) W 53 arrZ arrZ (by rw [arrSize]; exact zi) rfl arrOne
  have hZs := arrSize
  have HZ := Lib.hid arrAt
  generalize arrZ = Z at *
  obtain ⟨m, hm1, hm2, hm3⟩ : ∃ m : Nat, m ≤ len0 ∧ m ≤ 60 ∧ (m < len0 → m = 60) := ⟨min len0 60, by omega, by omega, by omega⟩
  go_enter Tryd.func6, Tryd.ntmps6
  go_wp2_with fail
  refine (slnew_any _).mono ?_
  rintro e v1 ⟨g, p, rfl, hp, hb1⟩
  go_wp2_with fail
  have HS0 := Lib.hid (stl_new (T := 53) hp HZ.out)
  have hbx := alc hb1 (.cells Z 53)
  have hlb : w.heap.size ≤ v1.heap.size := hb1.size
  obtain ⟨b, hb⟩ : ∃ b, v1.heap.size = b := ⟨_, rfl⟩
  rw [hb] at HS0 hlb ⊢
  clear hp hb1 HZ zv zi zb zs1 zs2 hZs
  go_loopw [5] (fun v5 wr => ∃ (i : Nat) (c : Int) (ws : List Nat), i ≤ m ∧ v5 = .int .i64 i ∧ Hid (StL w.heap.size p g p b wr c ws) ∧ Below w.heap.size w wr) (fun i _ => m - (intOf i).toNat)
  case atStart => exact ⟨0, 0, _, by omega, rfl, HS0, hbx⟩
  case round =>
    clear HS0 hbx hb
    obtain ⟨i, c, ws, him, rfl, HS, hbel⟩ := hrel
    by_cases hlt : i < m
    · obtain ⟨_, _, hin⟩ := HI.out.below hbel
      rcases hin with h0 | ⟨rb, off, rfl, hrl, hrm, hrc⟩
      · exfalso; omega
      · have r0 := hrc (i * 3) (by omega)
        have r1 := hrc (i * 3 + 1) (by omega)
        have r2 := hrc (i * 3 + 2) (by omega)
        rw [← Nat.add_assoc] at r1 r2
        clear hrc
        have HIx := HI
        clear HI
        generalize z0.getD (i * 3) 0 = A0 at *
        generalize z0.getD (i * 3 + 1) 0 = A1 at *
        generalize z0.getD (i * 3 + 2) 0 = A2 at *
        have f1 := and63 A1
        have f2 := and63 A2
        have f3 := and1023 A1
        have f0 := and3 A0
        have s4 : A0 % 4 = 0 ∨ A0 % 4 = 1 ∨ A0 % 4 = 2 ∨ A0 % 4 = 3 := by omega
        obtain ⟨x, hx⟩ : ∃ x : Nat, A1 % 64 = x := ⟨(A1 % 64).toNat, by omega⟩
        obtain ⟨L, hL⟩ : ∃ L : Nat, A2 % 64 = L := ⟨(A2 % 64).toNat, by omega⟩
        obtain ⟨B, hB⟩ : ∃ B : Nat, A1 % 1024 = B := ⟨(A1 % 1024).toNat, by omega⟩
        have hx2 : x < 64 := by omega
        have hL2 : L < 64 := by omega
        have hB2 : B < 1024 := by omega
        rw [hx] at f1; rw [hL] at f2; rw [hB] at f3
        clear hx hL hB
        generalize A0 % 4 = t at *
        have t1 : (i : Int) < len0 := by omega
        have t2 : (i : Int) < 60 := by omega
        have x0 : (0 : Int) ≤ (x : Int) := by omega
        have x1 : (x : Int) < 64 := by omega
        have x3 : (x : Int).toNat = x := Int.toNat_natCast x
        rcases s4 with rfl | rfl | rfl | rfl
        rotate_left 2
        · as_aux_lemma =>
            obtain ⟨k1, k2⟩ := HS.out.2.1.2 x hx2
            obtain ⟨Bx, hBx⟩ : ∃ Bx, bitB ws x = Bx := ⟨_, rfl⟩
            rw [hBx] at k1
            have HBx := Lib.hid hBx; clear hBx
            have HP := Lib.hid (fun (W' : World) (e : W'.heap = wr.heap) => slclear (W := W') x (HS.out.1.keep (by rw [e]; exact Nat.le_refl _) (fun i _ _ => by rw [e])) (by omega) (fun hb => HS.out.one hb))
            go_upto_region 23 with (fail)
            go_cut [101] (fun v wx => v = .bool false ∧ Hid (∃ c' ws', SlIs w.heap.size p g p wx c' ws' ∧ Only w.heap.size p wr wx ∧ (bitB ws x = true → c' = c - 1) ∧ (bitB ws x = false → c' = c) ∧ ws'.length = ws.length ∧ ∀ y, bitB ws' y = (bitB ws y && !decide (x = y))))
            case first =>
              cases Bx
              all_goals
                go_region_with (go_at_call 33; refine (HP.out _ (by rfl)).mono ?_; rintro e v2 ⟨c', ws', rfl, hp2, ho2, e1, e2, e3, e4⟩; rw [HBx.out]; have k3 : v2.cell? ⟨b, x, none⟩ = _ := (World.cell?_of_block (ho2.2.2 b (by have := HS.out.2.2.2.2.2; omega))).trans k1)
                all_goals go_wp2
                all_goals
                  go_meet
                  exact ⟨rfl, Lib.hid ⟨c', ws', hp2, ⟨((Below.refl _ wr).trans (Below.refl _ wr).drew).trans ho2.1, ho2.2.1, ho2.2.2⟩, e1, e2, e3, e4⟩⟩
            case rest =>
              obtain ⟨rfl, hr⟩ := hcut
              obtain ⟨c', ws', hp2, ho2, e1, e2, e3, e4⟩ := hr.out
              have HSN := Lib.hid (HS.out.drop hx2 hp2 ho2 e1 e2 e3 e4)
              have k3 : wc.cell? ⟨b, x, none⟩ = _ := (World.cell?_of_block (ho2.2.2 b (by have := HS.out.2.2.2.2.2; omega))).trans k1
              have k4 : wc.frozen? ⟨b, x, none⟩ = false := (World.frozen?_of_block (ho2.2.2 b (by have := HS.out.2.2.2.2.2; omega))).trans k2
              have hbel2 := below_only hbel ho2 (Nat.le_refl _)
              clear hr hp2 ho2 e1 e2 e3 e4 HP
              go_wp2_with fail
              go_roundw
              case rel => exact ⟨i + 1, c', ws', by omega, by go_num, HSN, hbel2.setCell (by omega) _⟩
              case measure => simp [intOf]; omega
        · as_aux_lemma =>
            have HK : ∃ K, K = min L (1024 - B) := ⟨_, rfl⟩
            obtain ⟨K, hK⟩ := HK
            have hKL : K ≤ L ∧ B + K ≤ 1024 := by omega
            have hKe : (K = L) ∨ (K < L ∧ B + K = 1024) := by omega
            have HKD := Lib.hid hK
            clear hK
            obtain ⟨hKL, hKB⟩ := hKL
            go_upto_region 7 with (fail)
            go_cut [7] (fun v7 wx => ∃ h, v7 = .pointer (some ⟨h, 0, none⟩) ∧ Hid (StL w.heap.size p g p b wx c ws) ∧ h ≠ b ∧ p < h ∧ w.heap.size ≤ h ∧ h < wx.heap.size ∧ wx.cell? ⟨h, 0, none⟩ = some (.int .i64 B) ∧ wx.cell? ⟨h, 1, none⟩ = some (.int .i64 L) ∧ Below w.heap.size w wx)
            case first =>
              go_region
              all_goals go_wp2
              all_goals
                go_meet
                have hbs := hbel.size
                have hbb := HS.out.2.1.1
                have hpb := HS.out.2.2.2.2.2
                refine ⟨wr.heap.size, rfl, Lib.hid (HS.out.grow ?_), by omega, by omega, hbs, ?_, ?_, ?_, ?_⟩
                · exact (alc0 _ _).drew
                · simp
                · simp
                · simp
                · exact (alc hbel _).drew
            case rest =>
              obtain ⟨h, rfl, HSc, hhb, hph, hwh, hhs, hc0, hc1, hbelc⟩ := hcut
              have hsc := HSc.out.1
              clear HS hbel r0 r1 r2
              have hpb := HSc.out.2.2.2.2.2
              have hbw : w.heap.size ≤ b := by have := hsc.1.1; have := hsc.2.1; omega
              obtain ⟨HW1, HW2⟩ : Hid ((dropN ws (B / 16) (jk B K)).2 ≤ c) ∧ Hid (∀ W2, SlIs w.heap.size p g p W2 (c - (dropN ws (B / 16) (jk B K)).2) (dropN ws (B / 16) (jk B K)).1 → ArrS b 64 W2 (dropN ws (B / 16) (jk B K)).1 → StL w.heap.size p g p b W2 (c - (dropN ws (B / 16) (jk B K)).2) (dropN ws (B / 16) (jk B K)).1) := ⟨Lib.hid (HSc.out.wrote hB2 hKB).1, Lib.hid (HSc.out.wrote hB2 hKB).2⟩
              have HWB := Lib.hid (wrote_bytes HSc.out.2.2.1 HSc.out.2.2.2.2.1 hB2 hL2 HKD.out)
              go_wp2_with fail
              go_loopw [8, 9] (fun v8 v9 wx => ∃ k, k ≤ K ∧ v9 = .int .i64 (k : Nat) ∧ v8 = .int .i64 (dropN ws (B / 16) (jk B k)).2 ∧ Hid (SlIs w.heap.size p g p wx c ws ∧ ArrS b 64 wx (dropN ws (B / 16) (jk B k)).1) ∧ wx.cell? ⟨h, 0, none⟩ = some (.int .i64 B) ∧ wx.cell? ⟨h, 1, none⟩ = some (.int .i64 L) ∧ Below w.heap.size w wx) (fun _ v9 _ => K - (intOf v9).toNat)
              case atStart => exact ⟨0, by omega, rfl, rfl, Lib.hid ⟨hsc, HSc.out.2.1⟩, hc0, hc1, hbelc⟩
              case round =>
                clear hc0 hc1 hbelc hsc hhs
                obtain ⟨k, hk, rfl, rfl, HR, hc0, hc1, hbj⟩ := hrel
                have hdb := dropN_bd ws (B / 16) (jk B k)
                obtain ⟨d0, d1⟩ := hdb
                have hjb : jk B k ≤ 64 := by unfold jk; split <;> omega
                by_cases hkK : k < K
                · obtain ⟨q, hq⟩ : ∃ q, (B + k) / 16 = q := ⟨_, rfl⟩
                  have hq64 : q < 64 := by omega
                  have hnx := drop_byte (ws := ws) (B := B) (k := k) HSc.out.2.2.1 (by omega)
                  rw [hq] at hnx
                  obtain ⟨n1, n2⟩ := hnx
                  obtain ⟨k1, k2⟩ := HR.out.2.2 q hq64
                  obtain ⟨Bq, hBq⟩ : ∃ Bq, bitB (dropN ws (B / 16) (jk B k)).1 q = Bq := ⟨_, rfl⟩
                  rw [hBq] at k1 n2
                  have HN1 := Lib.hid n1; have HN2 := Lib.hid n2; have HBq := Lib.hid hBq
                  clear n1 n2 hBq
                  have l1 : (k : Int) < L := by omega
                  have l2 : (B : Int) + k < 1024 := by omega
                  have g0 : (0 : Int) ≤ (B : Int) + k := by omega
                  have g1 : ((B : Int) + (k : Int)).tdiv 16 = (q : Int) := by rw [Int.tdiv_eq_ediv_of_nonneg (by omega)]; omega
                  have g2 : ((B : Int) + (k : Int)) / 16 = (q : Int) := by omega
                  have q0 : (0 : Int) ≤ (q : Int) := by omega
                  have q1 : (q : Int) < 64 := by omega
                  have q2 : (q : Int).toNat = q := Int.toNat_natCast q
                  clear hq
                  obtain ⟨D, hD⟩ : ∃ D, (dropN ws (B / 16) (jk B k)).2 = D := ⟨_, rfl⟩
                  rw [hD] at HN2 d0 d1 ⊢
                  clear hD
                  cases Bq
                  · go_wp2_with fail
                    go_roundw
                    case rel => exact ⟨k + 1, by omega, by go_num, by rw [HN2.out]; simp, Lib.hid ⟨HR.out.1, HR.out.2.same (fun y hy => by
                      rw [HN1.out]
                      by_cases e : q = y
                      · rw [← e, HBq.out]; rfl
                      · rw [decide_eq_false e, Bool.not_false, Bool.and_true])⟩, hc0, hc1, hbj⟩
                    case measure => simp [intOf]; omega
                  · have hbh : ∀ o, (⟨h, o, none⟩ : Addr) ≠ ⟨b, q, none⟩ := fun o e => hhb (by injection e)
                    go_wp2_with fail
                    go_roundw
                    case rel => exact ⟨k + 1, by omega, by go_num, by rw [HN2.out]; go_num, Lib.hid ⟨slset HR.out.1 hpb, HR.out.2.drop hq64 HN1.out⟩, by rw [World.cell?_setCell_other _ _ _ _ (hbh 0).symm]; exact hc0, by rw [World.cell?_setCell_other _ _ _ _ (hbh 1).symm]; exact hc1, hbj.setCell (by omega) _⟩
                    case measure => simp [intOf]; omega
                · obtain rfl : k = K := by omega
                  have HWR := Lib.hid (show Calls Tryd.prog 34 #[.pointer (some ⟨p, 0, none⟩), .agg #[.int .i64 B, .int .i64 L]] wr (fun e w' => e = .returned (.int .i64 (dropN ws (B / 16) (jk B k)).2) ∧ SlIs w.heap.size p g p w' (c - (dropN ws (B / 16) (jk B k)).2) (dropN ws (B / 16) (jk B k)).1 ∧ Below w.heap.size wr w' ∧ (∀ i, p < i → i < wr.heap.size → w'.heap[i]? = wr.heap[i]?) ∧ wr.heap.size ≤ w'.heap.size) from by
                    have := slwrote (W := wr) (B : Int) (L : Int) HR.out.1 (by rw [HWB.out]; exact HW1.out)
                    unfold WrotePost at this
                    rw [HWB.out] at this
                    exact this)
                  obtain ⟨D, hD⟩ : ∃ D, (dropN ws (B / 16) (jk B k)).2 = D := ⟨_, rfl⟩
                  rw [hD] at HWR HW1 HW2 d0 d1 ⊢
                  clear hD
                  obtain ⟨V, hV⟩ : ∃ V, (dropN ws (B / 16) (jk B k)).1 = V := ⟨_, rfl⟩
                  rw [hV] at HWR HW2 HR
                  clear hV HWB
                  have hend : ¬ (k : Int) < L ∨ ((k : Int) < L ∧ ¬ (B : Int) + k < 1024) := by omega
                  rcases hend with l1 | ⟨l1, l2⟩
                  all_goals
                    go_wp2_with fail
                    refine HWR.out.mono ?_
                    rintro e v3 ⟨rfl, hp3, hb3, hr3, hs3⟩
                    have HSN := Lib.hid (HW2.out v3 hp3 (HR.out.2.keep hs3 (hr3 b hpb HR.out.2.1)))
                    have hbel3 := hbj.trans hb3
                    clear hp3 hb3 hr3
                    go_wp2_with fail
                    go_roundw
                    case rel => exact ⟨i + 1, _, _, by omega, by go_num, HSN, hbel3⟩
                    case measure => simp [intOf]; omega
        all_goals
          obtain ⟨k1, k2⟩ := HS.out.2.1.2 x hx2
          go_wp2_with fail
          refine (slkeep x HS.out.1 (by omega) (by have := HS.out.bd; omega)).mono ?_
          rintro e v2 ⟨c', ws', rfl, hp2, ho2, e1, e2, e3, e4⟩
          have HSN := Lib.hid (HS.out.put hx2 hp2 ho2 e1 e2 e3 e4)
          have k3 : v2.cell? ⟨b, x, none⟩ = _ := (World.cell?_of_block (ho2.2.2 b (by have := HS.out.2.2.2.2.2; omega))).trans k1
          have k4 : v2.frozen? ⟨b, x, none⟩ = false := (World.frozen?_of_block (ho2.2.2 b (by have := HS.out.2.2.2.2.2; omega))).trans k2
          have hbel2 := below_only hbel ho2 (Nat.le_refl _)
          clear hp2 ho2 e1 e2 e3 e4
          go_wp2_with fail
          go_roundw
          case rel => exact ⟨i + 1, c', ws', by omega, by go_num, HSN, hbel2.setCell (by omega) _⟩
          case measure => simp [intOf]; omega
    ·
      obtain ⟨C, hC⟩ : ∃ C, cntB ws 64 = C := ⟨_, rfl⟩
      obtain rfl : c = (C : Int) := by rw [← hC]; exact HS.out.2.2.2.1
      have HC := Lib.hid hC
      have hC64 : C ≤ 64 := by rw [← hC]; exact cntB_le ws 64
      clear hC
      obtain rfl : i = m := by omega
      have hend : ¬ (i : Int) < len0 ∨ ((i : Int) < len0 ∧ ¬ (i : Int) < 60) := by omega
      obtain ⟨v3, hv3⟩ : ∃ v3, wr = v3 := ⟨_, rfl⟩
      subst hv3
      have hl3 := HS.out.2.2.1
      have HL3 := Lib.hid hl3; clear hl3
      rcases hend with hend | ⟨hend1, hend⟩
      all_goals
        as_aux_lemma =>
          go_wp2_with fail
          go_loopw [10, 11, 12] (fun v10 v11 v12 wx => ∃ (X q : Nat) (r : Int), X ≤ 64 ∧ v12 = .int .i64 ((X : Int) - 1) ∧ v10 = .int .i64 ((C : Int) - (cntB ws X : Nat)) ∧ v11 = .int .i64 r ∧ Hid (Up ws X r) ∧ Hid (wx = wr.drewN q)) (fun _ _ v12 _ => (intOf v12 + 1).toNat)
          case atStart => exact ⟨64, 0, -1, by omega, rfl, by rw [HC.out]; exact congrArg (Value.int .i64) (by omega), rfl, Lib.hid (.inl ⟨rfl, HS.out.2.2.2.2.1⟩), Lib.hid rfl⟩
          case round =>
            rename_i vo
            obtain ⟨X, q, r, hX, rfl, rfl, rfl, HU, HW⟩ := hrel
            have HSx : Hid (StL w.heap.size p g p b wr C ws) := Lib.hid (by rw [HW.out]; exact HS.out)
            have hbelx : Below w.heap.size w wr := by rw [HW.out]; exact below_drewN hbel q
            by_cases hX0 : 0 < X
            · obtain ⟨Y, rfl⟩ : ∃ Y, X = Y + 1 := ⟨X - 1, by omega⟩
              have hYX : ((Y + 1 : Nat) : Int) - 1 = (Y : Int) := by omega
              rw [hYX]
              clear hYX
              obtain ⟨k1, k2⟩ := HSx.out.2.1.2 Y (by omega)
              obtain ⟨Bx, hBx⟩ : ∃ Bx, bitB ws Y = Bx := ⟨_, rfl⟩
              rw [hBx] at k1
              have hnx : (cntB ws (Y + 1) : Int) = cntB ws Y + (if Bx then 1 else 0) := by rw [cntB, hBx]; split <;> simp
              have hle := cntB_le ws Y
              have y0 : (0 : Int) ≤ (Y : Int) := by omega
              have y1 : (Y : Int) < 64 := by omega
              have y2 : (Y : Int).toNat = Y := Int.toNat_natCast Y
              have HH := Lib.hid (fun n => slhas (W := wr.drewN n) (lo := w.heap.size) (hi := p) (g := g) (p := p) (c := C) (ws := ws) Bx Y HSx.out.1 (by rw [Int.toNat_natCast, hBx, decide_eq_true ⟨by omega, by omega⟩, Bool.true_and]))
              cases Bx
              · have HN := Lib.hid (fun n => slnext_is (W := wr.drewN n) (lo := w.heap.size) (hi := p) (g := g) (p := p) (c := C) (ws := ws) Y r HSx.out.1 (by omega) HL3.out HS.out.2.2.2.2.1 (HU.out.no hBx) (T.out.later (below_drewN hbelx n)))
                have HU2 := Lib.hid (HU.out.no hBx)
                have HNX := Lib.hid hnx
                rw [hnx]
                clear hBx hnx
                obtain ⟨Cx, hCx⟩ : ∃ Cx, cntB ws Y = Cx := ⟨_, rfl⟩
                have HCx := Lib.hid hCx
                rw [hCx] at hle ⊢
                clear hCx
                go_wp2_with fail
                go_quiet (first | exact Calls.quiet_of_same ((HH.out _).mono fun _ _ ⟨he, hm⟩ => ⟨he, hm.symm⟩) | exact Calls.quiet_of_same ((HN.out _).mono fun _ _ ⟨he, hm⟩ => ⟨he, hm.symm⟩))
                go_wp2_with fail
                go_roundw
                case rel => exact ⟨Y, q + nq, r, by omega, by go_num, by rw [HCx.out] <;> go_num, rfl, HU2, Lib.hid (by rw [HW.out]; simp)⟩
                case measure => simp [intOf] <;> omega
              · have HN := Lib.hid (fun n => slnext_is (W := wr.drewN n) (lo := w.heap.size) (hi := p) (g := g) (p := p) (c := C) (ws := ws) Y Y HSx.out.1 (by omega) HL3.out HS.out.2.2.2.2.1 (Up.yes hBx) (T.out.later (below_drewN hbelx n)))
                have HU2 := Lib.hid (Up.yes hBx)
                rw [hnx]
                clear hBx hnx
                obtain ⟨Cx, hCx⟩ : ∃ Cx, cntB ws Y = Cx := ⟨_, rfl⟩
                have HCx := Lib.hid hCx
                rw [hCx] at hle ⊢
                clear hCx
                go_wp2_with fail
                go_quiet (first | exact Calls.quiet_of_same ((HH.out _).mono fun _ _ ⟨he, hm⟩ => ⟨he, hm.symm⟩) | exact Calls.quiet_of_same ((HN.out _).mono fun _ _ ⟨he, hm⟩ => ⟨he, hm.symm⟩))
                go_wp2_with fail
                go_roundw
                case rel => exact ⟨Y, q + nq, Y, by omega, by go_num, by rw [HCx.out]; go_num, rfl, HU2, Lib.hid (by rw [HW.out]; simp)⟩
                case measure => simp [intOf] <;> omega
            · obtain rfl : X = 0 := by omega
              rw [show cntB ws 0 = 0 from rfl]
              go_wp2_with fail
              refine (s07awake_any _ (T.out.later hbelx)).mono ?_
              rintro e v4 ⟨rfl, hb4⟩
              have hbel4 := hbelx.trans (hb4.mono hbelx.size)
              have HP4 := Lib.hid (HSx.out.1.below hb4 HSx.out.1.2.1.2 hb4.size)
              clear hb4
              go_wp2_with fail
              refine (slcount HP4.out).mono ?_
              rintro e w' ⟨rfl, rfl⟩
              go_wp2_with fail
              refine (slkeep_no (-1) HP4.out (by omega)).mono ?_
              rintro e w' ⟨rfl, rfl⟩
              go_wp2_with fail
              refine (slkeep_no 16384 HP4.out (by omega)).mono ?_
              rintro e w' ⟨rfl, rfl⟩
              go_wp2_with fail
              refine (nslkeep _).mono ?_
              rintro e w' ⟨rfl, rfl⟩
              go_wp2_with fail
              refine (nslclear _).mono ?_
              rintro e w' ⟨rfl, rfl⟩
              go_wp2_with fail
              refine (nslcount _).mono ?_
              rintro e w' ⟨rfl, rfl⟩
              go_wp2_with fail
              refine (nslwrote _).mono ?_
              rintro e v5 ⟨rfl, hb5⟩
              have hbel5 := hbel4.trans (hb5.mono hbel4.size)
              go_wp2_with fail
              refine (nslnext _).mono ?_
              rintro e w' ⟨rfl, rfl⟩
              go_wp2_with fail
              refine (nslhas _).mono ?_
              rintro e w' ⟨rfl, rfl⟩
              go_wp2
              go_ret
              exact ⟨rfl, hbel5⟩
end Go.Proofs.YtgjahmdfkbdcpaaDoor
