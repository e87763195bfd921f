/- The walk of SetPlays. -/
import Derived.Test.YtgjahmdfkbdcpaaDoorSetL
import Derived.Test.YtgjahmdfkbdcpaaDoorSetE
import Derived.Test.YtgjahmdfkbdcpaaDoorSetB
import Derived.Test.YtgjahmdfkbdcpaaDoorRecs
import Derived.Deep.RegionWith
import Derived.Deep.QuietTactic
import Derived.WalkSmall
namespace Go.Proofs.YtgjahmdfkbdcpaaDoor
open Go.RowKit
set_option linter.unusedVariables false
set_option linter.unusedSimpArgs false

/-- A row of bools at block b says which of the first K numbers are in it. -/
def ArrS (b K : Nat) (W : World) (ws : List Nat) : Prop :=
  b < W.heap.size ∧ ∀ i, i < K → W.cell? ⟨b, i, none⟩ = some (.bool (bitB ws i)) ∧ W.frozen? ⟨b, i, none⟩ = false
theorem ArrS.set_ {b K : Nat} {W : World} {ws ws' : List Nat} {x : Nat} {v : Bool} (h : ArrS b K W ws) (hx : x < K) (h1 : bitB ws' x = v) (hb : ∀ y, y ≠ x → bitB ws' y = bitB ws y) : ArrS b K (W.setCell ⟨b, x, none⟩ (.bool v)) ws' := by
  refine ⟨by rw [size_set]; exact h.1, fun i hi => ?_⟩
  obtain ⟨k1, k2⟩ := h.2 i hi
  refine ⟨?_, by simp [k2]⟩
  by_cases e : x = i
  · subst e
    rw [World.cell?_setCell_same _ _ _ k1, h1]
  · rw [World.cell?_setCell_other _ _ _ _ (by intro q; injection q with _ q; exact e q), k1, hb i (fun q => e q.symm)]
theorem ArrS.put {b K : Nat} {W : World} {ws ws' : List Nat} {x : Nat} (h : ArrS b K W ws) (hx : x < K) (hb : ∀ y, bitB ws' y = (bitB ws y || decide (x = y))) : ArrS b K (W.setCell ⟨b, x, none⟩ (.bool true)) ws' :=
  h.set_ hx (by rw [hb, decide_eq_true rfl, Bool.or_true]) (fun y e => by rw [hb, decide_eq_false (fun q => e q.symm), Bool.or_false])
theorem ArrS.drop {b K : Nat} {W : World} {ws ws' : List Nat} {x : Nat} (h : ArrS b K W ws) (hx : x < K) (hb : ∀ y, bitB ws' y = (bitB ws y && !decide (x = y))) : ArrS b K (W.setCell ⟨b, x, none⟩ (.bool false)) ws' :=
  h.set_ hx (by rw [hb, decide_eq_true rfl, Bool.not_true, Bool.and_false]) (fun y e => by rw [hb, decide_eq_false (fun q => e q.symm), Bool.not_false, Bool.and_true])
theorem ArrS.keep {b K : Nat} {W W' : World} {ws : List Nat} (h : ArrS b K W ws) (hs : W.heap.size ≤ W'.heap.size) (hk : W'.heap[b]? = W.heap[b]?) : ArrS b K W' ws := by
  refine ⟨Nat.lt_of_lt_of_le h.1 hs, fun i hi => ?_⟩
  obtain ⟨h1, h2⟩ := h.2 i hi
  exact ⟨(World.cell?_of_block hk).trans h1, (World.frozen?_of_block hk).trans h2⟩
theorem ArrS.only {b K lo hi : Nat} {W W' : World} {ws : List Nat} (h : ArrS b K W ws) (ho : Only lo hi W W') (hb : b < lo ∨ hi ≤ b) : ArrS b K W' ws := by
  refine h.keep (Nat.le_of_eq ho.2.1.symm) ?_
  rcases hb with hb | hb
  · exact ho.1.block b hb
  · exact ho.2.2 b hb

theorem putN_next {ws : List Nat} {x j : Nat} (h : x + (j + 1) ≤ 64 * ws.length) : (∀ y, bitB (putN ws x (j + 1)).1 y = (bitB (putN ws x j).1 y || decide (x + j = y))) ∧ (putN ws x (j + 1)).2 = (putN ws x j).2 + (if bitB (putN ws x j).1 (x + j) then 0 else 1) := by
  refine ⟨fun y => ?_, by rw [putN]; split <;> simp⟩
  rw [putN_bits ws x (j + 1) y h, putN_bits ws x j y (by omega), Bool.or_assoc]
  congr 1
  rw [Bool.eq_iff_iff]
  simp only [Bool.or_eq_true, decide_eq_true_eq]
  omega
theorem dropN_next {ws : List Nat} {x j : Nat} (h : x + (j + 1) ≤ 64 * ws.length) : (∀ y, bitB (dropN ws x (j + 1)).1 y = (bitB (dropN ws x j).1 y && !decide (x + j = y))) ∧ (dropN ws x (j + 1)).2 = (dropN ws x j).2 + (if bitB (dropN ws x j).1 (x + j) then 1 else 0) := by
  refine ⟨fun y => ?_, by rw [dropN]; split <;> simp⟩
  rw [dropN_bits ws x (j + 1) y h, dropN_bits ws x j y (by omega), Bool.and_assoc]
  congr 1
  rw [Bool.eq_iff_iff]
  simp only [Bool.and_eq_true, Bool.not_eq_true', decide_eq_false_iff_not]
  omega

/-- The set and the row of bools say the same. -/
def St (lo hi g b K L : Nat) (W : World) (c : Int) (ws : List Nat) : Prop :=
  SetIs lo hi g W K c ws ∧ ArrS b K W ws ∧ ws.length = L ∧ c = cntB ws K ∧ (∀ y, K ≤ y → bitB ws y = false) ∧ (b < lo ∨ hi ≤ b) ∧ K ≤ 64 * L

/-- How many of a stretch there are, once it begins at a number. -/
theorem sJ_nat (K X : Nat) (m : Int) : (∀ j : Nat, j < sJ K X m → (X : Int) + j < X + m ∧ (X : Int) + j < K) ∧ (((X : Int) + m ≤ K ∧ ¬ (X : Int) + sJ K X m < X + m) ∨ ((K : Int) < X + m ∧ ¬ (X : Int) + sJ K X m < K)) ∧ (X + sJ K X m ≤ K ∨ sJ K X m = 0) := by
  unfold sJ sendI
  split
  · refine ⟨fun j hj => by omega, by omega, by omega⟩
  · refine ⟨fun j hj => by omega, by omega, by omega⟩
theorem sJ_neg (K : Nat) (x m : Int) (h : x < 0) : sJ K x m = 0 := by
  unfold sJ sendI
  split <;> omega

theorem madeAt {V : Value} {L i : Nat} (hi : i < L) : (madeCells #[V] L)[i]? = some V := by
  have := toList_madeCells_one V L
  rw [← Array.getElem?_toList, this, List.getElem?_replicate, if_pos hi]
theorem infoBool : (Tryd.prog.info? 4).map (fun i => (i.zero, i.size, i.bytes)) = some (some (.bool false), 1, 1) := by kernel_rfl

theorem arrS_new (W : World) (K L : Nat) (T : TypeId) : ArrS W.heap.size K (W.alloc (.cells (madeCells #[.bool false] K) T)) (List.replicate L 0) := by
  refine ⟨by simp, fun i hi => ⟨?_, by simp⟩⟩
  rw [World.cell?_alloc_mark, bitB_none]
  exact madeAt hi
theorem cntB_none (L n : Nat) : cntB (List.replicate L 0) n = 0 := by
  induction n with
  | zero => rfl
  | succ n ih => rw [cntB, ih, bitB_none]; rfl
def StartP (w : World) (K L : Nat) (v6 v7 : Value) (wx : World) : Prop :=
  ∃ lo hi g b, v6 = .pointer (some ⟨g, 0, none⟩) ∧ v7 = .slice (some ⟨b, 0, none⟩) K K ∧ St lo hi g b K L wx 0 (List.replicate L 0) ∧ w.heap.size ≤ lo ∧ w.heap.size ≤ b ∧ Below w.heap.size w wx
theorem start_a {w v1 : World} {g K L : Nat} {T : TypeId} (hs : SetIs w.heap.size v1.heap.size g v1 K 0 (List.replicate L 0)) (hb : Below w.heap.size w v1) (hKL : K ≤ 64 * L) :
    StartP w K L (.pointer (some ⟨g, 0, none⟩)) (.slice (some ⟨v1.heap.size, 0, none⟩) K K) (v1.alloc (.cells (madeCells #[.bool false] K) T)) := by
  refine ⟨w.heap.size, v1.heap.size, g, v1.heap.size, rfl, rfl, ⟨hs.keep (by simp) (fun i _ hi => heap_old _ _ _ hi), arrS_new _ _ _ _, by simp, by rw [cntB_none]; rfl, fun y _ => bitB_none L y, .inr (Nat.le_refl _), hKL⟩, Nat.le_refl _, hb.size, alc hb _⟩
theorem start_b {w v1 : World} {g K L : Nat} {T : TypeId} (hs : SetIs (w.alloc (.cells (madeCells #[.bool false] K) T)).heap.size v1.heap.size g v1 K 0 (List.replicate L 0)) (hb : Below (w.alloc (.cells (madeCells #[.bool false] K) T)).heap.size (w.alloc (.cells (madeCells #[.bool false] K) T)) v1) (hKL : K ≤ 64 * L) :
    StartP w K L (.pointer (some ⟨g, 0, none⟩)) (.slice (some ⟨w.heap.size, 0, none⟩) K K) v1 := by
  have hsz : (w.alloc (.cells (madeCells #[.bool false] K) T)).heap.size = w.heap.size + 1 := by simp
  refine ⟨_, _, g, w.heap.size, rfl, rfl, ⟨hs, (arrS_new w K L T).keep hb.size (hb.block _ (by omega)), by simp, by rw [cntB_none]; rfl, fun y _ => bitB_none L y, .inl (by omega), hKL⟩, by omega, Nat.le_refl _, thn (alc0 _ _) hb⟩

/-- What the loop of the acts knows. -/
def InP (w : World) (lo hi g b K L : Nat) (wr : World) : Prop := ∃ c ws, St lo hi g b K L wr c ws
theorem St.bd {lo hi g b K L : Nat} {W : World} {c : Int} {ws : List Nat} (h : St lo hi g b K L W c ws) : 0 ≤ c ∧ c ≤ K := by
  obtain ⟨_, _, _, e, _⟩ := h
  have := cntB_le ws K
  omega
theorem cntB_pos {ws : List Nat} {x n : Nat} (hb : bitB ws x = true) (hx : x < n) : 1 ≤ cntB ws n := by
  have := (listB_at hx hb).1
  omega
theorem St.one {lo hi g b K L : Nat} {W : World} {c : Int} {ws : List Nat} {x : Nat} (h : St lo hi g b K L W c ws) (hb : bitB ws x = true) (hx : x < K) : 1 ≤ c := by
  obtain ⟨_, _, _, e, _⟩ := h
  have := cntB_pos hb hx
  omega
/-- A number is put in, or taken out, of both. -/
theorem St.put {lo hi g b K L x : Nat} {W W1 : World} {c c' : Int} {ws ws' : List Nat} (h : St lo hi g b K L W c ws) (hx : x < K) (h1 : SetIs lo hi g W1 K c' ws') (ho : Only lo hi W W1) (e1 : bitB ws x = true → c' = c) (e2 : bitB ws x = false → c' = c + 1) (e3 : ws'.length = ws.length) (e4 : ∀ y, bitB ws' y = (bitB ws y || decide (x = y))) :
    St lo hi g b K L (W1.setCell ⟨b, x, none⟩ (.bool true)) c' ws' := by
  obtain ⟨hs, ha, hl, hc, hz, hb, hk⟩ := h
  refine ⟨h1.keep (by rw [size_set]; exact Nat.le_refl _) (fun i i1 i2 => heap_other _ _ _ i (by intro e; simp at e; omega)), (ha.only ho hb).put hx e4, by rw [e3]; exact hl, ?_, fun y hy => by rw [e4, hz y hy, decide_eq_false (by omega)]; rfl, hb, hk⟩
  cases hbx : bitB ws x with
  | true =>
    have : cntB ws' K = cntB ws K := cntB_same (fun y _ => by
      rw [e4]
      by_cases e : x = y
      · rw [← e, hbx]; rfl
      · rw [decide_eq_false e, Bool.or_false])
    rw [e1 hbx, hc, this]
  | false => rw [e2 hbx, hc, cntB_put hx e4 hbx]; omega
theorem St.drop {lo hi g b K L x : Nat} {W W1 : World} {c c' : Int} {ws ws' : List Nat} (h : St lo hi g b K L W c ws) (hx : x < K) (h1 : SetIs lo hi g W1 K c' ws') (ho : Only lo hi W W1) (e1 : bitB ws x = true → c' = c - 1) (e2 : bitB ws x = false → c' = c) (e3 : ws'.length = ws.length) (e4 : ∀ y, bitB ws' y = (bitB ws y && !decide (x = y))) :
    St lo hi g b K L (W1.setCell ⟨b, x, none⟩ (.bool false)) c' ws' := by
  obtain ⟨hs, ha, hl, hc, hz, hb, hk⟩ := h
  refine ⟨h1.keep (by rw [size_set]; exact Nat.le_refl _) (fun i i1 i2 => heap_other _ _ _ i (by intro e; simp at e; omega)), (ha.only ho hb).drop hx e4, by rw [e3]; exact hl, ?_, fun y hy => by rw [e4, hz y hy]; rfl, hb, hk⟩
  cases hbx : bitB ws x with
  | false =>
    have : cntB ws' K = cntB ws K := cntB_same (fun y _ => by
      rw [e4]
      by_cases e : x = y
      · rw [← e, hbx]; rfl
      · rw [decide_eq_false e, Bool.not_false, Bool.and_true])
    rw [e2 hbx, hc, this]
  | true => rw [e1 hbx, hc, ← cntB_drop hx e4 hbx]; omega
/-- A stretch: the row goes ahead, the set follows. -/
def StRow (lo hi g b K L : Nat) (W : World) (c : Int) (ws vs : List Nat) : Prop :=
  SetIs lo hi g W K c ws ∧ ArrS b K W vs
theorem St.row {lo hi g b K L : Nat} {W : World} {c : Int} {ws : List Nat} (h : St lo hi g b K L W c ws) : StRow lo hi g b K L W c ws ws := ⟨h.1, h.2.1⟩
theorem StRow.put {lo hi g b K L x : Nat} {W : World} {c : Int} {ws vs vs' : List Nat} (h : StRow lo hi g b K L W c ws vs) (hb : b < lo ∨ hi ≤ b) (hx : x < K) (e4 : ∀ y, bitB vs' y = (bitB vs y || decide (x = y))) : StRow lo hi g b K L (W.setCell ⟨b, x, none⟩ (.bool true)) c ws vs' :=
  ⟨h.1.keep (by rw [size_set]; exact Nat.le_refl _) (fun i i1 i2 => heap_other _ _ _ i (by intro e; simp at e; omega)), h.2.put hx e4⟩
theorem StRow.drop {lo hi g b K L x : Nat} {W : World} {c : Int} {ws vs vs' : List Nat} (h : StRow lo hi g b K L W c ws vs) (hb : b < lo ∨ hi ≤ b) (hx : x < K) (e4 : ∀ y, bitB vs' y = (bitB vs y && !decide (x = y))) : StRow lo hi g b K L (W.setCell ⟨b, x, none⟩ (.bool false)) c ws vs' :=
  ⟨h.1.keep (by rw [size_set]; exact Nat.le_refl _) (fun i i1 i2 => heap_other _ _ _ i (by intro e; simp at e; omega)), h.2.drop hx e4⟩
theorem St.puts {lo hi g b K L x j : Nat} {W W1 W2 : World} {c : Int} {ws : List Nat} (h : St lo hi g b K L W c ws) (hx : x + j ≤ K ∨ j = 0) (h1 : StRow lo hi g b K L W1 c ws (putN ws x j).1) (h2 : SetIs lo hi g W2 K (c + (putN ws x j).2) (putN ws x j).1) (ho : Only lo hi W1 W2) : St lo hi g b K L W2 (c + (putN ws x j).2) (putN ws x j).1 := by
  obtain ⟨hs, ha, hl, hc, hz, hb, hk⟩ := h
  rcases hx with hx | rfl
  · refine ⟨h2, h1.2.only ho hb, by rw [putN_len]; exact hl, ?_, fun y hy => ?_, hb, hk⟩
    · rw [putN_cnt ws x j K hx (by omega), hc]
    · rw [putN_bits ws x j y (by omega), hz y hy, decide_eq_false (by omega)]; rfl
  · refine ⟨h2, h1.2.only ho hb, by rw [putN_len]; exact hl, ?_, fun y hy => ?_, hb, hk⟩
    · rw [putN]; simp [hc]
    · rw [putN]; exact hz y hy
theorem St.drops {lo hi g b K L x j : Nat} {W W1 W2 : World} {c : Int} {ws : List Nat} (h : St lo hi g b K L W c ws) (hx : x + j ≤ K ∨ j = 0) (h1 : StRow lo hi g b K L W1 c ws (dropN ws x j).1) (h2 : SetIs lo hi g W2 K (c - (dropN ws x j).2) (dropN ws x j).1) (ho : Only lo hi W1 W2) : St lo hi g b K L W2 (c - (dropN ws x j).2) (dropN ws x j).1 := by
  obtain ⟨hs, ha, hl, hc, hz, hb, hk⟩ := h
  rcases hx with hx | rfl
  · refine ⟨h2, h1.2.only ho hb, by rw [dropN_len]; exact hl, ?_, fun y hy => ?_, hb, hk⟩
    · rw [dropN_cnt ws x j K hx (by omega), hc]
    · rw [dropN_bits ws x j y (by omega), hz y hy]; rfl
  · refine ⟨h2, h1.2.only ho hb, by rw [dropN_len]; exact hl, ?_, fun y hy => ?_, hb, hk⟩
    · rw [dropN]; simp [hc]
    · rw [dropN]; exact hz y hy
theorem St.grow {lo hi g b K L : Nat} {W W' : World} {c : Int} {ws : List Nat} (h : St lo hi g b K L W c ws) (hw : Below W.heap.size W W') : St lo hi g b K L W' c ws := by
  obtain ⟨hs, ha, hl, hc, hz, hb, hk⟩ := h
  exact ⟨hs.keep hw.size (fun i _ hi => hw.block i (by have := hs.1.2.2; omega)), ha.keep hw.size (hw.block _ ha.1), hl, hc, hz, hb, hk⟩
theorem other_bit {va vb : List Nat} (h : bitB va 0 ≠ bitB vb 0) : decide (va = vb) = false := decide_eq_false (fun e => h (by rw [e]))
theorem St.drops_le {lo hi g b K L x j : Nat} {W : World} {c : Int} {ws : List Nat} (h : St lo hi g b K L W c ws) (hx : x + j ≤ K ∨ j = 0) : (dropN ws x j).2 ≤ c := by
  obtain ⟨hs, ha, hl, hc, hz, hb, hk⟩ := h
  rcases hx with hx | rfl
  · have := dropN_cnt ws x j K hx (by omega)
    omega
  · rw [dropN]; simp; omega

set_option maxRecDepth 8000 in
set_option maxHeartbeats 4000000 in
theorem walkSetPlays (a0 : Int) (a1 : Option Addr) (len1 cap1 : Nat) (z1 : List Int) (w : World) (w0 : (Lit.int .i64 a0).wf = true) (w1 : IsRecs 3 w a1 len1 cap1 z1) (ht : TzTab w) :
    Calls Tryd.prog 3 #[.int .i64 a0, .slice a1 len1 cap1] w fun e w' => e = .returned (.bool true) ∧ Below w.heap.size w w' := by
  have T := Lib.hid ht; clear ht
  have HI := Lib.hid (w1.recs (by decide)); clear w1
  have e255 := and255 a0
  obtain ⟨K, hK⟩ : ∃ K : Nat, a0 % 256 = K := ⟨(a0 % 256).toNat, by omega⟩
  have hK2 : K < 256 := by omega
  rw [hK] at e255
  clear hK
  obtain ⟨L, hL⟩ : ∃ L : Nat, (((K : Int) + 63) / 64).toNat = L := ⟨_, rfl⟩
  have hKL : K ≤ 64 * L := by omega
  have HL := Lib.hid hL; clear hL
  have HKL := Lib.hid hKL; clear hKL
  obtain ⟨i0, hi0, hz0, hz1, hz2⟩ := info_parts infoBool
  have hmk := fun W : World => run_make (P := Tryd.prog) (w := W) 25 4 i0 (.bool false) Tryd.underlying25 hi0 hz0 .i64 .i64 (K : Int) (K : Int) (by omega) (by omega) (by rw [hz2]; omega) (by omega)
  simp only [Int.toNat_natCast, hz1] at hmk
  obtain ⟨m, hm1, hm2, hm3⟩ : ∃ m : Nat, m ≤ len1 ∧ m ≤ 40 ∧ (m < len1 → m = 40) := ⟨min len1 40, by omega, by omega, by omega⟩
  go_enter Tryd.func3, Tryd.ntmps3
  go_upto_region 2 with (fail)
  go_cut [6, 7] (fun v6 v7 wx => Hid (StartP w K L v6 v7 wx))
  case first =>
    go_region_with (go_at_call 8; refine (snew_any K K _ (by omega)).mono ?_; rintro e v1 ⟨g, rfl, hs, hb1⟩; rw [HL.out] at hs)
    all_goals
      go_wp2
      go_meet
      exact Lib.hid (by first | exact start_a hs ((Below.refl w.heap.size w).drew.trans hb1) HKL.out | exact start_b hs ((Below.refl _ _).drew.trans hb1) HKL.out)
  case rest =>
    obtain ⟨lo, hi, g, b, rfl, rfl, hst, hlo, hbl, hbx⟩ := hcut.out
    clear hcut
    have HST := Lib.hid hst
    have hdis : b < lo ∨ hi ≤ b := hst.2.2.2.2.2.1
    have hgl := hst.1.1
    obtain ⟨hg1, hg2, _⟩ := hgl
    clear hst
    go_wp2_with fail
    go_loopw [8] (fun v8 wr => ∃ (i : Nat) (c : Int) (ws : List Nat), i ≤ m ∧ v8 = .int .i64 i ∧ Hid (St lo hi g b K L wr c ws) ∧ Below w.heap.size w wr) (fun i _ => m - (intOf i).toNat)
    case atStart => exact ⟨0, 0, _, by omega, rfl, HST, hbx⟩
    case round =>
      clear HST
      obtain ⟨i, c, ws, him, rfl, HS, hbel⟩ := hrel
      by_cases hlt : i < m
      · obtain ⟨_, _, hin⟩ := HI.out.below hbel
        rcases hin with h0 | ⟨rb, off, rfl, hrl, hrm, hrc⟩
        · exfalso; omega
        · have r0 := hrc (i * 3) (by omega)
          have r1 := hrc (i * 3 + 1) (by omega)
          have r2 := hrc (i * 3 + 2) (by omega)
          rw [← Nat.add_assoc] at r1 r2
          clear hrc
          have HIx := HI
          clear HI
          generalize z1.getD (i * 3) 0 = A0 at *
          generalize z1.getD (i * 3 + 1) 0 = A1 at *
          generalize z1.getD (i * 3 + 2) 0 = A2 at *
          have f1 := and511 A1
          have f2 := and127 A2
          have f0 := and1 A0
          have s0 : 0 ≤ A1 % 512 := Int.emod_nonneg _ (by decide)
          have s1 : A1 % 512 < 512 := Int.emod_lt_of_pos _ (by decide)
          have s2 : 0 ≤ A2 % 128 := Int.emod_nonneg _ (by decide)
          have s3 : A2 % 128 < 128 := Int.emod_lt_of_pos _ (by decide)
          have s4 : A0 % 2 = 0 ∨ A0 % 2 = 1 := by omega
          generalize A1 % 512 = p at *
          generalize A2 % 128 = q at *
          generalize A0 % 2 = t at *
          obtain ⟨S2, hS2⟩ : ∃ S2, bits .and .i64 A0 2 = S2 := ⟨_, rfl⟩
          obtain ⟨x, hx⟩ : ∃ x, p - 100 = x := ⟨_, rfl⟩
          obtain ⟨y, hy⟩ : ∃ y, q - 10 = y := ⟨_, rfl⟩
          have x0 : -100 ≤ x ∧ x ≤ 411 := by omega
          have y0 : -10 ≤ y ∧ y ≤ 117 := by omega
          obtain ⟨x0, x1⟩ := x0
          obtain ⟨y0, y1⟩ := y0
          have t1 : (i : Int) < len1 := by omega
          have t2 : (i : Int) < 40 := by omega
          go_wp2_with fail
          go_quiet (fail)
          have HS2 : Hid (St lo hi g b K L (wr.drewN nq) c ws) := Lib.hid HS.out
          clear HS
          have HS := HS2; clear HS2
          have r3 : (wr.drewN nq).cell? ⟨rb, off + i * 3, none⟩ = some (.int .i64 A0) := r0
          have hbel3 := below_drewN hbel nq
          clear r0 r1 r2 hbel
          have hbel := hbel3; clear hbel3
          generalize wr.drewN nq = wr at *
          clear f1 f2 hx hy s0 s1 s2 s3
          by_cases hS : S2 = 0
          · have hS' : (S2 == 0) = true := by simp [hS]
            clear hS
            by_cases hin : 0 ≤ x ∧ x < K
            · as_aux_lemma =>
                obtain ⟨h0, h1⟩ := hin
                obtain ⟨X, rfl⟩ : ∃ X : Nat, x = X := ⟨x.toNat, by omega⟩
                have X2 : (X : Int).toNat = X := Int.toNat_natCast X
                have X3 : (X : Int) ≤ K - 1 := by omega
                obtain ⟨k1, k2⟩ := HS.out.2.1.2 X (by omega)
                obtain ⟨B, hB⟩ : ∃ B, bitB ws X = B := ⟨_, rfl⟩
                rw [hB] at k1
                have HB := Lib.hid hB; clear hB
                rcases s4 with rfl | rfl
                · cases B
                  all_goals
                    go_wp2_with fail
                    refine (sput_any lo hi g _ K c X ws HS.out.1 (by omega) (by have := HS.out.bd; omega)).mono ?_
                    rintro e v2 ⟨c', ws', rfl, hs2, ho2, -, -, e1, e2, e3, e4⟩
                    have HSN := Lib.hid (HS.out.put (by omega) hs2 ho2 e1 e2 e3 e4)
                    obtain ⟨k3, k4⟩ := (HS.out.2.1.only ho2 hdis).2 X (by omega)
                    have hbel2 := below_only hbel ho2 hlo
                    clear hs2 e1 e2 e3 e4
                    rw [HB.out]
                    go_wp2_with fail
                    go_roundw
                    case rel => exact ⟨i + 1, c', ws', by omega, by go_num, HSN, hbel2.setCell (by omega) _⟩
                    case measure => simp [intOf]; omega
                · cases B
                  all_goals
                    go_wp2_with fail
                    refine (sdrop_any lo hi g _ K c X ws HS.out.1 (by omega) ⟨by have := HS.out.bd; omega, fun hb => HS.out.one hb (by omega)⟩).mono ?_
                    rintro e v2 ⟨c', ws', rfl, hs2, ho2, -, -, e1, e2, e3, e4⟩
                    have HSN := Lib.hid (HS.out.drop (by omega) hs2 ho2 e1 e2 e3 e4)
                    obtain ⟨k3, k4⟩ := (HS.out.2.1.only ho2 hdis).2 X (by omega)
                    have hbel2 := below_only hbel ho2 hlo
                    clear hs2 e1 e2 e3 e4
                    rw [HB.out]
                    go_wp2_with fail
                    go_roundw
                    case rel => exact ⟨i + 1, c', ws', by omega, by go_num, HSN, hbel2.setCell (by omega) _⟩
                    case measure => simp [intOf]; omega
            · as_aux_lemma =>
                have HN := Lib.hid hin
                have hin2 : ¬ 0 ≤ x ∨ (0 ≤ x ∧ ¬ x < K) := by omega
                clear hin
                rcases s4 with rfl | rfl
                · rcases hin2 with h1 | ⟨h1, h2⟩
                  all_goals
                    go_wp2_with fail
                    refine (sput_no lo hi g _ K c x ws HS.out.1 (.inl HN.out)).mono ?_
                    rintro e w' ⟨rfl, rfl⟩
                    go_wp2_with fail
                    go_roundw
                    case rel => exact ⟨i + 1, c, ws, by omega, by go_num, HS, hbel⟩
                    case measure => simp [intOf]; omega
                · rcases hin2 with h1 | ⟨h1, h2⟩
                  all_goals
                    go_wp2_with fail
                    refine (sdrop_no lo hi g _ K c x ws HS.out.1 (by rw [decide_eq_false HN.out]; rfl)).mono ?_
                    rintro e w' ⟨rfl, rfl⟩
                    go_wp2_with fail
                    go_roundw
                    case rel => exact ⟨i + 1, c, ws, by omega, by go_num, HS, hbel⟩
                    case measure => simp [intOf]; omega
          · have hS' : (S2 == 0) = false := by rw [beq_eq_false_iff_ne]; exact hS
            clear hS
            by_cases hx0 : x < 0
            · as_aux_lemma =>
                have hx1 : ¬ 0 ≤ x := by omega
                have hx2 : x ≤ 0 := by omega
                rcases s4 with rfl | rfl
                ·
                  go_wp2_with fail
                  go_loop [15, 17] (fun v15 v17 => v15 = .int .i64 0 ∧ v17 = .int .i64 0) (fun _ _ => 0)
                  case atStart => exact ⟨rfl, rfl⟩
                  case round =>
                    obtain ⟨rfl, rfl⟩ := hrel
                    go_wp2_with fail
                    refine (sputall lo hi g _ K c x y ws HS.out.1 (by have := HS.out.bd; omega)).mono ?_
                    rintro e v2 ⟨rfl, hs2, ho2⟩
                    rw [sJ_neg K x y hx0] at hs2 ⊢
                    have HSN := Lib.hid (HS.out.puts (.inr rfl) (by rw [putN]; exact HS.out.row) hs2 ho2)
                    have hbel2 := below_only hbel ho2 hlo
                    have hz0' : (putN ws x.toNat 0).2 = 0 := rfl
                    rw [hz0'] at HSN ⊢
                    clear hs2
                    go_wp2_with fail
                    go_roundw
                    case rel => exact ⟨i + 1, _, _, by omega, by go_num, HSN, hbel2⟩
                    case measure => simp [intOf]; omega
                ·
                  go_wp2_with fail
                  go_loop [15, 17] (fun v15 v17 => v15 = .int .i64 0 ∧ v17 = .int .i64 0) (fun _ _ => 0)
                  case atStart => exact ⟨rfl, rfl⟩
                  case round =>
                    obtain ⟨rfl, rfl⟩ := hrel
                    go_wp2_with fail
                    refine (sdropall lo hi g _ K c x y ws HS.out.1 (by have := HS.out.bd; rw [sJ_neg K x y hx0, dropN]; simp; omega)).mono ?_
                    rintro e v2 ⟨rfl, hs2, ho2⟩
                    rw [sJ_neg K x y hx0] at hs2 ⊢
                    have HSN := Lib.hid (HS.out.drops (.inr rfl) (by rw [dropN]; exact HS.out.row) hs2 ho2)
                    have hbel2 := below_only hbel ho2 hlo
                    have hz0' : (dropN ws x.toNat 0).2 = 0 := rfl
                    rw [hz0'] at HSN ⊢
                    clear hs2
                    go_wp2_with fail
                    go_roundw
                    case rel => exact ⟨i + 1, _, _, by omega, by go_num, HSN, hbel2⟩
                    case measure => simp [intOf]; omega
            · as_aux_lemma =>
                obtain ⟨X, rfl⟩ : ∃ X : Nat, x = X := ⟨x.toNat, by omega⟩
                obtain ⟨j1, j2, j3⟩ := sJ_nat K X y
                obtain ⟨J, hJ⟩ : ∃ J, sJ K X y = J := ⟨_, rfl⟩
                rw [hJ] at j1 j2 j3
                have HJ := Lib.hid hJ; have HJ1 := Lib.hid j1; have HJ2 := Lib.hid j2; have HJ3 := Lib.hid j3
                clear hJ j1 j2 j3
                have hx3 : (0 : Int) ≤ X := by omega
                rcases s4 with rfl | rfl
                ·
                    go_wp2_with fail
                    go_loopw [15, 17] (fun v15 v17 wx => ∃ j : Nat, j ≤ J ∧ v15 = .int .i64 (putN ws X j).2 ∧ v17 = .int .i64 ((X : Int) + j) ∧ Hid (StRow lo hi g b K L wx c ws (putN ws X j).1) ∧ Below w.heap.size w wx) (fun _ v17 _ => ((X : Int) + J - intOf v17).toNat)
                    case atStart => exact ⟨0, by omega, rfl, congrArg (Value.int .i64) (by omega), Lib.hid HS.out.row, hbel⟩
                    case round =>
                      obtain ⟨j, hj, rfl, rfl, HR, hbj⟩ := hrel
                      have hbd := putN_bd ws X j
                      obtain ⟨u0, u1⟩ := hbd
                      by_cases hjJ : j < J
                      · obtain ⟨l1, l2⟩ := HJ1.out j hjJ
                        have hnx := putN_next (ws := ws) (x := X) (j := j) (by have := HS.out.2.2.1; have := HS.out.2.2.2.2.2.2; omega)
                        obtain ⟨n1, n2⟩ := hnx
                        have HN1 := Lib.hid n1
                        obtain ⟨k1, k2⟩ := HR.out.2.2 (X + j) (by omega)
                        obtain ⟨B, hB⟩ : ∃ B, bitB (putN ws X j).1 (X + j) = B := ⟨_, rfl⟩
                        rw [hB] at k1 n2
                        have HN2 := Lib.hid n2
                        clear n1 n2 hB
                        generalize (putN ws X j).2 = u at *
                        have X2 : ((X : Int) + (j : Int)).toNat = X + j := by omega
                        have X0 : (0 : Int) ≤ (X : Int) + (j : Int) := by omega
                        have hm : (X : Int) + y ≤ K ∨ (K : Int) < X + y := by omega
                        rcases hm with hm | hm <;> cases B
                        all_goals
                          go_wp2_with fail
                          go_roundw
                          case rel => exact ⟨j + 1, by omega, by rw [HN2.out]; simp, by go_num, Lib.hid (HR.out.put hdis (by omega) HN1.out), hbj.setCell (by omega) _⟩
                          case measure => simp [intOf]; omega
                      · obtain rfl : j = J := by omega
                        rcases HJ2.out with ⟨l0, l1⟩ | ⟨l0, l1⟩
                        all_goals
                          go_wp2_with fail
                          refine (sputall lo hi g _ K c X y ws HR.out.1 (by have := HS.out.bd; omega)).mono ?_
                          rintro e v2 ⟨rfl, hs2, ho2⟩
                          rw [Int.toNat_natCast, HJ.out] at hs2 ⊢
                          have HSN := Lib.hid (HS.out.puts HJ3.out HR.out hs2 ho2)
                          have hbel2 := below_only hbj ho2 hlo
                          clear hs2
                          have HU := Lib.hid (⟨_, rfl⟩ : ∃ u, (putN ws X j).2 = u)
                          go_wp2_with fail
                          go_roundw
                          case rel => exact ⟨i + 1, _, _, by omega, by go_num, HSN, hbel2⟩
                          case measure => simp [intOf]; omega
                ·
                    go_wp2_with fail
                    go_loopw [15, 17] (fun v15 v17 wx => ∃ j : Nat, j ≤ J ∧ v15 = .int .i64 (dropN ws X j).2 ∧ v17 = .int .i64 ((X : Int) + j) ∧ Hid (StRow lo hi g b K L wx c ws (dropN ws X j).1) ∧ Below w.heap.size w wx) (fun _ v17 _ => ((X : Int) + J - intOf v17).toNat)
                    case atStart => exact ⟨0, by omega, rfl, congrArg (Value.int .i64) (by omega), Lib.hid HS.out.row, hbel⟩
                    case round =>
                      obtain ⟨j, hj, rfl, rfl, HR, hbj⟩ := hrel
                      have hbd := dropN_bd ws X j
                      obtain ⟨u0, u1⟩ := hbd
                      by_cases hjJ : j < J
                      · obtain ⟨l1, l2⟩ := HJ1.out j hjJ
                        have hnx := dropN_next (ws := ws) (x := X) (j := j) (by have := HS.out.2.2.1; have := HS.out.2.2.2.2.2.2; omega)
                        obtain ⟨n1, n2⟩ := hnx
                        have HN1 := Lib.hid n1
                        obtain ⟨k1, k2⟩ := HR.out.2.2 (X + j) (by omega)
                        obtain ⟨B, hB⟩ : ∃ B, bitB (dropN ws X j).1 (X + j) = B := ⟨_, rfl⟩
                        rw [hB] at k1 n2
                        have HN2 := Lib.hid n2
                        clear n1 n2 hB
                        generalize (dropN ws X j).2 = u at *
                        have X2 : ((X : Int) + (j : Int)).toNat = X + j := by omega
                        have X0 : (0 : Int) ≤ (X : Int) + (j : Int) := by omega
                        have hm : (X : Int) + y ≤ K ∨ (K : Int) < X + y := by omega
                        rcases hm with hm | hm <;> cases B
                        all_goals
                          go_wp2_with fail
                          go_roundw
                          case rel => exact ⟨j + 1, by omega, by rw [HN2.out]; simp, by go_num, Lib.hid (HR.out.drop hdis (by omega) HN1.out), hbj.setCell (by omega) _⟩
                          case measure => simp [intOf]; omega
                      · obtain rfl : j = J := by omega
                        rcases HJ2.out with ⟨l0, l1⟩ | ⟨l0, l1⟩
                        all_goals
                          go_wp2_with fail
                          refine (sdropall lo hi g _ K c X y ws HR.out.1 ⟨by rw [Int.toNat_natCast, HJ.out]; exact HS.out.drops_le HJ3.out, by have := HS.out.bd; omega⟩).mono ?_
                          rintro e v2 ⟨rfl, hs2, ho2⟩
                          rw [Int.toNat_natCast, HJ.out] at hs2 ⊢
                          have HSN := Lib.hid (HS.out.drops HJ3.out HR.out hs2 ho2)
                          have hbel2 := below_only hbj ho2 hlo
                          clear hs2
                          have HU := Lib.hid (⟨_, rfl⟩ : ∃ u, (dropN ws X j).2 = u)
                          go_wp2_with fail
                          go_roundw
                          case rel => exact ⟨i + 1, _, _, by omega, by go_num, HSN, hbel2⟩
                          case measure => simp [intOf]; omega
      ·
        obtain ⟨C, hC⟩ : ∃ C, cntB ws K = C := ⟨_, rfl⟩
        obtain rfl : c = (C : Int) := by rw [← hC]; exact HS.out.2.2.2.1
        have HC := Lib.hid hC
        have hCK : C ≤ K := by rw [← hC]; exact cntB_le ws K
        clear hC
        obtain rfl : i = m := by omega
        have hend : ¬ (i : Int) < len1 ∨ ((i : Int) < len1 ∧ ¬ (i : Int) < 40) := by omega
        rcases hend with hend | ⟨hend1, hend⟩
        all_goals
          as_aux_lemma =>
            go_wp2_with fail
            refine (slist_any lo hi g _ C K ws HS.out.1 HS.out.2.2.2.2.1 (T.out.later hbel)).mono ?_
            rintro e v3 ⟨la, lc, rfl, hl3, hb3⟩
            rw [listB_len, HC.out] at hl3 ⊢
            have hbel3 := hbel.trans (hb3.mono hbel.size)
            have HS3 : Hid (St lo hi g b K L v3 C ws) := Lib.hid (HS.out.grow hb3)
            obtain ⟨_, hlr⟩ := hl3
            have HLR := Lib.hid hlr
            clear hlr hb3
            go_wp2_with fail
            go_loopw [18, 20] (fun v18 v20 wx => ∃ x q : Nat, x ≤ K ∧ v18 = .int .i64 (cntB ws x : Nat) ∧ v20 = .int .i64 x ∧ wx = v3.drewN q) (fun _ v20 _ => K - (intOf v20).toNat)
            case atStart => exact ⟨0, 0, by omega, rfl, rfl, rfl⟩
            case round =>
              obtain ⟨x, q, hx, rfl, rfl, hwx⟩ := hrel
              have HW := Lib.hid hwx
              have HSx : Hid (St lo hi g b K L wr C ws) := Lib.hid (by rw [hwx]; exact HS3.out)
              have hbelx : Below w.heap.size w wr := by rw [hwx]; exact below_drewN hbel3 q
              clear hwx
              by_cases hxK : x < K
              · have x1 : (x : Int) < K := by omega
                have x0 : (0 : Int) ≤ (x : Int) := by omega
                have x2 : (x : Int).toNat = x := Int.toNat_natCast x
                obtain ⟨k1, k2⟩ := HSx.out.2.1.2 x hxK
                obtain ⟨B, hB⟩ : ∃ B, bitB ws x = B := ⟨_, rfl⟩
                rw [hB] at k1
                have HH := Lib.hid (fun q => shas_is B lo hi g (wr.drewN q) K C x ws (show SetIs lo hi g (wr.drewN q) K C ws from HSx.out.1) (by rw [Int.toNat_natCast, hB, decide_eq_true ⟨by omega, x1⟩, Bool.true_and]))
                have hnx : cntB ws (x + 1) = cntB ws x + if B then 1 else 0 := by rw [cntB, hB]
                have hcx : cntB ws x ≤ 300 := by have := cntB_le ws x; omega
                cases B
                · clear hB
                  have HNX := Lib.hid hnx; clear hnx
                  obtain ⟨Cx, hCx⟩ : ∃ Cx, cntB ws x = Cx := ⟨_, rfl⟩
                  rw [hCx] at HNX hcx ⊢
                  clear hCx
                  go_wp2_with fail
                  go_quiet (exact Calls.quiet_of_same ((HH.out _).mono fun _ _ ⟨he, hm⟩ => ⟨he, hm.symm⟩))
                  go_wp2_with fail
                  go_roundw
                  case rel => exact ⟨x + 1, q + nq, by omega, by rw [HNX.out]; simp, by go_num, by rw [HW.out]; exact stillN _ _ _⟩
                  case measure => simp [intOf]; omega
                · obtain ⟨c1, c2⟩ := listB_at hxK hB
                  rw [HC.out] at c1
                  clear hB
                  rcases HLR.out with h0 | ⟨lb, loff, rfl, hlb, _, hcell⟩
                  · exfalso; omega
                  · have k3 : wr.cell? ⟨lb, loff + cntB ws x, none⟩ = some (.int .i64 x) := by
                      rw [HW.out, ← c2]; exact hcell (cntB ws x) c1
                    have HNX := Lib.hid hnx
                    clear hcell hnx c2
                    obtain ⟨Cx, hCx⟩ : ∃ Cx, cntB ws x = Cx := ⟨_, rfl⟩
                    rw [hCx] at HNX hcx k3 c1 ⊢
                    clear hCx
                    have d1 : decide ((C : Int) ≤ (Cx : Int)) = false := decide_eq_false (by omega)
                    have d2 : (0 : Int) ≤ (Cx : Int) := by omega
                    have d3 : (Cx : Int) < C := by omega
                    have d4 : (Cx : Int).toNat = Cx := Int.toNat_natCast Cx
                    go_wp2_with fail
                    go_quiet (exact Calls.quiet_of_same ((HH.out _).mono fun _ _ ⟨he, hm⟩ => ⟨he, hm.symm⟩))
                    go_wp2_with fail
                    go_roundw
                    case rel => exact ⟨x + 1, q + nq, by omega, by rw [HNX.out]; go_num, by go_num, by rw [HW.out]; exact stillN _ _ _⟩
                    case measure => simp [intOf]; omega
              · obtain rfl : x = K := by omega
                rw [HC.out]
                go_wp2_with fail
                refine (stwin_any lo hi g wr x C ws HSx.out.1).mono ?_
                rintro e v4 ⟨g', rfl, ht4, hb4⟩
                have HSs4 : Hid (SetIs lo hi g v4 x C ws) := Lib.hid (HSx.out.1.keep hb4.size (fun i _ hi => hb4.block i (by have := HSx.out.1.1.2.2; exact Nat.lt_of_lt_of_le hi this)))
                have hbel4 : Below w.heap.size w v4 := hbelx.trans (hb4.mono hbelx.size)
                obtain ⟨lo', hlo'⟩ : ∃ lo', wr.heap.size = lo' := ⟨_, rfl⟩
                obtain ⟨hi', hhi'⟩ : ∃ hi', v4.heap.size = hi' := ⟨_, rfl⟩
                have hhl : hi ≤ lo' := by rw [← hlo']; exact HSx.out.1.1.2.2
                rw [hlo', hhi'] at ht4
                have HSt4 := Lib.hid ht4
                have hwl : w.heap.size ≤ lo' := by rw [← hlo']; exact hbelx.size
                clear hlo' hhi' ht4 hb4
                go_wp2_with fail
                refine (ssame_is true lo hi g lo' hi' g' _ x C C ws ws HSs4.out HSt4.out rfl (decide_eq_true rfl)).mono ?_
                rintro e w' ⟨rfl, q4, rfl⟩
                have HSs5 : Hid (SetIs lo hi g (v4.drewN q4) x C ws) := Lib.hid HSs4.out
                have HSt5 : Hid (SetIs lo' hi' g' (v4.drewN q4) x C ws) := Lib.hid HSt4.out
                have hbel5 := below_drewN hbel4 q4
                clear HSs4 HSt4 hbel4
                generalize v4.drewN q4 = v5 at *
                by_cases hx0 : x = 0
                · have HX0 := Lib.hid hx0; clear hx0
                  go_wp2_with fail
                  refine (sput_no lo' hi' g' _ x C 0 ws HSt5.out (.inl (by have := HX0.out; omega))).mono ?_
                  rintro e w' ⟨rfl, rfl⟩
                  go_wp2_with fail
                  refine (sdrop_no lo' hi' g' _ x C 0 ws HSt5.out (by rw [decide_eq_false (by have := HX0.out; omega)]; rfl)).mono ?_
                  rintro e w' ⟨rfl, rfl⟩
                  have HSs6 := HSs5; have HSt6 := HSt5; have hbel6 := hbel5
                  go_wp2_with fail
                  refine (s02awake_any _ (T.out.later hbel6)).mono ?_
                  rintro e v7 ⟨rfl, hb7⟩
                  have hbel7 := hbel6.trans (hb7.mono hbel6.size)
                  have HSs7 : Hid (SetIs lo hi g v7 x C ws) := Lib.hid (HSs6.out.keep hb7.size (fun i _ hi => hb7.block i (by have := HSs6.out.1.2.2; omega)))
                  have HSt7 : Hid (SetIs lo' hi' g' v7 x C ws) := Lib.hid (HSt6.out.keep hb7.size (fun i _ hi => hb7.block i (by have := HSt6.out.1.2.2; omega)))
                  clear hb7
                  go_wp2_with fail
                  refine (scount_any lo hi g _ x C ws HSs7.out).mono ?_
                  rintro e w' ⟨rfl, rfl⟩
                  go_wp2_with fail
                  refine (sroom_any lo hi g _ x C ws HSs7.out).mono ?_
                  rintro e w' ⟨rfl, rfl⟩
                  go_wp2_with fail
                  refine (ssame_is true lo hi g lo' hi' g' _ x C C ws ws HSs7.out HSt7.out rfl (decide_eq_true rfl)).mono ?_
                  rintro e w' ⟨rfl, q7, rfl⟩
                  go_wp2_with fail
                  refine (shas_is false lo hi g _ x C (-1) ws (show SetIs lo hi g (v7.drewN q7) x C ws from HSs7.out) (by rw [decide_eq_false (by omega)]; rfl)).mono ?_
                  rintro e w' ⟨rfl, rfl⟩
                  go_wp2_with fail
                  refine (shas_is false lo hi g _ x C x ws (show SetIs lo hi g (v7.drewN q7) x C ws from HSs7.out) (by rw [decide_eq_false (by omega)]; rfl)).mono ?_
                  rintro e w' ⟨rfl, rfl⟩
                  go_wp2
                  go_ret
                  exact ⟨rfl, below_drewN hbel7 _⟩
                · cases hb0 : bitB ws 0
                  · go_wp2_with fail
                    refine (sput_any lo' hi' g' _ x C 0 ws HSt5.out (by omega) (by omega)).mono ?_
                    rintro e v6 ⟨c6, ws6, rfl, hs6, ho6, -, -, -, -, hl6, hb6⟩
                    have hD : bitB ws 0 ≠ bitB ws6 0 := by rw [hb6 0, hb0]; simp
                    rw [hb0]
                    have HD := Lib.hid hD; have HL6 := Lib.hid hl6; have HSt6 := Lib.hid hs6
                    have HSs6 : Hid (SetIs lo hi g v6 x C ws) := Lib.hid (HSs5.out.keep (Nat.le_of_eq ho6.2.1.symm) (fun i _ hi => ho6.1.block i (by omega)))
                    have hbel6 := below_only hbel5 ho6 hwl
                    clear hD hl6 hs6 ho6 hb6 hb0
                    go_wp2_with fail
                    refine (s02awake_any _ (T.out.later hbel6)).mono ?_
                    rintro e v7 ⟨rfl, hb7⟩
                    have hbel7 := hbel6.trans (hb7.mono hbel6.size)
                    have HSs7 : Hid (SetIs lo hi g v7 x C ws) := Lib.hid (HSs6.out.keep hb7.size (fun i _ hi => hb7.block i (by have := HSs6.out.1.2.2; omega)))
                    have HSt7 : Hid (SetIs lo' hi' g' v7 x c6 ws6) := Lib.hid (HSt6.out.keep hb7.size (fun i _ hi => hb7.block i (by have := HSt6.out.1.2.2; omega)))
                    clear hb7
                    go_wp2_with fail
                    refine (scount_any lo hi g _ x C ws HSs7.out).mono ?_
                    rintro e w' ⟨rfl, rfl⟩
                    go_wp2_with fail
                    refine (sroom_any lo hi g _ x C ws HSs7.out).mono ?_
                    rintro e w' ⟨rfl, rfl⟩
                    go_wp2_with fail
                    refine (ssame_is false lo hi g lo' hi' g' _ x C c6 ws ws6 HSs7.out HSt7.out HL6.out.symm (other_bit HD.out)).mono ?_
                    rintro e w' ⟨rfl, q7, rfl⟩
                    go_wp2_with fail
                    refine (shas_is false lo hi g _ x C (-1) ws (show SetIs lo hi g (v7.drewN q7) x C ws from HSs7.out) (by rw [decide_eq_false (by omega)]; rfl)).mono ?_
                    rintro e w' ⟨rfl, rfl⟩
                    go_wp2_with fail
                    refine (shas_is false lo hi g _ x C x ws (show SetIs lo hi g (v7.drewN q7) x C ws from HSs7.out) (by rw [decide_eq_false (by omega)]; rfl)).mono ?_
                    rintro e w' ⟨rfl, rfl⟩
                    go_wp2
                    go_ret
                    exact ⟨rfl, below_drewN hbel7 _⟩
                  · go_wp2_with fail
                    refine (sput_no lo' hi' g' _ x C 0 ws HSt5.out (.inr hb0)).mono ?_
                    rintro e w' ⟨rfl, rfl⟩
                    go_wp2_with fail
                    refine (sdrop_any lo' hi' g' _ x C 0 ws HSt5.out (by omega) ⟨by omega, fun _ => HS.out.one hb0 (by omega)⟩).mono ?_
                    rintro e v6 ⟨c6, ws6, rfl, hs6, ho6, -, -, -, -, hl6, hb6⟩
                    have hD : bitB ws 0 ≠ bitB ws6 0 := by rw [hb6 0, hb0]; simp
                    rw [hb0]
                    have HD := Lib.hid hD; have HL6 := Lib.hid hl6; have HSt6 := Lib.hid hs6
                    have HSs6 : Hid (SetIs lo hi g v6 x C ws) := Lib.hid (HSs5.out.keep (Nat.le_of_eq ho6.2.1.symm) (fun i _ hi => ho6.1.block i (by omega)))
                    have hbel6 := below_only hbel5 ho6 hwl
                    clear hD hl6 hs6 ho6 hb6 hb0
                    go_wp2_with fail
                    refine (s02awake_any _ (T.out.later hbel6)).mono ?_
                    rintro e v7 ⟨rfl, hb7⟩
                    have hbel7 := hbel6.trans (hb7.mono hbel6.size)
                    have HSs7 : Hid (SetIs lo hi g v7 x C ws) := Lib.hid (HSs6.out.keep hb7.size (fun i _ hi => hb7.block i (by have := HSs6.out.1.2.2; omega)))
                    have HSt7 : Hid (SetIs lo' hi' g' v7 x c6 ws6) := Lib.hid (HSt6.out.keep hb7.size (fun i _ hi => hb7.block i (by have := HSt6.out.1.2.2; omega)))
                    clear hb7
                    go_wp2_with fail
                    refine (scount_any lo hi g _ x C ws HSs7.out).mono ?_
                    rintro e w' ⟨rfl, rfl⟩
                    go_wp2_with fail
                    refine (sroom_any lo hi g _ x C ws HSs7.out).mono ?_
                    rintro e w' ⟨rfl, rfl⟩
                    go_wp2_with fail
                    refine (ssame_is false lo hi g lo' hi' g' _ x C c6 ws ws6 HSs7.out HSt7.out HL6.out.symm (other_bit HD.out)).mono ?_
                    rintro e w' ⟨rfl, q7, rfl⟩
                    go_wp2_with fail
                    refine (shas_is false lo hi g _ x C (-1) ws (show SetIs lo hi g (v7.drewN q7) x C ws from HSs7.out) (by rw [decide_eq_false (by omega)]; rfl)).mono ?_
                    rintro e w' ⟨rfl, rfl⟩
                    go_wp2_with fail
                    refine (shas_is false lo hi g _ x C x ws (show SetIs lo hi g (v7.drewN q7) x C ws from HSs7.out) (by rw [decide_eq_false (by omega)]; rfl)).mono ?_
                    rintro e w' ⟨rfl, rfl⟩
                    go_wp2
                    go_ret
                    exact ⟨rfl, below_drewN hbel7 _⟩
end Go.Proofs.YtgjahmdfkbdcpaaDoor
