/- The row of bools beside a paint; what bytes do, one by one. -/
import Derived.Test.YtfeinfmfbbpbjaaDoorPaintZ
import Derived.Test.YtfeinfmfbbpbjaaDoorPaintR
import Derived.Test.YtfeinfmfbbpbjaaDoorRecs
import Derived.Deep.WholeRow
import Derived.Deep.DeepCutAuto
import Derived.Deep.RegionWith
import Derived.Deep.QuietTactic
import Derived.WalkSmall
import Derived.Laws.Tables
namespace Go.Proofs.YtfeinfmfbbpbjaaDoor
open Go.RowKit
set_option linter.unusedVariables false
set_option linter.unusedSimpArgs false

/-- A row of bools at block b says which of the first K numbers are in it. -/
def ArrS (b K : Nat) (W : World) (ws : List Nat) : Prop :=
  b < W.heap.size ∧ ∀ i, i < K → W.cell? ⟨b, i, none⟩ = some (.bool (bitB ws i)) ∧ W.frozen? ⟨b, i, none⟩ = false
theorem ArrS.set_ {b K : Nat} {W : World} {ws ws' : List Nat} {x : Nat} {v : Bool} (h : ArrS b K W ws) (hx : x < K) (h1 : bitB ws' x = v) (hb : ∀ y, y ≠ x → bitB ws' y = bitB ws y) : ArrS b K (W.setCell ⟨b, x, none⟩ (.bool v)) ws' := by
  refine ⟨by rw [size_set]; exact h.1, fun i hi => ?_⟩
  obtain ⟨k1, k2⟩ := h.2 i hi
  refine ⟨?_, by simp [k2]⟩
  by_cases e : x = i
  · subst e
    rw [World.cell?_setCell_same _ _ _ k1, h1]
  · rw [World.cell?_setCell_other _ _ _ _ (by intro q; injection q with _ q; exact e q), k1, hb i (fun q => e q.symm)]
theorem ArrS.put {b K : Nat} {W : World} {ws ws' : List Nat} {x : Nat} (h : ArrS b K W ws) (hx : x < K) (hb : ∀ y, bitB ws' y = (bitB ws y || decide (x = y))) : ArrS b K (W.setCell ⟨b, x, none⟩ (.bool true)) ws' :=
  h.set_ hx (by rw [hb, decide_eq_true rfl, Bool.or_true]) (fun y e => by rw [hb, decide_eq_false (fun q => e q.symm), Bool.or_false])
theorem ArrS.drop {b K : Nat} {W : World} {ws ws' : List Nat} {x : Nat} (h : ArrS b K W ws) (hx : x < K) (hb : ∀ y, bitB ws' y = (bitB ws y && !decide (x = y))) : ArrS b K (W.setCell ⟨b, x, none⟩ (.bool false)) ws' :=
  h.set_ hx (by rw [hb, decide_eq_true rfl, Bool.not_true, Bool.and_false]) (fun y e => by rw [hb, decide_eq_false (fun q => e q.symm), Bool.not_false, Bool.and_true])
theorem ArrS.keep {b K : Nat} {W W' : World} {ws : List Nat} (h : ArrS b K W ws) (hs : W.heap.size ≤ W'.heap.size) (hk : W'.heap[b]? = W.heap[b]?) : ArrS b K W' ws := by
  refine ⟨Nat.lt_of_lt_of_le h.1 hs, fun i hi => ?_⟩
  obtain ⟨h1, h2⟩ := h.2 i hi
  exact ⟨(World.cell?_of_block hk).trans h1, (World.frozen?_of_block hk).trans h2⟩
theorem ArrS.same {b K : Nat} {W : World} {ws ws' : List Nat} (h : ArrS b K W ws) (hb : ∀ y, y < K → bitB ws' y = bitB ws y) : ArrS b K W ws' :=
  ⟨h.1, fun i hi => by rw [hb i hi]; exact h.2 i hi⟩

def arrZ : Array Value := Array.replicate 64 (.bool false)
theorem arrInfo : (Tryd.prog.info? 26).map (fun i => (i.zero, i.size)) = some (some (.agg arrZ), 64) := by kernel_rfl
theorem arrBuilt : Tryd.prog.built 26 ((#[] : Array (Nat × Value)).toList) = some arrZ := by kernel_rfl
theorem arrOne : arrZ.all (·.oneCell') = true := by kernel_rfl
theorem arrSize : arrZ.size = 64 := by simp [arrZ]
theorem arrAt (i : Nat) (h : i < 64) : arrZ[i]? = some (.bool false) := by simp [arrZ, h]

/-- How many granules the first k bytes of a stretch touch, from the byte B on. -/
def jk (B k : Nat) : Nat := if k = 0 then 0 else (B + k - 1) / 16 - B / 16 + 1
theorem jk_step (B k : Nat) : (B / 16 + jk B k = (B + k) / 16 ∧ jk B (k + 1) = jk B k + 1) ∨ (B / 16 + jk B k = (B + k) / 16 + 1 ∧ jk B (k + 1) = jk B k ∧ 0 < jk B k) := by
  unfold jk
  by_cases h : k = 0
  · subst h; simp
  · rw [if_neg h, if_neg (by omega), show B + (k + 1) - 1 = B + k by omega]
    omega

/-- Numbers are put in, or taken out. -/
def goN (P : Bool) (ws : List Nat) (x j : Nat) : List Nat × Int := match P with
  | true => putN ws x j
  | false => dropN ws x j
theorem goN_bits (P : Bool) (ws : List Nat) (x j y : Nat) (h : x + j ≤ 64 * ws.length) : bitB (goN P ws x j).1 y = if x ≤ y ∧ y < x + j then P else bitB ws y := by
  cases P
  · rw [goN, dropN_bits ws x j y h]
    by_cases e : x ≤ y ∧ y < x + j
    · rw [if_pos e, decide_eq_true e, Bool.not_true, Bool.and_false]
    · rw [if_neg e, decide_eq_false e, Bool.not_false, Bool.and_true]
  · rw [goN, putN_bits ws x j y h]
    by_cases e : x ≤ y ∧ y < x + j
    · rw [if_pos e, decide_eq_true e, Bool.or_true]
    · rw [if_neg e, decide_eq_false e, Bool.or_false]
theorem goN_len (P : Bool) (ws : List Nat) (x j : Nat) : (goN P ws x j).1.length = ws.length := by
  cases P
  · exact dropN_len ws x j
  · exact putN_len ws x j
theorem goN_bd (P : Bool) (ws : List Nat) (x j : Nat) : 0 ≤ (goN P ws x j).2 ∧ (goN P ws x j).2 ≤ j := by
  cases P
  · exact dropN_bd ws x j
  · exact putN_bd ws x j
theorem goN_next (P : Bool) (ws : List Nat) (x j : Nat) : (goN P ws x (j + 1)).2 = (goN P ws x j).2 + (if bitB (goN P ws x j).1 (x + j) = P then 0 else 1) := by
  cases P
  · show (dropN ws x (j + 1)).2 = (dropN ws x j).2 + (if bitB (dropN ws x j).1 (x + j) = false then 0 else 1)
    rw [dropN]; split <;> rename_i h <;> simp [h]
  · show (putN ws x (j + 1)).2 = (putN ws x j).2 + (if bitB (putN ws x j).1 (x + j) = true then 0 else 1)
    rw [putN]; split <;> rename_i h <;> simp [h]
/-- One byte: its granule, and what that does. -/
theorem go_byte (P : Bool) {ws : List Nat} {B k : Nat} (hl : ws.length = 256) (hB : (B + k) / 16 < 64) :
    (∀ y, bitB (goN P ws (B / 16) (jk B (k + 1))).1 y = if (B + k) / 16 = y then P else bitB (goN P ws (B / 16) (jk B k)).1 y) ∧ (goN P ws (B / 16) (jk B (k + 1))).2 = (goN P ws (B / 16) (jk B k)).2 + (if bitB (goN P ws (B / 16) (jk B k)).1 ((B + k) / 16) = P then 0 else 1) := by
  rcases jk_step B k with ⟨h1, h2⟩ | ⟨h1, h2, h3⟩
  · rw [h2, ← h1]
    refine ⟨fun y => ?_, goN_next P ws _ _⟩
    rw [goN_bits P ws _ _ y (by omega), goN_bits P ws _ _ y (by omega)]
    by_cases e1 : B / 16 + jk B k = y
    · rw [if_pos e1, if_pos (by omega)]
    · rw [if_neg e1]
      by_cases e2 : B / 16 ≤ y ∧ y < B / 16 + jk B k
      · rw [if_pos e2, if_pos (by omega)]
      · rw [if_neg e2, if_neg (by omega)]
  · rw [h2]
    have hb : bitB (goN P ws (B / 16) (jk B k)).1 ((B + k) / 16) = P := by
      rw [goN_bits P ws _ _ _ (by omega), if_pos (by omega)]
    refine ⟨fun y => ?_, by rw [if_pos hb]; simp⟩
    by_cases e : (B + k) / 16 = y
    · rw [if_pos e, ← e, hb]
    · rw [if_neg e]
theorem sp_zero (B : Nat) : spF B (0 : Nat) 16 = 0 ∧ spN B (0 : Nat) 16 = 0 := by
  have hm : mayB B (0 : Nat) = false := mayB_false.2 (by omega)
  have hn : ¬ mayB B (0 : Nat) = true := by rw [hm]; exact Bool.false_ne_true
  exact ⟨by rw [spF, if_neg hn], by rw [spN, if_neg hn]⟩
theorem sp_some {B K : Nat} (hB : B + K ≤ 1024) (h0 : 0 < K) : mayB B K = true ∧ spF B K 16 = ((B / 16 : Nat) : Int) ∧ spN B K 16 = (jk B K : Nat) ∧ 0 < jk B K ∧ B / 16 + jk B K ≤ 64 := by
  have hm : mayB B K = true := mayB_iff.2 (by omega)
  obtain ⟨e1, e2⟩ := spG hm
  refine ⟨hm, by rw [e1]; omega, ?_, ?_, ?_⟩
  · rw [e2]; unfold jk; rw [if_neg (by omega)]; omega
  · unfold jk; rw [if_neg (by omega)]; omega
  · unfold jk; rw [if_neg (by omega)]; omega
/-- What Put and Clean do is what the bytes do, one by one. -/
theorem go_bytes (P : Bool) {ws : List Nat} {B K : Nat} (hB : B < 1024) (hK : B + K ≤ 1024) :
    goN P ws (spF B K 16).toNat (sJ 16384 (spF B K 16) (spN B K 16)) = goN P ws (B / 16) (jk B K) := by
  by_cases h0 : K = 0
  · subst h0
    obtain ⟨e1, e2⟩ := sp_zero B
    rw [e1, e2, show sJ 16384 0 0 = 0 by decide, show jk B 0 = 0 by unfold jk; rw [if_pos rfl]]
    cases P <;> rfl
  · obtain ⟨hm, e1, e2, e3, e4⟩ := sp_some hK (by omega)
    rw [e1, e2, Int.toNat_natCast]
    have : sJ 16384 ((B / 16 : Nat) : Int) (jk B K : Nat) = jk B K := by unfold sJ sendI; rw [if_pos (by omega)]; omega
    rw [this]

/-- The paint and the row of bools say the same. -/
def PtL (lo hi g p b : Nat) (W : World) (c : Int) (ws : List Nat) : Prop :=
  PtIs lo hi g p W c ws ∧ ArrS b 64 W ws ∧ ws.length = 256 ∧ c = cntB ws 64 ∧ (∀ y, 64 ≤ y → bitB ws y = false) ∧ p < b
theorem PtL.grow {lo hi g p b : Nat} {W W' : World} {c : Int} {ws : List Nat} (h : PtL lo hi g p b W c ws) (hw : Below W.heap.size W W') : PtL lo hi g p b W' c ws := by
  obtain ⟨hs, ha, hl, hc, hz, hb⟩ := h
  exact ⟨hs.below hw hs.2.1.2 hw.size, ha.keep hw.size (hw.block _ ha.1), hl, hc, hz, hb⟩
theorem ptset_keep {lo hi g p b o : Nat} {W : World} {c : Int} {ws : List Nat} {v : Value} (h : PtIs lo hi g p W c ws) (hb : p < b) : PtIs lo hi g p (W.setCell ⟨b, o, none⟩ v) c ws :=
  h.keep (by rw [size_set]; exact Nat.le_refl _) (fun i i1 i2 => heap_other _ _ _ i (by intro e; simp at e; omega))
def newC (P : Bool) (c v : Int) : Int := match P with
  | true => c + v
  | false => c - v
theorem PtL.went (P : Bool) {lo hi g p b : Nat} {W : World} {c : Int} {ws : List Nat} {B K : Nat} (h : PtL lo hi g p b W c ws) (hB : B < 1024) (hK : B + K ≤ 1024) : (0 ≤ newC P c (goN P ws (B / 16) (jk B K)).2 ∧ newC P c (goN P ws (B / 16) (jk B K)).2 ≤ 16384) ∧
    ∀ W2, PtIs lo hi g p W2 (newC P c (goN P ws (B / 16) (jk B K)).2) (goN P ws (B / 16) (jk B K)).1 → ArrS b 64 W2 (goN P ws (B / 16) (jk B K)).1 → PtL lo hi g p b W2 (newC P c (goN P ws (B / 16) (jk B K)).2) (goN P ws (B / 16) (jk B K)).1 := by
  obtain ⟨hs, ha, hl, hc, hz, hb⟩ := h
  have hr : B / 16 + jk B K ≤ 64 ∨ jk B K = 0 := by unfold jk; split <;> omega
  obtain ⟨j, hj⟩ : ∃ j, jk B K = j := ⟨_, rfl⟩
  rw [hj] at hr ⊢
  have hB6 : B / 16 < 64 := by omega
  have hd : newC P c (goN P ws (B / 16) j).2 = cntB (goN P ws (B / 16) j).1 64 := by
    cases P
    · have := dropN_cnt ws (B / 16) j 64 (by omega) (by omega)
      show c - (dropN ws (B / 16) j).2 = cntB (dropN ws (B / 16) j).1 64
      omega
    · have := putN_cnt ws (B / 16) j 64 (by omega) (by omega)
      show c + (putN ws (B / 16) j).2 = cntB (putN ws (B / 16) j).1 64
      omega
  have hle := cntB_le (goN P ws (B / 16) j).1 64
  refine ⟨by omega, fun W2 h1 h2 => ⟨h1, h2, by rw [goN_len]; exact hl, hd, fun y hy => ?_, hb⟩⟩
  rw [goN_bits P ws _ _ y (by omega), if_neg (by omega), hz y hy]
theorem ptl_new {w v1 : World} {g p : Nat} {Z : Array Value} {T : TypeId} (hs : PtIs w.heap.size p g p v1 0 (List.replicate 256 0)) (hZ : ∀ i, i < 64 → Z[i]? = some (.bool false)) :
    PtL w.heap.size p g p v1.heap.size (v1.alloc (.cells Z T)) 0 (List.replicate 256 0) := by
  refine ⟨hs.keep (by simp) (fun i _ hi => heap_old _ _ _ (by have := hs.2.1.2; omega)), ⟨by simp, fun i hi => ⟨?_, by simp⟩⟩, List.length_replicate .., ?_, fun y _ => bitB_none 256 y, hs.2.1.2⟩
  · rw [World.cell?_alloc_mark, bitB_none]; exact hZ i hi
  · have : cntB (List.replicate 256 0) 64 = 0 := by
      have : ∀ n, cntB (List.replicate 256 0) n = 0 := fun n => by
        induction n with
        | zero => rfl
        | succ n ih => rw [cntB, ih, bitB_none]; rfl
      exact this 64
    rw [this]; rfl
/-- Whether some, or all, granules of the first k bytes are in it. -/
def someK (ws : List Nat) (B : Nat) : Nat → Bool
  | 0 => false
  | k + 1 => someK ws B k || bitB ws ((B + k) / 16)
def allK (ws : List Nat) (B : Nat) (z : Bool) : Nat → Bool
  | 0 => z
  | k + 1 => allK ws B z k && bitB ws ((B + k) / 16)
theorem someK_iff (ws : List Nat) (B K : Nat) : someK ws B K = true ↔ ∃ y, B / 16 ≤ y ∧ y < B / 16 + jk B K ∧ bitB ws y = true := by
  induction K with
  | zero => simp [someK, jk]; intro x a b; omega
  | succ K ih =>
    rw [someK, Bool.or_eq_true, ih]
    rcases jk_step B K with ⟨h1, h2⟩ | ⟨h1, h2, h3⟩
    · rw [h2]
      constructor
      · rintro (⟨y, a, b, d⟩ | h)
        · exact ⟨y, a, by omega, d⟩
        · exact ⟨(B + K) / 16, by omega, by omega, h⟩
      · rintro ⟨y, a, b, d⟩
        by_cases e : y = (B + K) / 16
        · right; rw [← e]; exact d
        · left; exact ⟨y, a, by omega, d⟩
    · rw [h2]
      constructor
      · rintro (⟨y, a, b, d⟩ | h)
        · exact ⟨y, a, by omega, d⟩
        · exact ⟨(B + K) / 16, by omega, by omega, h⟩
      · rintro ⟨y, a, b, d⟩
        left; exact ⟨y, a, by omega, d⟩
theorem allK_eq (ws : List Nat) (B K : Nat) (z : Bool) : allK ws B z K = (z && wholeB ws (B / 16) (jk B K)) := by
  induction K with
  | zero => simp [allK, jk, wholeB]
  | succ K ih =>
    rw [allK, ih]
    rcases jk_step B K with ⟨h1, h2⟩ | ⟨h1, h2, h3⟩
    · rw [h2, wholeB, h1, Bool.and_assoc]
    · rw [h2]
      obtain ⟨j, hj⟩ : ∃ j, jk B K = j + 1 := ⟨jk B K - 1, by omega⟩
      rw [hj, wholeB, show (B + K) / 16 = B / 16 + j by omega]
      cases bitB ws (B / 16 + j) <;> simp
theorem SomeR.bytes {ws : List Nat} {B K : Nat} (hB : B < 1024) (hK : B + K ≤ 1024) : SomeR 16384 (spF B K 16) (spN B K 16) ws (someK ws B K) := by
  by_cases h0 : K = 0
  · subst h0
    obtain ⟨e1, e2⟩ := sp_zero B
    rw [e1, e2]
    exact some_false (fun y y1 y2 => by omega)
  · obtain ⟨hm, e1, e2, e3, e4⟩ := sp_some hK (by omega)
    rw [e1, e2]
    unfold SomeR sendI
    rw [if_pos (by omega), someK_iff]
    constructor
    · rintro ⟨y, a, b, d⟩; exact ⟨by omega, y, by omega, by omega, d⟩
    · rintro ⟨_, y, a, b, d⟩; exact ⟨y, by omega, by omega, d⟩
theorem ptwhole_b {lo hi g p : Nat} {W : World} {c : Int} {ws : List Nat} {B K : Nat} (h : PtIs lo hi g p W c ws) (hB : B < 1024) (hK : B + K ≤ 1024) :
    Calls Tryd.prog 14 #[.pointer (some ⟨p, 0, none⟩), .agg #[.int .i64 B, .int .i64 K]] W fun e w' => e = .returned (.bool (allK ws B (decide (0 < K)) K)) ∧ Below W.heap.size W w' := by
  rw [allK_eq]
  by_cases h0 : K = 0
  · subst h0
    exact ptwhole_no (B : Int) (0 : Nat) _ W (mayB_false.2 (by omega))
  · obtain ⟨hm, e1, e2, e3, e4⟩ := sp_some hK (by omega)
    exact ptwhole (B : Int) (K : Int) _ h hm (by
      rw [e1, e2, Int.toNat_natCast, Int.toNat_natCast, decide_eq_true (by omega), decide_eq_true (by omega)])
theorem pthas_at {lo hi g p : Nat} {W : World} {c : Int} {ws : List Nat} (r : Bool) (X : Nat) (x : Int) (h : PtIs lo hi g p W c ws) (hX : X < 64) (hx : x = 16 * X ∨ x = 16 * X + 15) (hr : bitB ws X = r) (ht : TzTab W) :
    Calls Tryd.prog 10 #[.pointer (some ⟨p, 0, none⟩), .int .i64 x] W fun e w' => e = .returned (.bool r) ∧ Below W.heap.size W w' := by
  have hm : mayB x 1 = true := mayB_iff.2 (by omega)
  obtain ⟨e1, e2⟩ := spG hm
  refine pthas x r h ?_ ht
  have f1 : spF x 1 16 = X := by rw [e1]; omega
  have f2 : spN x 1 16 = 1 := by rw [e2]; omega
  rw [f1, f2]
  cases r
  · exact some_false (fun y y1 y2 => by rw [show y = X by omega]; exact hr)
  · exact some_true X (by omega) (by omega) (by omega) (by omega) (by omega) hr
theorem pthas_out {lo hi g p : Nat} {W : World} {c : Int} {ws : List Nat} (h : PtIs lo hi g p W c ws) (ht : TzTab W) :
    Calls Tryd.prog 10 #[.pointer (some ⟨p, 0, none⟩), .int .i64 (-1)] W fun e w' => e = .returned (.bool false) ∧ Below W.heap.size W w' := by
  refine pthas (-1) false h ?_ ht
  rw [show spF (-1) 1 16 = 0 by decide, show spN (-1) 1 16 = 0 by decide]
  exact some_false (fun y y1 y2 => by omega)
/-- All that there is: put into a twin. -/
theorem ptput_all {lo hi g p : Nat} {W : World} {c : Int} {ws : List Nat} (h : PtIs lo hi g p W c ws) (hl : ws.length = 256) (hc : c = cntB ws 64) :
    Calls Tryd.prog 8 #[.pointer (some ⟨p, 0, none⟩), .agg #[.int .i64 0, .int .i64 1024]] W fun e w' => ∃ v ws', e = .returned (.int .i64 v) ∧ PtIs lo hi g p w' 64 ws' ∧ Below lo W w' ∧ (∀ i, p < i → i < W.heap.size → w'.heap[i]? = W.heap[i]?) ∧ W.heap.size ≤ w'.heap.size := by
  have e1 : spF 0 1024 16 = 0 := by decide
  have e2 : spN 0 1024 16 = 64 := by decide
  have e3 : sJ 16384 0 64 = 64 := by decide
  have hd := putN_cnt ws 0 64 64 (by omega) (by omega)
  have hall : ∀ n, n ≤ 64 → cntB (putN ws 0 64).1 n = n := fun n hn => by
    induction n with
    | zero => rfl
    | succ n ih => rw [cntB, ih (by omega), putN_bits ws 0 64 n (by omega), decide_eq_true (by omega), Bool.or_true]; rfl
  have h64 := hall 64 (Nat.le_refl _)
  refine (ptput 0 1024 (putN ws 0 64).2 64 (putN ws 0 64).1 h (by rw [e1, e2, e3]; rfl) (by omega) (by omega)).mono ?_
  rintro e w' ⟨h1, h2⟩
  exact ⟨_, _, h1, h2⟩
/-- Put, or Clean. -/
theorem ptgo_put {lo hi g p b : Nat} {W : World} {c : Int} {ws : List Nat} {B K : Nat} (h : PtIs lo hi g p W c ws) (hB : B < 1024) (hK : B + K ≤ 1024) (hc : 0 ≤ newC true c (goN true ws (B / 16) (jk B K)).2 ∧ newC true c (goN true ws (B / 16) (jk B K)).2 ≤ 16384) :
    Calls Tryd.prog 8 #[.pointer (some ⟨p, 0, none⟩), .agg #[.int .i64 B, .int .i64 K]] W (PtPost lo hi g p W (goN true ws (B / 16) (jk B K)).2 (newC true c (goN true ws (B / 16) (jk B K)).2) (goN true ws (B / 16) (jk B K)).1) :=
by
  have e := go_bytes true (ws := ws) hB hK
  rw [show ∀ x j, goN true ws x j = putN ws x j from fun _ _ => rfl] at e
  rw [show ∀ x j, goN true ws x j = putN ws x j from fun _ _ => rfl] at hc ⊢
  rw [show ∀ x j, goN true ws x j = putN ws x j from fun _ _ => rfl] at e
  generalize putN ws (B / 16) (jk B K) = V at *
  exact ptput (B : Int) (K : Int) V.2 (newC true c V.2) V.1 h e rfl hc
theorem ptgo_clean {lo hi g p b : Nat} {W : World} {c : Int} {ws : List Nat} {B K : Nat} (h : PtIs lo hi g p W c ws) (hB : B < 1024) (hK : B + K ≤ 1024) (hc : 0 ≤ newC false c (goN false ws (B / 16) (jk B K)).2 ∧ newC false c (goN false ws (B / 16) (jk B K)).2 ≤ 16384) :
    Calls Tryd.prog 9 #[.pointer (some ⟨p, 0, none⟩), .agg #[.int .i64 B, .int .i64 K]] W (PtPost lo hi g p W (goN false ws (B / 16) (jk B K)).2 (newC false c (goN false ws (B / 16) (jk B K)).2) (goN false ws (B / 16) (jk B K)).1) :=
by
  have e := go_bytes false (ws := ws) hB hK
  rw [show ∀ x j, goN false ws x j = dropN ws x j from fun _ _ => rfl] at e
  rw [show ∀ x j, goN false ws x j = dropN ws x j from fun _ _ => rfl] at hc ⊢
  rw [show ∀ x j, goN false ws x j = dropN ws x j from fun _ _ => rfl] at e
  generalize dropN ws (B / 16) (jk B K) = V at *
  exact ptclean (B : Int) (K : Int) V.2 (newC false c V.2) V.1 h e rfl hc
end Go.Proofs.YtfeinfmfbbpbjaaDoor
