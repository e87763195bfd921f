/- What the walk of GapsPlays keeps. -/
import Derived.Test.YtjblgamngnnccaaDoorGapM
import Derived.Test.YtjblgamngnnccaaDoorGapD
import Derived.Test.YtjblgamngnnccaaDoorGapT
import Derived.Test.YtjblgamngnnccaaDoorRecs
import Derived.Deep.WholeRow
import Derived.Deep.DeepCutAuto
import Derived.Laws.Tables
namespace Go.Proofs.YtjblgamngnnccaaDoor
open Go.RowKit
set_option linter.unusedVariables false
set_option linter.unusedSimpArgs false

def arrZ : Array Value := Array.replicate 40 (.bool false)
theorem arrInfo : (Tryd.prog.info? 41).map (fun i => (i.zero, i.size)) = some (some (.agg arrZ), 40) := by kernel_rfl
theorem arrBuilt : Tryd.prog.built 41 ((#[] : Array (Nat × Value)).toList) = some arrZ := by kernel_rfl
theorem arrOne : arrZ.all (·.oneCell') = true := by
  rw [Array.all_eq_true]
  intro i h
  simp [arrZ, Value.oneCell']
theorem arrSize : arrZ.size = 40 := by simp [arrZ]
theorem arrAt (i : Nat) (h : i < 40) : arrZ[i]? = some (.bool false) := by simp [arrZ, h]
/-- A row of bools: which of the first 40 somebody has; of those from X on, j of them, it says t already. -/
def ArrM (b : Nat) (W : World) (ws : List Nat) (X j : Nat) (t : Bool) : Prop :=
  b < W.heap.size ∧ ∀ i, i < 40 → W.cell? ⟨b, i, none⟩ = some (.bool (if X ≤ i ∧ i < X + j then t else !bitB ws i)) ∧ W.frozen? ⟨b, i, none⟩ = false
theorem ArrM.set_ {b : Nat} {W : World} {ws : List Nat} {X j : Nat} {t : Bool} (h : ArrM b W ws X j t) (hx : X + j < 40) : ArrM b (W.setCell ⟨b, X + j, none⟩ (.bool t)) ws X (j + 1) t := by
  refine ⟨by rw [v_size_set]; exact h.1, fun i hi => ?_⟩
  obtain ⟨k1, k2⟩ := h.2 i hi
  refine ⟨?_, by simp [k2]⟩
  by_cases e : X + j = i
  · subst e
    rw [World.cell?_setCell_same _ _ _ k1, if_pos (by omega)]
  · rw [World.cell?_setCell_other _ _ _ _ (by intro q; injection q with _ q; exact e q), k1]
    by_cases hh : X ≤ i ∧ i < X + j
    · rw [if_pos hh, if_pos (by omega)]
    · rw [if_neg hh, if_neg (by omega)]
def ArrN (b : Nat) (W : World) (ws : List Nat) : Prop := b < W.heap.size ∧ ∀ i, i < 40 → W.cell? ⟨b, i, none⟩ = some (.bool (!bitB ws i)) ∧ W.frozen? ⟨b, i, none⟩ = false
theorem ArrN.m {b : Nat} {W : World} {ws : List Nat} (h : ArrN b W ws) (X : Nat) (t : Bool) : ArrM b W ws X 0 t := ⟨h.1, fun i hi => by rw [if_neg (by omega)]; exact h.2 i hi⟩
theorem ArrM.n {b : Nat} {W : World} {ws ws' : List Nat} {X n : Nat} {t : Bool} (h : ArrM b W ws X n t) (hb : ∀ i, i < 40 → (!bitB ws' i) = if X ≤ i ∧ i < X + n then t else !bitB ws i) : ArrN b W ws' :=
  ⟨h.1, fun i hi => by rw [hb i hi]; exact h.2 i hi⟩
theorem ArrN.keep {b : Nat} {W W' : World} {ws : List Nat} (h : ArrN b W ws) (hs : W.heap.size ≤ W'.heap.size) (hk : W'.heap[b]? = W.heap[b]?) : ArrN b W' ws := by
  refine ⟨Nat.lt_of_lt_of_le h.1 hs, fun i hi => ?_⟩
  obtain ⟨h1, h2⟩ := h.2 i hi
  exact ⟨(World.cell?_of_block hk).trans h1, (World.frozen?_of_block hk).trans h2⟩
theorem GpAt.far {lo hi s g b o : Nat} {W : World} {F P c : Int} {ws : List Nat} {v : Value} (h : GpAt lo hi s g W F P c ws) (hg : b ≠ g) (hb : b < lo ∨ hi ≤ b) : GpAt lo hi s g (W.setCell ⟨b, o, none⟩ v) F P c ws := by
  obtain ⟨h1, h2, h3, h4, h5, h6, h7, h8⟩ := h
  have hk := v_heap_other W b o v g (Ne.symm hg)
  exact ⟨by rw [v_size_set]; exact h1, h2, (World.cell?_of_block hk).trans h3, (World.cell?_of_block hk).trans h4, (World.cell?_of_block hk).trans h5, h6.keep (by rw [v_size_set]; exact Nat.le_refl _) (fun i i1 i2 => v_heap_other W b o v i (by omega)), h7, h8⟩
/-- The gaps and the row of bools say the same. -/
def SG (B0 lo hi s g b : Nat) (w W : World) (ws : List Nat) : Prop :=
  GpAt lo hi s g W 5 ((40 : Nat) : Int) (cntB ws 40) ws ∧ (∀ y, 40 ≤ y → bitB ws y = false) ∧ ArrN b W ws ∧ (b ≠ g ∧ (b < lo ∨ hi ≤ b)) ∧ (B0 ≤ lo ∧ B0 ≤ b ∧ B0 ≤ W.heap.size) ∧ Below B0 w W
theorem SG.below {B0 lo hi s g b : Nat} {w W W' : World} {ws : List Nat} (h : SG B0 lo hi s g b w W ws) (hb : Below W.heap.size W W') : SG B0 lo hi s g b w W' ws := by
  obtain ⟨h1, h2, h3, h4, ⟨t1, t2, t3⟩, h6⟩ := h
  exact ⟨h1.below hb, h2, h3.keep hb.size (hb.block _ h3.1), h4, ⟨t1, t2, by have := hb.size; omega⟩, h6.trans (hb.mono t3)⟩
theorem SG.drw {B0 lo hi s g b : Nat} {w W : World} {ws : List Nat} (h : SG B0 lo hi s g b w W ws) (q : Nat) : SG B0 lo hi s g b w (W.drewN q) ws := h.below (below_drewN (Below.refl _ _) q)
def anyB (ws : List Nat) (X : Nat) : Nat → Bool
  | 0 => false
  | j + 1 => anyB ws X j || bitB ws (X + j)
theorem any_at {ws : List Nat} {X n : Nat} (h : anyB ws X n = true) : ∃ y, X ≤ y ∧ y < X + n ∧ bitB ws y = true := by
  induction n with
  | zero => simp [anyB] at h
  | succ n ih =>
    rw [anyB, Bool.or_eq_true] at h
    rcases h with h | h
    · obtain ⟨y, h1, h2, h3⟩ := ih h; exact ⟨y, h1, by omega, h3⟩
    · exact ⟨X + n, by omega, by omega, h⟩
theorem any_none {ws : List Nat} {X n : Nat} (h : anyB ws X n = false) : ∀ y, X ≤ y → y < X + n → bitB ws y = false := by
  induction n with
  | zero => intro y h1 h2; omega
  | succ n ih =>
    rw [anyB, Bool.or_eq_false_iff] at h
    intro y h1 h2
    by_cases e : y = X + n
    · subst e; exact h.2
    · exact ih h.1 y h1 (by omega)
/-- Behind a Take, and behind a Give. -/
theorem drop_say {ws : List Nat} {X n : Nat} (h : X + n ≤ 40) (hl : 40 ≤ 64 * ws.length) (hw : wholeB ws X n = true) (hz : ∀ y, 40 ≤ y → bitB ws y = false) :
    (dropN ws X n).2 = n ∧ (cntB (dropN ws X n).1 40 : Int) = cntB ws 40 - n ∧ (∀ y, 40 ≤ y → bitB (dropN ws X n).1 y = false) ∧ ∀ i, i < 40 → (!bitB (dropN ws X n).1 i) = if X ≤ i ∧ i < X + n then true else !bitB ws i := by
  have h1 : (dropN ws X n).2 = n := dropN_count ws X n (by omega) (fun y y1 y2 => by have := whole_at hw (j := y - X) (by omega); rwa [show X + (y - X) = y by omega] at this)
  refine ⟨h1, by rw [dropN_cnt ws X n 40 (by omega) hl, h1], fun y hy => by rw [dropN_bits ws X n y (by omega), hz y hy]; rfl, fun i hi => ?_⟩
  rw [dropN_bits ws X n i (by omega)]
  by_cases hh : X ≤ i ∧ i < X + n
  · simp [hh]
  · simp [hh]
theorem put_say {ws : List Nat} {X n : Nat} (h : X + n ≤ 40) (hl : 40 ≤ 64 * ws.length) (hw : anyB ws X n = false) (hz : ∀ y, 40 ≤ y → bitB ws y = false) :
    (putN ws X n).2 = n ∧ (cntB (putN ws X n).1 40 : Int) = cntB ws 40 + n ∧ (∀ y, 40 ≤ y → bitB (putN ws X n).1 y = false) ∧ ∀ i, i < 40 → (!bitB (putN ws X n).1 i) = if X ≤ i ∧ i < X + n then false else !bitB ws i := by
  have h1 : (putN ws X n).2 = n := putN_count ws X n (by omega) (any_none hw)
  refine ⟨h1, by rw [putN_cnt ws X n 40 (by omega) hl, h1], fun y hy => by rw [putN_bits ws X n y (by omega), hz y hy]; simp; omega, fun i hi => ?_⟩
  rw [putN_bits ws X n i (by omega)]
  by_cases hh : X ≤ i ∧ i < X + n
  · simp [hh]
  · simp [hh]
theorem findL_bd (n : Int) (L : List Ar) (h : ∀ q ∈ L, 5 ≤ q.1 ∧ q.1 ≤ 45) : -1 ≤ findL n L ∧ findL n L ≤ 45 := by
  induction L with
  | nil => simp [findL]
  | cons a l ih =>
    have := h a (by simp)
    rw [findL]
    split
    · omega
    · exact ih (fun q hq => h q (by simp [hq]))
theorem find_bd (ws : List Nat) (n : Int) : -1 ≤ (if n < 1 then -1 else findL n (runs 5 (listB ws 40))) ∧ (if n < 1 then -1 else findL n (runs 5 (listB ws 40))) ≤ 45 := by
  split
  · omega
  · refine findL_bd n _ (fun q hq => ?_)
    have := (scan_inv ws n 40).each q hq
    omega
theorem scan_find0 (ws : List Nat) (k : Int) (hk : k < 1) : ∀ p, (scan ws k p).find = -1
  | 0 => rfl
  | p + 1 => by
    rw [scan]
    simp only
    rw [if_neg (by omega)]
    exact scan_find0 ws k hk p
theorem sumG_bd : ∀ (l : List Ar), (∀ q ∈ l, 0 ≤ q.2 ∧ q.2 ≤ 45) → 0 ≤ sumG l ∧ sumG l ≤ 45 * l.length := by
  suffices h : ∀ (l : List Ar) (m : Int), (∀ q ∈ l, 0 ≤ q.2 ∧ q.2 ≤ 45) → m ≤ l.foldl (fun m p => m + p.2) m ∧ l.foldl (fun m p => m + p.2) m ≤ m + 45 * l.length from fun l hl => by have := h l 0 hl; unfold sumG; omega
  intro l
  induction l with
  | nil => intro m _; simp
  | cons a l ih =>
    intro m hl
    have h1 := ih (m + a.2) (fun q hq => hl q (by simp [hq]))
    have h2 := hl a (by simp)
    simp only [List.foldl_cons, List.length_cons]
    omega
/-- Where the gap ahead of place j ends, behind the first page. -/
def fromL (L : List Ar) : Nat → Int
  | 0 => 0
  | j + 1 => (L.getD j (0, 0)).1 + (L.getD j (0, 0)).2 - 5
theorem gtake_some (lo hi s g : Nat) (W : World) (ws : List Nat) (h : GpAt lo hi s g W 5 ((40 : Nat) : Int) (cntB ws 40) ws) (hz : ∀ y, 40 ≤ y → bitB ws y = false) :
    Calls Tryd.prog 19 #[.pointer (some ⟨g, 0, none⟩), .int .i64 5, .int .i64 40] W fun e w' => ∃ E, e = .returned (.int .i64 E) ∧ Only lo hi W w' := by
  have hin : InG 5 ((40 : Nat) : Int) 5 40 := ⟨by omega, by omega, by omega, by omega⟩
  have hlw : 40 ≤ 64 * ws.length := by
    have := h.2.2.2.2.2.1.2.1.2.2.1
    omega
  cases hw : wholeB ws 0 40 with
  | true =>
    obtain ⟨d1, d2, _, _⟩ := drop_say (X := 0) (n := 40) (by omega) hlw hw hz
    refine (gtake_in lo hi s g W 5 _ _ 5 40 ws h hin hw ?_).mono ?_
    · show (dropN ws 0 40).2 ≤ _
      rw [d1]; omega
    · rintro e w' ⟨rfl, _, ho⟩
      exact ⟨0, rfl, ho⟩
  | false =>
    refine (gtake_twice lo hi s g W 5 _ _ 5 40 ws h hin hw).mono ?_
    rintro e w' ⟨rfl, q, rfl⟩
    exact ⟨3, rfl, only_drw lo hi W q⟩
end Go.Proofs.YtjblgamngnnccaaDoor
