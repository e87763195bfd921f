/- BrQ. -/
import Derived.Test.YtnfcpohbdkionaaGreatDoorZ42
import Derived.Lib.SlBytesConst
namespace Go.Proofs.YtnfcpohbdkionaaGreatDoor
set_option maxRecDepth 100000
open Go.RowKit Go.ChangeMaps Go.MapKept
set_option linter.unusedVariables false
set_option linter.unusedSimpArgs false
/-- The blocks that the region loads from, or whose bytes it tells. -/
def Z8 (x8 x9 x10 x19 x21 x17 D1 D2 i : Nat) : Prop := i = x8 ∨ i = x9 ∨ i = x10 ∨ i = x19 ∨ i = x21 ∨ i = x17 ∨ i = D1 ∨ i = D2
structure S18 (x8 x9 x10 x19 x21 x17 M R P M' R' P' : Nat) (b1 l1 c1 p1 t1 d2 m2 n2 r2 u2 : Int) (v2 : Bool) (d m n q r : Int) (y : Bool) (W : World) (D1 D2 : Nat) (w : World) : Prop where
  a8 : PlAt x8 w M R P
  a9 : PlAt x9 w M' R' P'
  a10 : CapAt x10 w b1 l1 c1 p1 t1 true
  a19 : CapAt x19 w d2 m2 n2 r2 u2 v2
  a21 : CapAt x21 w d2 m2 n2 r2 u2 v2
  a17 : CapAt x17 w d m n q r y
  lt : x8 < W.heap.size ∧ x9 < W.heap.size ∧ x10 < W.heap.size ∧ x19 < W.heap.size ∧ x21 < W.heap.size ∧ x17 < W.heap.size
  sz : W.heap.size ≤ w.heap.size
  k1 : D1 < W.heap.size → w.heap[D1]? = W.heap[D1]?
  k2 : D2 < W.heap.size → w.heap[D2]? = W.heap[D2]?
section
variable {x8 x9 x10 x19 x21 x17 M R P M' R' P' : Nat} {b1 l1 c1 p1 t1 d2 m2 n2 r2 u2 : Int} {v2 : Bool} {d m n q r : Int} {y : Bool} {W : World} {D1 D2 : Nat} {w w' : World}
theorem S18.keep (h : S18 x8 x9 x10 x19 x21 x17 M R P M' R' P' b1 l1 c1 p1 t1 d2 m2 n2 r2 u2 v2 d m n q r y W D1 D2 w) (hs : w.heap.size ≤ w'.heap.size) (hk : ∀ i, i < W.heap.size → Z8 x8 x9 x10 x19 x21 x17 D1 D2 i → w'.heap[i]? = w.heap[i]?) : S18 x8 x9 x10 x19 x21 x17 M R P M' R' P' b1 l1 c1 p1 t1 d2 m2 n2 r2 u2 v2 d m n q r y W D1 D2 w' :=
  ⟨h.a8.keep hs (hk _ h.lt.1 (.inl rfl)), h.a9.keep hs (hk _ h.lt.2.1 (.inr (.inl rfl))), h.a10.keep hs (hk _ h.lt.2.2.1 (.inr (.inr (.inl rfl)))), h.a19.keep hs (hk _ h.lt.2.2.2.1 (.inr (.inr (.inr (.inl rfl))))), h.a21.keep hs (hk _ h.lt.2.2.2.2.1 (.inr (.inr (.inr (.inr (.inl rfl)))))), h.a17.keep hs (hk _ h.lt.2.2.2.2.2 (.inr (.inr (.inr (.inr (.inr (.inl rfl))))))), h.lt, Nat.le_trans h.sz hs, fun hd => (hk _ hd (.inr (.inr (.inr (.inr (.inr (.inr (.inl rfl)))))))).trans (h.k1 hd), fun hd => (hk _ hd (.inr (.inr (.inr (.inr (.inr (.inr (.inr rfl)))))))).trans (h.k2 hd)⟩
theorem S18.below (h : S18 x8 x9 x10 x19 x21 x17 M R P M' R' P' b1 l1 c1 p1 t1 d2 m2 n2 r2 u2 v2 d m n q r y W D1 D2 w) (hb : Below w.heap.size w w') : S18 x8 x9 x10 x19 x21 x17 M R P M' R' P' b1 l1 c1 p1 t1 d2 m2 n2 r2 u2 v2 d m n q r y W D1 D2 w' :=
  h.keep hb.size (fun i hi _ => hb.block i (Nat.lt_of_lt_of_le hi h.sz))
end
theorem z8_zero {x8 x9 x10 x19 x21 x17 D1 D2 : Nat} {col : Nat → Nat} (h8 : col x8 = 0) (h9 : col x9 = 0) (h10 : col x10 = 0) (h19 : col x19 = 0) (h21 : col x21 = 0) (h17 : col x17 = 0) (h1 : col D1 = 0) (h2 : col D2 = 0) : ∀ i, Z8 x8 x9 x10 x19 x21 x17 D1 D2 i → col i = 0 := by
  rintro i (rfl | rfl | rfl | rfl | rfl | rfl | rfl | rfl) <;> assumption
/-- The two letters. -/
def abF (i : Nat) : Nat := if i = 0 then 97 else 98
theorem abF_lt : ∀ i, i < 2 → abF i < 256 := by
  intro i _
  unfold abF
  split <;> decide
/-- A block has the two letters, and is none of either place's. -/
def G18 (N B R g P B' R' g' P' : Nat) (col col' : Nat → Nat) (mk : Nat × Nat) (z : Nat) (u : World) : Prop :=
  u.heap[z]? = some (.cells #[.int .u8 97, .int .u8 98] 5 mk) ∧ N ≤ z ∧ Away B col R g P z ∧ Away B' col' R' g' P' z
section
variable {N B R g P B' R' g' P' : Nat} {col col' col2 : Nat → Nat} {mk : Nat × Nat} {z : Nat} {u w : World}
theorem G18.lt (h : G18 N B R g P B' R' g' P' col col' mk z u) : z < u.heap.size := by
  by_cases e : z < u.heap.size
  · exact e
  · have := h.1
    rw [Array.getElem?_eq_none (by omega)] at this
    cases this
theorem G18.new (hN : N ≤ u.heap.size) (h1 : Away B col R g P u.heap.size) (h2 : Away B' col' R' g' P' u.heap.size) : G18 N B R g P B' R' g' P' col col' (0, 0) u.heap.size (u.alloc (.cells #[.int .u8 97, .int .u8 98] 5)) :=
  ⟨by show (u.heap.push _)[u.heap.size]? = _; simp, hN, h1, h2⟩
theorem G18.keep (h : G18 N B R g P B' R' g' P' col col' mk z u) (hk : w.heap[z]? = u.heap[z]?) : G18 N B R g P B' R' g' P' col col' mk z w := ⟨hk.trans h.1, h.2⟩
theorem G18.below (h : G18 N B R g P B' R' g' P' col col' mk z u) (hb : Below u.heap.size u w) : G18 N B R g P B' R' g' P' col col' mk z w := h.keep (hb.block z h.lt)
theorem G18.recol (h : G18 N B R g P B' R' g' P' col col' mk z u) (e : col2 z = col z) : G18 N B R g P B' R' g' P' col2 col' mk z u :=
  ⟨h.1, h.2.1, h.2.2.1.imp id (fun k => ⟨e.trans k.1, k.2⟩), h.2.2.2⟩
theorem G18.row (h : G18 N B R g P B' R' g' P' col col' (2, 3) z u) : RowU z 2 u abF := by
  refine ⟨h.lt, fun i hi => ?_⟩
  have h3 : i = 0 ∨ i = 1 := by omega
  rcases h3 with rfl | rfl <;> simp [World.cell?, World.frozen?, h.1, abF]
theorem G18.mark {Nv : Nat} {V : World} (h : G18 N B R g P B' R' g' P' col col' (0, 0) z u) (hb : Below Nv V u) (hN : Nv ≤ z) : ∃ w, (convert 38 38 (.slice (some ⟨z, 0, none⟩) 2 2)).run Tryz.prog u = .ok (.slice (some ⟨z, 0, none⟩) 2 2) w ∧ G18 N B R g P B' R' g' P' col col' (2, 3) z w ∧ w.heap.size = u.heap.size ∧ (∀ i, i ≠ z → w.heap[i]? = u.heap[i]?) ∧ Below Nv V w := by
  have hsh : u.shape? z = some (5, 2) := by
    unfold World.shape?
    rw [h.1]
    rfl
  have hh : (u.freeze ⟨z, 2, none⟩ 1).heap = u.heap.modify z fun o => match o with
      | .cells c elem (lo, hi) => .cells c elem (if lo == hi then (2, 2 + 1) else (min lo 2, max hi (2 + 1)))
      | o => o := by
    unfold World.freeze
    rw [if_neg (by decide)]
    rfl
  have hz : (u.freeze ⟨z, 2, none⟩ 1).heap[z]? = some (.cells #[.int .u8 97, .int .u8 98] 5 (2, 3)) := by
    rw [hh, Array.getElem?_modify, if_pos rfl, h.1]
    rfl
  have ho : ∀ i, i ≠ z → (u.freeze ⟨z, 2, none⟩ 1).heap[i]? = u.heap[i]? := by
    intro i hi
    rw [hh, Array.getElem?_modify, if_neg (fun e => hi e.symm)]
  have hs : (u.freeze ⟨z, 2, none⟩ 1).heap.size = u.heap.size := by rw [hh, Array.size_modify]
  have hfo : (u.freeze ⟨z, 2, none⟩ 1).os = u.os ∧ (u.freeze ⟨z, 2, none⟩ 1).tape = u.tape ∧ (u.freeze ⟨z, 2, none⟩ 1).output = u.output := by
    unfold World.freeze
    rw [if_neg (by decide)]
    exact ⟨rfl, rfl, rfl⟩
  refine ⟨u.freeze ⟨z, 2, none⟩ 1, ?_, ⟨hz, h.2⟩, hs, ho, ⟨hfo.1.trans hb.os, hfo.2.1.trans hb.tape, hfo.2.2.trans hb.output, by rw [hs]; exact hb.size, fun k hk => (ho k (by omega)).trans (hb.block k hk)⟩⟩
  simp [convert, run_underlying Tryz.underlying38, run_underlying Tryz.underlying5, markStringish, hsh]
end
end Go.Proofs.YtnfcpohbdkionaaGreatDoor
