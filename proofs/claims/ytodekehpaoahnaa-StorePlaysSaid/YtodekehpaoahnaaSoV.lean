/- StorePlays: the store and the array side by side. -/
import Derived.Test.YtodekehpaoahnaaSoU
import Derived.Deep.CutBlock
namespace Go.Proofs.Ytodekehpaoahnaa
open Go.RowKit Go.ChangeShapes Go.WideShapes Go.Deep
set_option linter.unusedVariables false
set_option linter.unusedSimpArgs false

theorem wn_wb (n : Nat) : ∀ i, wn (wb n) i = n % 2 ^ (8 * i)
  | 0 => by simp [wn, Nat.mod_one]
  | i + 1 => by
    have h := wn_wb n i
    have e : 2 ^ (8 * (i + 1)) = 2 ^ (8 * i) * 256 := by rw [show 8 * (i + 1) = 8 * i + 8 by omega, Nat.pow_add]
    rw [wn, h, e, Nat.mod_mul]
    simp only [wb]
    rw [Nat.mul_comm (2 ^ (8 * i))]
theorem wn_wb8 (n : Nat) (h : n < 18446744073709551616) : wn (wb n) 8 = n := by
  rw [wn_wb, Nat.mod_eq_of_lt (by simpa using h)]
theorem wn_congr {f f' : Nat → Nat} : ∀ (i : Nat), (∀ j, j < i → f j = f' j) → wn f i = wn f' i
  | 0, _ => by simp [wn]
  | i + 1, h => by rw [wn, wn, h i (by omega), wn_congr i (fun j hj => h j (by omega))]
theorem wn_over (c : Nat → Nat) (a n : Nat) (h : n < 18446744073709551616) : wn (fun j => over c a 8 (wb n) (a + j)) 8 = n := by
  rw [wn_congr (f' := wb n) 8 (fun j hj => by simp only [over]; rw [if_pos (by omega), show a + j - a = j by omega]), wn_wb8 n h]
/-- The store holds c, the array a. -/
def PA (W : World) (g M : Nat) (w : World) (c a : Nat → Nat) : Prop := W.heap.size ≤ M ∧ PL W g M w c ∧ ∀ j, j < 1024 → w.cell? ⟨M, j, none⟩ = some (.int .u8 (a j : Int))
theorem PA.next {W : World} {g M : Nat} {w w' : World} {c c' a : Nat → Nat} (h : PA W g M w c a) (h2 : PL W g M w' c') (e : w'.heap[M]? = w.heap[M]?) : PA W g M w' c' a :=
  ⟨h.1, h2, fun j hj => (World.cell?_of_block e).trans (h.2.2 j hj)⟩
theorem PA.below {W : World} {g M : Nat} {w w' : World} {c a : Nat → Nat} (h : PA W g M w c a) (hb : Below w.heap.size w w') : PA W g M w' c a :=
  h.next (h.2.1.below hb).1 (h.2.1.below hb).2
theorem PA.wb {W : World} {g M : Nat} {w : World} {c a : Nat → Nat} (h : PA W g M w c a) : Below W.heap.size W w := by
  obtain ⟨_, ⟨b, l, _, _, _, _, h⟩, _⟩ := h
  exact h
theorem PA.lt {W : World} {g M : Nat} {w : World} {c a : Nat → Nat} (h : PA W g M w c a) : M < w.heap.size := by
  obtain ⟨_, ⟨b, l, _, ⟨_, _, _, h, _⟩, _⟩, _⟩ := h
  exact h
theorem PA.frozen {W : World} {g M : Nat} {w : World} {c a : Nat → Nat} (h : PA W g M w c a) (o : Nat) : w.frozen? ⟨M, o, none⟩ = false := by
  obtain ⟨_, ⟨b, l, _, ⟨_, _, _, _, h⟩, _⟩, _⟩ := h
  exact h o
theorem PA.c256 {W : World} {g M : Nat} {w : World} {c a : Nat → Nat} (h : PA W g M w c a) : ∀ x, c x < 256 := by
  obtain ⟨_, ⟨b, l, _, _, h, _, _⟩, _⟩ := h
  exact h
theorem PA.c0 {W : World} {g M : Nat} {w : World} {c a : Nat → Nat} (h : PA W g M w c a) : ∀ x, 1024 ≤ x → c x = 0 := by
  obtain ⟨_, ⟨b, l, _, _, _, h, _⟩, _⟩ := h
  exact h
theorem PA.set {W : World} {g M : Nat} {w : World} {c a : Nat → Nat} (h : PA W g M w c a) (i x : Nat) (hi : i < 1024) : PA W g M (w.setCell ⟨M, i, none⟩ (.int .u8 (x : Int))) c (fun j => if j = i then x else a j) := by
  have hs : (w.setCell ⟨M, i, none⟩ (.int .u8 (x : Int))).heap.size = w.heap.size := by simp [World.setCell]
  have hp := PGn.set (D := M) (n := 1024) (W := w) (f := a) ⟨h.lt, h.2.2, h.frozen⟩ i x hi
  have hfz := hp.2.2
  have hbl : ∀ k, k ≠ M → (w.setCell ⟨M, i, none⟩ (.int .u8 (x : Int))).heap[k]? = w.heap[k]? := fun k hk => by simp [World.setCell, Array.getElem?_modify, Ne.symm hk]
  obtain ⟨h0, ⟨b, l, hS, ⟨m1, m2, m3, m4, m5⟩, h1, h2, h3⟩, h4⟩ := h
  exact ⟨h0, ⟨b, l, hS.far (D := M) (by omega) (fun k _ hk => hbl k hk) (Ne.symm m1) (Ne.symm m2) m3, ⟨m1, m2, m3, by omega, hfz⟩, h1, h2, h3.setCell (by show W.heap.size ≤ M; omega) _⟩, hp.2.1⟩
theorem PA.congr {W : World} {g M : Nat} {w : World} {c c' a a' : Nat → Nat} (h : PA W g M w c a) (hc : c = c') (ha : ∀ j, j < 1024 → a j = a' j) : PA W g M w c' a' := by
  subst hc
  exact ⟨h.1, h.2.1, fun j hj => by rw [← ha j hj]; exact h.2.2 j hj⟩
/-- Bytes that are none of the array's. -/
def BB (M : Nat) (w : World) (A : Option Addr) (n : Nat) (d : Nat → Nat) : Prop := n = 0 ∨ ∃ sb so, A = some ⟨sb, so, none⟩ ∧ sb ≠ M ∧ sb < w.heap.size ∧ ∀ i, i < n → w.cell? ⟨sb, so + i, none⟩ = some (.int .u8 (d i : Int))
theorem BB.set {M : Nat} {w : World} {A : Option Addr} {n : Nat} {d : Nat → Nat} (h : BB M w A n d) (o : Nat) (v : Value) : BB M (w.setCell ⟨M, o, none⟩ v) A n d := by
  rcases h with h | ⟨sb, so, e, h1, h2, h3⟩
  · exact .inl h
  · exact .inr ⟨sb, so, e, h1, by simpa [World.setCell] using h2, fun i hi => (World.cell?_of_block (by simp [World.setCell, Array.getElem?_modify, Ne.symm h1])).trans (h3 i hi)⟩
theorem BB.below {M : Nat} {w w' : World} {A : Option Addr} {n : Nat} {d : Nat → Nat} (h : BB M w A n d) (hb : Below w.heap.size w w') : BB M w' A n d := by
  rcases h with h | ⟨sb, so, e, h1, h2, h3⟩
  · exact .inl h
  · exact .inr ⟨sb, so, e, h1, Nat.lt_of_lt_of_le h2 hb.size, fun i hi => (hb.cell (p := ⟨sb, so + i, none⟩) h2).trans (h3 i hi)⟩
theorem BB.of {W w : World} {M : Nat} {A : Option Addr} {n cp : Nat} {d : Nat → Nat} (h : BS W A n cp d) (hM : W.heap.size ≤ M) (hb : Below W.heap.size W w) : BB M w A n d := by
  obtain ⟨h | ⟨sb, so, e, h1, h2⟩, _⟩ := h
  · exact .inl h
  · exact .inr ⟨sb, so, e, by omega, Nat.lt_of_lt_of_le h1 hb.size, fun i hi => (hb.cell (p := ⟨sb, so + i, none⟩) h1).trans (h2 i hi)⟩
theorem BB.page {M D n : Nat} {w : World} {d : Nat → Nat} (h : PGn D n w d) (hD : D ≠ M) (k : Nat) : BB M w (some ⟨D, 0, none⟩) n d :=
  .inr ⟨D, 0, rfl, hD, h.1, fun i hi => by rw [Nat.zero_add]; exact h.2.1 i hi⟩
theorem over_step (c : Nat → Nat) (a n k : Nat) (d : Nat → Nat) (hk : k < n) : (fun j => if j = a + k then d k else over c a k d j) = over c a (k + 1) d := by
  funext j
  simp only [over]
  by_cases e : j = a + k
  · subst e
    rw [if_pos rfl, if_pos (by omega), show a + k - a = k by omega]
  · rw [if_neg e]
    by_cases h : a ≤ j ∧ j < a + k
    · rw [if_pos h, if_pos (by omega)]
    · rw [if_neg h, if_neg (by omega)]
theorem over_zero (c : Nat → Nat) (a : Nat) (d : Nat → Nat) : over c a 0 d = c := by
  funext j
  simp only [over]
  rw [if_neg (by omega)]
theorem u64_and255 (x : Nat) (hx : x < 18446744073709551616) : bits .and .u64 (x : Int) 255 = ((x % 256 : Nat) : Int) := by
  have h1 : (BitVec.ofInt 64 (x : Int)).toNat = x := by rw [BitVec.ofInt_natCast, BitVec.toNat_ofNat]; exact Nat.mod_eq_of_lt (by omega)
  have h2 : (BitVec.ofInt 64 (255 : Int)).toNat = 2 ^ 8 - 1 := rfl
  show IntKind.u64.wrap ((BitVec.ofInt 64 (x : Int) &&& BitVec.ofInt 64 (255 : Int)).toNat : Int) = _
  rw [BitVec.toNat_and, h1, h2, Nat.and_two_pow_sub_one_eq_mod, IntKind.wrap_u64]
  omega
theorem BS.less {W : World} {P : Option Addr} {ln cp : Nat} {d : Nat → Nat} (h : BS W P ln cp d) (n : Nat) (hn : n ≤ ln) : BS W P n cp d := by
  obtain ⟨h | ⟨sb, so, e, h1, h2⟩, h3, h4⟩ := h
  · exact ⟨.inl (by omega), by omega, h4⟩
  · exact ⟨.inr ⟨sb, so, e, h1, fun i hi => h2 i (by omega)⟩, by omega, h4⟩
theorem PA.pl {W : World} {g M : Nat} {w : World} {c a : Nat → Nat} (h : PA W g M w c a) : PL W g M w c := h.2.1
theorem PA.cell {W : World} {g M : Nat} {w : World} {c a : Nat → Nat} (h : PA W g M w c a) (j : Nat) (hj : j < 1024) : w.cell? ⟨M, j, none⟩ = some (.int .u8 (a j : Int)) := h.2.2 j hj
theorem PA.hM {W : World} {g M : Nat} {w : World} {c a : Nat → Nat} (h : PA W g M w c a) : W.heap.size ≤ M := h.1
theorem PA.st {W : World} {g M : Nat} {w : World} {c a : Nat → Nat} (h : PA W g M w c a) : ST W.heap.size g w c := h.2.1.st
theorem PGn.drew {D n : Nat} {W : World} {f : Nat → Nat} (h : PGn D n W f) : PGn D n W.drew f := h
theorem PA.drew {W : World} {g M : Nat} {w : World} {c a : Nat → Nat} (h : PA W g M w c a) : PA W g M w.drew c a := h.below (Below.refl _ _).drew
theorem page_new (w : World) (n : Nat) (E : TypeId) (d : Nat → Nat) : PGn w.heap.size n (w.alloc (.cells (madeCells #[.int .u8 0] n) E)) (fun j => if j < 0 then d j else 0) :=
  ⟨by simp, fun j hj => by simp only [Nat.not_lt_zero, if_false]; exact made_cell w n E j hj, fun o => made_frozen w n E o⟩
theorem page_step {D n : Nat} {w : World} {d : Nat → Nat} {k : Nat} (h : PGn D n w (fun j => if j < k then d j else 0)) (hk : k < n) (x : Nat) (hx : x = d k) : PGn D n (w.setCell ⟨D, k, none⟩ (.int .u8 (x : Int))) (fun j => if j < k + 1 then d j else 0) :=
  (h.set k x hk).congr (fun j hj => by
    by_cases e : j = k
    · subst e; rw [if_pos rfl, if_pos (by omega), hx]
    · rw [if_neg e]
      by_cases e2 : j < k
      · rw [if_pos e2, if_pos (by omega)]
      · rw [if_neg e2, if_neg (by omega)])
/-- What the switch leaves. -/
def MEET (W : World) (g M : Nat) (c : Nat → Nat) (v6 v7 v8 v9 : Value) (w : World) : Prop :=
  ∃ (a n cp : Nat) (A : Option Addr) (d : Nat → Nat) (X : Bool), v6 = .int .i64 (a : Int) ∧ v7 = .slice A n cp ∧ v8 = .bool X ∧ v9 = .bool X ∧ a + n ≤ 1024 ∧ n ≤ cp ∧ PA W g M w (over c a n d) c ∧ BB M w A n d
end Go.Proofs.Ytodekehpaoahnaa
