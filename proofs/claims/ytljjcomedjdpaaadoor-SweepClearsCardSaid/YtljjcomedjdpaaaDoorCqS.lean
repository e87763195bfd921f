/- The argument: a list of 6 cells each. -/
import Derived.Test.YtljjcomedjdpaaaDoorRows
import Derived.Test.YtljjcomedjdpaaaDoorInt
import Derived.WalkKit
import Derived.OpenShut
import Derived.Deep.Slices
import Derived.Deep.Fields
import Derived.Below
import Derived.Lib.Hide
import Derived.ChangeSame
import Derived.Deep.Strs
namespace Go.Proofs.YtljjcomedjdpaaaDoor
set_option maxRecDepth 100000
open Go.RowKit Go.ChangeShapes Go.WideShapes Go.Deep
set_option linter.unusedVariables false
set_option linter.unusedSimpArgs false

structure CQ where
  b : Int
  l : Int
  c : Int
  p : Int
  t : Int
  v : Bool
def encCQ (p : CQ) : List Value := [.int .i64 p.b, .int .i64 p.l, .int .i64 p.c, .int .i64 p.p, .int .i64 p.t, .bool p.v]
def CQAt (W : World) (b off : Nat) (p : CQ) : Prop := (W.cell? ⟨b, off, none⟩ = some (.int .i64 p.b) ∧ W.cell? ⟨b, off + 1, none⟩ = some (.int .i64 p.l) ∧ W.cell? ⟨b, off + 2, none⟩ = some (.int .i64 p.c) ∧ W.cell? ⟨b, off + 3, none⟩ = some (.int .i64 p.p) ∧ W.cell? ⟨b, off + 4, none⟩ = some (.int .i64 p.t) ∧ W.cell? ⟨b, off + 5, none⟩ = some (.bool p.v)) ∧ (-9223372036854775808 ≤ p.b ∧ p.b ≤ 9223372036854775807) ∧ (-9223372036854775808 ≤ p.l ∧ p.l ≤ 9223372036854775807) ∧ (-9223372036854775808 ≤ p.c ∧ p.c ≤ 9223372036854775807) ∧ (-9223372036854775808 ≤ p.p ∧ p.p ≤ 9223372036854775807) ∧ (-9223372036854775808 ≤ p.t ∧ p.t ≤ 9223372036854775807)
theorem CQAt.keep {W W' : World} {b off : Nat} {p : CQ} (h : CQAt W b off p) (hb : b < W.heap.size) (hB : Below W.heap.size W W') : CQAt W' b off p := by
  obtain ⟨⟨h0, h1, h2, h3, h4, h5⟩, hr⟩ := h
  exact ⟨⟨(hB.cell (p := ⟨b, off, none⟩) hb).trans h0, (hB.cell (p := ⟨b, off + 1, none⟩) hb).trans h1, (hB.cell (p := ⟨b, off + 2, none⟩) hb).trans h2, (hB.cell (p := ⟨b, off + 3, none⟩) hb).trans h3, (hB.cell (p := ⟨b, off + 4, none⟩) hb).trans h4, (hB.cell (p := ⟨b, off + 5, none⟩) hb).trans h5⟩, hr⟩
/-- A slice of acts. -/
def CQS (W : World) (A : Option Addr) (l : List CQ) : Prop :=
  l = [] ∨ ∃ b off, A = some ⟨b, off, none⟩ ∧ b < W.heap.size ∧ ∀ i p, l[i]? = some p → CQAt W b (off + i * 6) p
theorem CQS.keep {W W' : World} {A : Option Addr} {l : List CQ} (h : CQS W A l) (hB : Below W.heap.size W W') : CQS W' A l := by
  rcases h with h | ⟨b, off, e, h1, h2⟩
  · exact .inl h
  · exact .inr ⟨b, off, e, Nat.lt_of_lt_of_le h1 hB.size, fun i p hp => (h2 i p hp).keep h1 hB⟩
theorem CQaddp (b o j : Nat) : (⟨b, o, none⟩ : Addr).add j = ⟨b, o + j, none⟩ := by unfold Addr.add; split <;> simp_all
section
variable {H : Type} {enc : TypeId × Value → H} {w : World} {base : Nat} {spare : Nat → Bool} {held : Bool}
theorem CQ_of {fuel : Nat} {cs : List Value} {x : DataW H × List MemPlace} (h : DataW.trod enc Tryd.prog w base spare held fuel 37 cs = some x) (hl : cs.length = 6) :
    ∃ p : CQ, cs = encCQ p ∧ (-9223372036854775808 ≤ p.b ∧ p.b ≤ 9223372036854775807) ∧ (-9223372036854775808 ≤ p.l ∧ p.l ≤ 9223372036854775807) ∧ (-9223372036854775808 ≤ p.c ∧ p.c ≤ 9223372036854775807) ∧ (-9223372036854775808 ≤ p.p ∧ p.p ≤ 9223372036854775807) ∧ (-9223372036854775808 ≤ p.t ∧ p.t ≤ 9223372036854775807) := by
  match cs, hl with
  | [c0, c1, c2, c3, c4, c5], _ =>
    obtain ⟨ys0, n0, -, -, -, hlen0, hg0⟩ := DataW.trod_struct Tryd.underlying37 h
    have g0_0 : DataW.trod enc Tryd.prog w base spare held n0 3 (([c0, c1, c2, c3, c4, c5].drop 0).take (Tryd.prog.cellsOf 3)) = ys0[0]? := hg0 0 _ rfl
    obtain ⟨y0_0, e0_0⟩ : ∃ y, ys0[0]? = some y := ⟨ys0[0]'(by rw [hlen0]; decide), List.getElem?_eq_getElem _⟩
    rw [e0_0] at g0_0
    rw [show Tryd.prog.cellsOf 3 = 1 by kernel_rfl] at g0_0
    replace g0_0 : DataW.trod enc Tryd.prog w base spare held n0 3 [c0] = some y0_0 := g0_0
    have g0_1 : DataW.trod enc Tryd.prog w base spare held n0 3 (([c0, c1, c2, c3, c4, c5].drop 1).take (Tryd.prog.cellsOf 3)) = ys0[1]? := hg0 1 _ rfl
    obtain ⟨y0_1, e0_1⟩ : ∃ y, ys0[1]? = some y := ⟨ys0[1]'(by rw [hlen0]; decide), List.getElem?_eq_getElem _⟩
    rw [e0_1] at g0_1
    rw [show Tryd.prog.cellsOf 3 = 1 by kernel_rfl] at g0_1
    replace g0_1 : DataW.trod enc Tryd.prog w base spare held n0 3 [c1] = some y0_1 := g0_1
    have g0_2 : DataW.trod enc Tryd.prog w base spare held n0 3 (([c0, c1, c2, c3, c4, c5].drop 2).take (Tryd.prog.cellsOf 3)) = ys0[2]? := hg0 2 _ rfl
    obtain ⟨y0_2, e0_2⟩ : ∃ y, ys0[2]? = some y := ⟨ys0[2]'(by rw [hlen0]; decide), List.getElem?_eq_getElem _⟩
    rw [e0_2] at g0_2
    rw [show Tryd.prog.cellsOf 3 = 1 by kernel_rfl] at g0_2
    replace g0_2 : DataW.trod enc Tryd.prog w base spare held n0 3 [c2] = some y0_2 := g0_2
    have g0_3 : DataW.trod enc Tryd.prog w base spare held n0 3 (([c0, c1, c2, c3, c4, c5].drop 3).take (Tryd.prog.cellsOf 3)) = ys0[3]? := hg0 3 _ rfl
    obtain ⟨y0_3, e0_3⟩ : ∃ y, ys0[3]? = some y := ⟨ys0[3]'(by rw [hlen0]; decide), List.getElem?_eq_getElem _⟩
    rw [e0_3] at g0_3
    rw [show Tryd.prog.cellsOf 3 = 1 by kernel_rfl] at g0_3
    replace g0_3 : DataW.trod enc Tryd.prog w base spare held n0 3 [c3] = some y0_3 := g0_3
    have g0_4 : DataW.trod enc Tryd.prog w base spare held n0 3 (([c0, c1, c2, c3, c4, c5].drop 4).take (Tryd.prog.cellsOf 3)) = ys0[4]? := hg0 4 _ rfl
    obtain ⟨y0_4, e0_4⟩ : ∃ y, ys0[4]? = some y := ⟨ys0[4]'(by rw [hlen0]; decide), List.getElem?_eq_getElem _⟩
    rw [e0_4] at g0_4
    rw [show Tryd.prog.cellsOf 3 = 1 by kernel_rfl] at g0_4
    replace g0_4 : DataW.trod enc Tryd.prog w base spare held n0 3 [c4] = some y0_4 := g0_4
    have g0_5 : DataW.trod enc Tryd.prog w base spare held n0 4 (([c0, c1, c2, c3, c4, c5].drop 5).take (Tryd.prog.cellsOf 4)) = ys0[5]? := hg0 5 _ rfl
    obtain ⟨y0_5, e0_5⟩ : ∃ y, ys0[5]? = some y := ⟨ys0[5]'(by rw [hlen0]; decide), List.getElem?_eq_getElem _⟩
    rw [e0_5] at g0_5
    rw [show Tryd.prog.cellsOf 4 = 1 by kernel_rfl] at g0_5
    replace g0_5 : DataW.trod enc Tryd.prog w base spare held n0 4 [c5] = some y0_5 := g0_5
    obtain ⟨zc0, ezc0, -, bzc0⟩ := DataW.trod_int Tryd.underlying3 g0_0
    injection ezc0 with ezc0 _
    subst ezc0
    obtain ⟨zc1, ezc1, -, bzc1⟩ := DataW.trod_int Tryd.underlying3 g0_1
    injection ezc1 with ezc1 _
    subst ezc1
    obtain ⟨zc2, ezc2, -, bzc2⟩ := DataW.trod_int Tryd.underlying3 g0_2
    injection ezc2 with ezc2 _
    subst ezc2
    obtain ⟨zc3, ezc3, -, bzc3⟩ := DataW.trod_int Tryd.underlying3 g0_3
    injection ezc3 with ezc3 _
    subst ezc3
    obtain ⟨zc4, ezc4, -, bzc4⟩ := DataW.trod_int Tryd.underlying3 g0_4
    injection ezc4 with ezc4 _
    subst ezc4
    obtain ⟨zc5, ezc5, -⟩ := DataW.trod_bool Tryd.underlying4 g0_5
    injection ezc5 with ezc5 _
    subst ezc5
    exact ⟨⟨zc0, zc1, zc2, zc3, zc4, zc5⟩, rfl, bounds_i64 bzc0, bounds_i64 bzc1, bounds_i64 bzc2, bounds_i64 bzc3, bounds_i64 bzc4⟩
theorem CQs_of {fuel : Nat} {v : Value} {x : DataW H × List MemPlace} (h : DataW.trod enc Tryd.prog w base spare held fuel 22 [v] = some x) :
    ∃ (A : Option Addr) (l : List CQ) (c : Nat), v = .slice A l.length c ∧ l.length ≤ 9223372036854775807 ∧ CQS w A l := by
  rcases open_slice Tryd.underlying22 h with ⟨hcs, _⟩ | ⟨a, len, cap, m, k, D, Pl, hcs, hb, hl, hm, hmm, hx, hi⟩
  · injection hcs with hv _
    subst hv
    exact ⟨none, [], 0, rfl, by simp, .inl rfl⟩
  · injection hcs with hv _
    subst hv
    have hlm : len ≤ m := by rw [hmm]; split <;> omega
    have hC : Tryd.prog.cellsOf 37 = 6 := by kernel_rfl
    have key : ∀ i, i < len → ∃ p : CQ, (∀ j, j < 6 → w.cell? (a.add (i * 6 + j)) = (encCQ p)[j]?) ∧ (-9223372036854775808 ≤ p.b ∧ p.b ≤ 9223372036854775807) ∧ (-9223372036854775808 ≤ p.l ∧ p.l ≤ 9223372036854775807) ∧ (-9223372036854775808 ≤ p.c ∧ p.c ≤ 9223372036854775807) ∧ (-9223372036854775808 ≤ p.p ∧ p.p ≤ 9223372036854775807) ∧ (-9223372036854775808 ≤ p.t ∧ p.t ≤ 9223372036854775807) := by
      intro i hin
      obtain ⟨cs', hc, ht'⟩ := hi i (by omega)
      rw [hC] at hc
      obtain ⟨_, hcl, hat⟩ := World.cells?_some hc
      obtain ⟨p, e, hbd⟩ := CQ_of ht' hcl
      subst e
      refine ⟨p, fun j hj => ?_, hbd⟩
      rw [← hat j hj, add_add]
    haveI : Inhabited CQ := ⟨⟨0, 0, 0, 0, 0, false⟩⟩
    obtain ⟨f, hf⟩ := choose_lt key
    have hll : ((List.range len).map f).length = len := by simp
    refine ⟨some a, (List.range len).map f, cap, by rw [hll], by rw [hll]; unfold maxLen at hm; omega, ?_⟩
    by_cases h0 : len = 0
    · exact .inl (by subst h0; rfl)
    · have g0 := (hf 0 (by omega)).1 0 (by decide)
      obtain ⟨b, off, spot⟩ := a
      have hspot : spot = none := by simpa [Addr.add] using World.cell?_spot (g0.trans (show (encCQ (f 0))[0]? = some _ from rfl))
      subst hspot
      refine .inr ⟨b, off, rfl, World.block_lt_of_cell? w _ (g0.trans (show (encCQ (f 0))[0]? = some _ from rfl)), fun i p hp => ?_⟩
      have hin : i < len := by have := (List.getElem?_eq_some_iff.1 hp).1; simpa using this
      have e : f i = p := by simpa [hin] using hp
      obtain ⟨k1, kb⟩ := hf i hin
      rw [e] at k1 kb
      have kk : ∀ j, j < 6 → w.cell? ⟨b, off + i * 6 + j, none⟩ = (encCQ p)[j]? := fun j hj => by
        have := k1 j hj
        rw [CQaddp] at this
        rw [← this, Nat.add_assoc]
      exact ⟨⟨kk 0 (by decide), kk 1 (by decide), kk 2 (by decide), kk 3 (by decide), kk 4 (by decide), kk 5 (by decide)⟩, kb⟩
end
end Go.Proofs.YtljjcomedjdpaaaDoor

