/- The argument: a list of 8 cells each. -/
import Derived.Test.YtpciigahikciiaaRegsE
import Derived.WalkKit
import Derived.OpenShut
import Derived.Deep.Slices
import Derived.Deep.Fields
import Derived.Below
import Derived.Lib.Hide
import Derived.ChangeSame
import Derived.Deep.Strs
namespace Go.Proofs.Ytpciigahikciiaa
open Go.RowKit Go.ChangeShapes Go.WideShapes Go.Deep
set_option linter.unusedVariables false
set_option linter.unusedSimpArgs false

structure AC where
  w : Int
  h : Int
  b : Int
  l : Int
  c : Int
  p : Int
  t : Int
  v : Bool
def encAC (p : AC) : List Value := [.int .i64 p.w, .int .i64 p.h, .int .i64 p.b, .int .i64 p.l, .int .i64 p.c, .int .i64 p.p, .int .i64 p.t, .bool p.v]
def ACAt (W : World) (b off : Nat) (p : AC) : Prop := (W.cell? ⟨b, off, none⟩ = some (.int .i64 p.w) ∧ W.cell? ⟨b, off + 1, none⟩ = some (.int .i64 p.h) ∧ W.cell? ⟨b, off + 2, none⟩ = some (.int .i64 p.b) ∧ W.cell? ⟨b, off + 3, none⟩ = some (.int .i64 p.l) ∧ W.cell? ⟨b, off + 4, none⟩ = some (.int .i64 p.c) ∧ W.cell? ⟨b, off + 5, none⟩ = some (.int .i64 p.p) ∧ W.cell? ⟨b, off + 6, none⟩ = some (.int .i64 p.t) ∧ W.cell? ⟨b, off + 7, none⟩ = some (.bool p.v)) ∧ (-9223372036854775808 ≤ p.w ∧ p.w ≤ 9223372036854775807) ∧ (-9223372036854775808 ≤ p.h ∧ p.h ≤ 9223372036854775807) ∧ (-9223372036854775808 ≤ p.b ∧ p.b ≤ 9223372036854775807) ∧ (-9223372036854775808 ≤ p.l ∧ p.l ≤ 9223372036854775807) ∧ (-9223372036854775808 ≤ p.c ∧ p.c ≤ 9223372036854775807) ∧ (-9223372036854775808 ≤ p.p ∧ p.p ≤ 9223372036854775807) ∧ (-9223372036854775808 ≤ p.t ∧ p.t ≤ 9223372036854775807)
theorem ACAt.keep {W W' : World} {b off : Nat} {p : AC} (h : ACAt W b off p) (hb : b < W.heap.size) (hB : Below W.heap.size W W') : ACAt W' b off p := by
  obtain ⟨⟨h0, h1, h2, h3, h4, h5, h6, h7⟩, hr⟩ := h
  exact ⟨⟨(hB.cell (p := ⟨b, off, none⟩) hb).trans h0, (hB.cell (p := ⟨b, off + 1, none⟩) hb).trans h1, (hB.cell (p := ⟨b, off + 2, none⟩) hb).trans h2, (hB.cell (p := ⟨b, off + 3, none⟩) hb).trans h3, (hB.cell (p := ⟨b, off + 4, none⟩) hb).trans h4, (hB.cell (p := ⟨b, off + 5, none⟩) hb).trans h5, (hB.cell (p := ⟨b, off + 6, none⟩) hb).trans h6, (hB.cell (p := ⟨b, off + 7, none⟩) hb).trans h7⟩, hr⟩
/-- A slice of acts. -/
def ACS (W : World) (A : Option Addr) (l : List AC) : Prop :=
  l = [] ∨ ∃ b off, A = some ⟨b, off, none⟩ ∧ b < W.heap.size ∧ ∀ i p, l[i]? = some p → ACAt W b (off + i * 8) p
theorem ACS.keep {W W' : World} {A : Option Addr} {l : List AC} (h : ACS W A l) (hB : Below W.heap.size W W') : ACS W' A l := by
  rcases h with h | ⟨b, off, e, h1, h2⟩
  · exact .inl h
  · exact .inr ⟨b, off, e, Nat.lt_of_lt_of_le h1 hB.size, fun i p hp => (h2 i p hp).keep h1 hB⟩
theorem ACaddp (b o j : Nat) : (⟨b, o, none⟩ : Addr).add j = ⟨b, o + j, none⟩ := by unfold Addr.add; split <;> simp_all
section
variable {H : Type} {enc : TypeId × Value → H} {w : World} {base : Nat} {spare : Nat → Bool} {held : Bool}
theorem AC_of {fuel : Nat} {cs : List Value} {x : DataW H × List MemPlace} (h : DataW.trod enc Try.prog w base spare held fuel 31 cs = some x) (hl : cs.length = 8) :
    ∃ p : AC, cs = encAC p ∧ (-9223372036854775808 ≤ p.w ∧ p.w ≤ 9223372036854775807) ∧ (-9223372036854775808 ≤ p.h ∧ p.h ≤ 9223372036854775807) ∧ (-9223372036854775808 ≤ p.b ∧ p.b ≤ 9223372036854775807) ∧ (-9223372036854775808 ≤ p.l ∧ p.l ≤ 9223372036854775807) ∧ (-9223372036854775808 ≤ p.c ∧ p.c ≤ 9223372036854775807) ∧ (-9223372036854775808 ≤ p.p ∧ p.p ≤ 9223372036854775807) ∧ (-9223372036854775808 ≤ p.t ∧ p.t ≤ 9223372036854775807) := by
  match cs, hl with
  | [c0, c1, c2, c3, c4, c5, c6, c7], _ =>
    obtain ⟨ys0, n0, -, -, -, hlen0, hg0⟩ := DataW.trod_struct Try.underlying31 h
    have g0_0 : DataW.trod enc Try.prog w base spare held n0 3 (([c0, c1, c2, c3, c4, c5, c6, c7].drop 0).take (Try.prog.cellsOf 3)) = ys0[0]? := hg0 0 _ rfl
    obtain ⟨y0_0, e0_0⟩ : ∃ y, ys0[0]? = some y := ⟨ys0[0]'(by rw [hlen0]; decide), List.getElem?_eq_getElem _⟩
    rw [e0_0] at g0_0
    rw [show Try.prog.cellsOf 3 = 1 by kernel_rfl] at g0_0
    replace g0_0 : DataW.trod enc Try.prog w base spare held n0 3 [c0] = some y0_0 := g0_0
    have g0_1 : DataW.trod enc Try.prog w base spare held n0 3 (([c0, c1, c2, c3, c4, c5, c6, c7].drop 1).take (Try.prog.cellsOf 3)) = ys0[1]? := hg0 1 _ rfl
    obtain ⟨y0_1, e0_1⟩ : ∃ y, ys0[1]? = some y := ⟨ys0[1]'(by rw [hlen0]; decide), List.getElem?_eq_getElem _⟩
    rw [e0_1] at g0_1
    rw [show Try.prog.cellsOf 3 = 1 by kernel_rfl] at g0_1
    replace g0_1 : DataW.trod enc Try.prog w base spare held n0 3 [c1] = some y0_1 := g0_1
    have g0_2 : DataW.trod enc Try.prog w base spare held n0 28 (([c0, c1, c2, c3, c4, c5, c6, c7].drop 2).take (Try.prog.cellsOf 28)) = ys0[2]? := hg0 2 _ rfl
    obtain ⟨y0_2, e0_2⟩ : ∃ y, ys0[2]? = some y := ⟨ys0[2]'(by rw [hlen0]; decide), List.getElem?_eq_getElem _⟩
    rw [e0_2] at g0_2
    rw [show Try.prog.cellsOf 28 = 6 by kernel_rfl] at g0_2
    replace g0_2 : DataW.trod enc Try.prog w base spare held n0 28 [c2, c3, c4, c5, c6, c7] = some y0_2 := g0_2
    obtain ⟨zc0, ezc0, -, bzc0⟩ := DataW.trod_int Try.underlying3 g0_0
    injection ezc0 with ezc0 _
    subst ezc0
    obtain ⟨zc1, ezc1, -, bzc1⟩ := DataW.trod_int Try.underlying3 g0_1
    injection ezc1 with ezc1 _
    subst ezc1
    obtain ⟨ys1, n1, -, -, -, hlen1, hg1⟩ := DataW.trod_struct Try.underlying28 g0_2
    have g1_0 : DataW.trod enc Try.prog w base spare held n1 3 (([c2, c3, c4, c5, c6, c7].drop 0).take (Try.prog.cellsOf 3)) = ys1[0]? := hg1 0 _ rfl
    obtain ⟨y1_0, e1_0⟩ : ∃ y, ys1[0]? = some y := ⟨ys1[0]'(by rw [hlen1]; decide), List.getElem?_eq_getElem _⟩
    rw [e1_0] at g1_0
    rw [show Try.prog.cellsOf 3 = 1 by kernel_rfl] at g1_0
    replace g1_0 : DataW.trod enc Try.prog w base spare held n1 3 [c2] = some y1_0 := g1_0
    have g1_1 : DataW.trod enc Try.prog w base spare held n1 3 (([c2, c3, c4, c5, c6, c7].drop 1).take (Try.prog.cellsOf 3)) = ys1[1]? := hg1 1 _ rfl
    obtain ⟨y1_1, e1_1⟩ : ∃ y, ys1[1]? = some y := ⟨ys1[1]'(by rw [hlen1]; decide), List.getElem?_eq_getElem _⟩
    rw [e1_1] at g1_1
    rw [show Try.prog.cellsOf 3 = 1 by kernel_rfl] at g1_1
    replace g1_1 : DataW.trod enc Try.prog w base spare held n1 3 [c3] = some y1_1 := g1_1
    have g1_2 : DataW.trod enc Try.prog w base spare held n1 3 (([c2, c3, c4, c5, c6, c7].drop 2).take (Try.prog.cellsOf 3)) = ys1[2]? := hg1 2 _ rfl
    obtain ⟨y1_2, e1_2⟩ : ∃ y, ys1[2]? = some y := ⟨ys1[2]'(by rw [hlen1]; decide), List.getElem?_eq_getElem _⟩
    rw [e1_2] at g1_2
    rw [show Try.prog.cellsOf 3 = 1 by kernel_rfl] at g1_2
    replace g1_2 : DataW.trod enc Try.prog w base spare held n1 3 [c4] = some y1_2 := g1_2
    have g1_3 : DataW.trod enc Try.prog w base spare held n1 3 (([c2, c3, c4, c5, c6, c7].drop 3).take (Try.prog.cellsOf 3)) = ys1[3]? := hg1 3 _ rfl
    obtain ⟨y1_3, e1_3⟩ : ∃ y, ys1[3]? = some y := ⟨ys1[3]'(by rw [hlen1]; decide), List.getElem?_eq_getElem _⟩
    rw [e1_3] at g1_3
    rw [show Try.prog.cellsOf 3 = 1 by kernel_rfl] at g1_3
    replace g1_3 : DataW.trod enc Try.prog w base spare held n1 3 [c5] = some y1_3 := g1_3
    have g1_4 : DataW.trod enc Try.prog w base spare held n1 3 (([c2, c3, c4, c5, c6, c7].drop 4).take (Try.prog.cellsOf 3)) = ys1[4]? := hg1 4 _ rfl
    obtain ⟨y1_4, e1_4⟩ : ∃ y, ys1[4]? = some y := ⟨ys1[4]'(by rw [hlen1]; decide), List.getElem?_eq_getElem _⟩
    rw [e1_4] at g1_4
    rw [show Try.prog.cellsOf 3 = 1 by kernel_rfl] at g1_4
    replace g1_4 : DataW.trod enc Try.prog w base spare held n1 3 [c6] = some y1_4 := g1_4
    have g1_5 : DataW.trod enc Try.prog w base spare held n1 4 (([c2, c3, c4, c5, c6, c7].drop 5).take (Try.prog.cellsOf 4)) = ys1[5]? := hg1 5 _ rfl
    obtain ⟨y1_5, e1_5⟩ : ∃ y, ys1[5]? = some y := ⟨ys1[5]'(by rw [hlen1]; decide), List.getElem?_eq_getElem _⟩
    rw [e1_5] at g1_5
    rw [show Try.prog.cellsOf 4 = 1 by kernel_rfl] at g1_5
    replace g1_5 : DataW.trod enc Try.prog w base spare held n1 4 [c7] = some y1_5 := g1_5
    obtain ⟨zc2, ezc2, -, bzc2⟩ := DataW.trod_int Try.underlying3 g1_0
    injection ezc2 with ezc2 _
    subst ezc2
    obtain ⟨zc3, ezc3, -, bzc3⟩ := DataW.trod_int Try.underlying3 g1_1
    injection ezc3 with ezc3 _
    subst ezc3
    obtain ⟨zc4, ezc4, -, bzc4⟩ := DataW.trod_int Try.underlying3 g1_2
    injection ezc4 with ezc4 _
    subst ezc4
    obtain ⟨zc5, ezc5, -, bzc5⟩ := DataW.trod_int Try.underlying3 g1_3
    injection ezc5 with ezc5 _
    subst ezc5
    obtain ⟨zc6, ezc6, -, bzc6⟩ := DataW.trod_int Try.underlying3 g1_4
    injection ezc6 with ezc6 _
    subst ezc6
    obtain ⟨zc7, ezc7, -⟩ := DataW.trod_bool Try.underlying4 g1_5
    injection ezc7 with ezc7 _
    subst ezc7
    exact ⟨⟨zc0, zc1, zc2, zc3, zc4, zc5, zc6, zc7⟩, rfl, bounds_i64 bzc0, bounds_i64 bzc1, bounds_i64 bzc2, bounds_i64 bzc3, bounds_i64 bzc4, bounds_i64 bzc5, bounds_i64 bzc6⟩
theorem ACs_of {fuel : Nat} {v : Value} {x : DataW H × List MemPlace} (h : DataW.trod enc Try.prog w base spare held fuel 22 [v] = some x) :
    ∃ (A : Option Addr) (l : List AC) (c : Nat), v = .slice A l.length c ∧ l.length ≤ 9223372036854775807 ∧ ACS w A l := by
  rcases open_slice Try.underlying22 h with ⟨hcs, _⟩ | ⟨a, len, cap, m, k, D, Pl, hcs, hb, hl, hm, hmm, hx, hi⟩
  · injection hcs with hv _
    subst hv
    exact ⟨none, [], 0, rfl, by simp, .inl rfl⟩
  · injection hcs with hv _
    subst hv
    have hlm : len ≤ m := by rw [hmm]; split <;> omega
    have hC : Try.prog.cellsOf 31 = 8 := by kernel_rfl
    have key : ∀ i, i < len → ∃ p : AC, (∀ j, j < 8 → w.cell? (a.add (i * 8 + j)) = (encAC p)[j]?) ∧ (-9223372036854775808 ≤ p.w ∧ p.w ≤ 9223372036854775807) ∧ (-9223372036854775808 ≤ p.h ∧ p.h ≤ 9223372036854775807) ∧ (-9223372036854775808 ≤ p.b ∧ p.b ≤ 9223372036854775807) ∧ (-9223372036854775808 ≤ p.l ∧ p.l ≤ 9223372036854775807) ∧ (-9223372036854775808 ≤ p.c ∧ p.c ≤ 9223372036854775807) ∧ (-9223372036854775808 ≤ p.p ∧ p.p ≤ 9223372036854775807) ∧ (-9223372036854775808 ≤ p.t ∧ p.t ≤ 9223372036854775807) := by
      intro i hin
      obtain ⟨cs', hc, ht'⟩ := hi i (by omega)
      rw [hC] at hc
      obtain ⟨_, hcl, hat⟩ := World.cells?_some hc
      obtain ⟨p, e, hbd⟩ := AC_of ht' hcl
      subst e
      refine ⟨p, fun j hj => ?_, hbd⟩
      rw [← hat j hj, add_add]
    haveI : Inhabited AC := ⟨⟨0, 0, 0, 0, 0, 0, 0, false⟩⟩
    obtain ⟨f, hf⟩ := choose_lt key
    have hll : ((List.range len).map f).length = len := by simp
    refine ⟨some a, (List.range len).map f, cap, by rw [hll], by rw [hll]; unfold maxLen at hm; omega, ?_⟩
    by_cases h0 : len = 0
    · exact .inl (by subst h0; rfl)
    · have g0 := (hf 0 (by omega)).1 0 (by decide)
      obtain ⟨b, off, spot⟩ := a
      have hspot : spot = none := by simpa [Addr.add] using World.cell?_spot (g0.trans (show (encAC (f 0))[0]? = some _ from rfl))
      subst hspot
      refine .inr ⟨b, off, rfl, World.block_lt_of_cell? w _ (g0.trans (show (encAC (f 0))[0]? = some _ from rfl)), fun i p hp => ?_⟩
      have hin : i < len := by have := (List.getElem?_eq_some_iff.1 hp).1; simpa using this
      have e : f i = p := by simpa [hin] using hp
      obtain ⟨k1, kb⟩ := hf i hin
      rw [e] at k1 kb
      have kk : ∀ j, j < 8 → w.cell? ⟨b, off + i * 8 + j, none⟩ = (encAC p)[j]? := fun j hj => by
        have := k1 j hj
        rw [ACaddp] at this
        rw [← this, Nat.add_assoc]
      exact ⟨⟨kk 0 (by decide), kk 1 (by decide), kk 2 (by decide), kk 3 (by decide), kk 4 (by decide), kk 5 (by decide), kk 6 (by decide), kk 7 (by decide)⟩, kb⟩
end
end Go.Proofs.Ytpciigahikciiaa
