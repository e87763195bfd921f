/- The argument: a list of 5 cells each. -/
import Derived.Test.YtohamecjiidjdaaLaA
import Derived.WalkKit
import Derived.OpenShut
import Derived.Deep.Slices
import Derived.Deep.Fields
import Derived.Below
import Derived.Lib.Hide
import Derived.ChangeSame
import Derived.Deep.Strs
namespace Go.Proofs.Ytohamecjiidjdaa
open Go.RowKit Go.ChangeShapes Go.WideShapes Go.Deep
set_option linter.unusedVariables false
set_option linter.unusedSimpArgs false

structure AC where
  w : Int
  a : Int
  f : Int
  g : Int
  r : Int
def encAC (p : AC) : List Value := [.int .i64 p.w, .int .i64 p.a, .int .i64 p.f, .int .i64 p.g, .int .i64 p.r]
def ACAt (W : World) (b off : Nat) (p : AC) : Prop := (W.cell? ⟨b, off, none⟩ = some (.int .i64 p.w) ∧ W.cell? ⟨b, off + 1, none⟩ = some (.int .i64 p.a) ∧ W.cell? ⟨b, off + 2, none⟩ = some (.int .i64 p.f) ∧ W.cell? ⟨b, off + 3, none⟩ = some (.int .i64 p.g) ∧ W.cell? ⟨b, off + 4, none⟩ = some (.int .i64 p.r)) ∧ (-9223372036854775808 ≤ p.w ∧ p.w ≤ 9223372036854775807) ∧ (-9223372036854775808 ≤ p.a ∧ p.a ≤ 9223372036854775807) ∧ (-9223372036854775808 ≤ p.f ∧ p.f ≤ 9223372036854775807) ∧ (-9223372036854775808 ≤ p.g ∧ p.g ≤ 9223372036854775807) ∧ (-9223372036854775808 ≤ p.r ∧ p.r ≤ 9223372036854775807)
theorem ACAt.keep {W W' : World} {b off : Nat} {p : AC} (h : ACAt W b off p) (hb : b < W.heap.size) (hB : Below W.heap.size W W') : ACAt W' b off p := by
  obtain ⟨⟨h0, h1, h2, h3, h4⟩, hr⟩ := h
  exact ⟨⟨(hB.cell (p := ⟨b, off, none⟩) hb).trans h0, (hB.cell (p := ⟨b, off + 1, none⟩) hb).trans h1, (hB.cell (p := ⟨b, off + 2, none⟩) hb).trans h2, (hB.cell (p := ⟨b, off + 3, none⟩) hb).trans h3, (hB.cell (p := ⟨b, off + 4, none⟩) hb).trans h4⟩, hr⟩
/-- A slice of acts. -/
def ACS (W : World) (A : Option Addr) (l : List AC) : Prop :=
  l = [] ∨ ∃ b off, A = some ⟨b, off, none⟩ ∧ b < W.heap.size ∧ ∀ i p, l[i]? = some p → ACAt W b (off + i * 5) p
theorem ACS.keep {W W' : World} {A : Option Addr} {l : List AC} (h : ACS W A l) (hB : Below W.heap.size W W') : ACS W' A l := by
  rcases h with h | ⟨b, off, e, h1, h2⟩
  · exact .inl h
  · exact .inr ⟨b, off, e, Nat.lt_of_lt_of_le h1 hB.size, fun i p hp => (h2 i p hp).keep h1 hB⟩
theorem ACaddp (b o j : Nat) : (⟨b, o, none⟩ : Addr).add j = ⟨b, o + j, none⟩ := by unfold Addr.add; split <;> simp_all
section
variable {H : Type} {enc : TypeId × Value → H} {w : World} {base : Nat} {spare : Nat → Bool} {held : Bool}
theorem AC_of {fuel : Nat} {cs : List Value} {x : DataW H × List MemPlace} (h : DataW.trod enc Try.prog w base spare held fuel 52 cs = some x) (hl : cs.length = 5) :
    ∃ p : AC, cs = encAC p ∧ (-9223372036854775808 ≤ p.w ∧ p.w ≤ 9223372036854775807) ∧ (-9223372036854775808 ≤ p.a ∧ p.a ≤ 9223372036854775807) ∧ (-9223372036854775808 ≤ p.f ∧ p.f ≤ 9223372036854775807) ∧ (-9223372036854775808 ≤ p.g ∧ p.g ≤ 9223372036854775807) ∧ (-9223372036854775808 ≤ p.r ∧ p.r ≤ 9223372036854775807) := by
  match cs, hl with
  | [c0, c1, c2, c3, c4], _ =>
    obtain ⟨ys0, n0, -, -, -, hlen0, hg0⟩ := DataW.trod_struct Try.underlying52 h
    have g0_0 : DataW.trod enc Try.prog w base spare held n0 3 (([c0, c1, c2, c3, c4].drop 0).take (Try.prog.cellsOf 3)) = ys0[0]? := hg0 0 _ rfl
    obtain ⟨y0_0, e0_0⟩ : ∃ y, ys0[0]? = some y := ⟨ys0[0]'(by rw [hlen0]; decide), List.getElem?_eq_getElem _⟩
    rw [e0_0] at g0_0
    rw [show Try.prog.cellsOf 3 = 1 by kernel_rfl] at g0_0
    replace g0_0 : DataW.trod enc Try.prog w base spare held n0 3 [c0] = some y0_0 := g0_0
    have g0_1 : DataW.trod enc Try.prog w base spare held n0 50 (([c0, c1, c2, c3, c4].drop 1).take (Try.prog.cellsOf 50)) = ys0[1]? := hg0 1 _ rfl
    obtain ⟨y0_1, e0_1⟩ : ∃ y, ys0[1]? = some y := ⟨ys0[1]'(by rw [hlen0]; decide), List.getElem?_eq_getElem _⟩
    rw [e0_1] at g0_1
    rw [show Try.prog.cellsOf 50 = 4 by kernel_rfl] at g0_1
    replace g0_1 : DataW.trod enc Try.prog w base spare held n0 50 [c1, c2, c3, c4] = some y0_1 := g0_1
    obtain ⟨zc0, ezc0, -, bzc0⟩ := DataW.trod_int Try.underlying3 g0_0
    injection ezc0 with ezc0 _
    subst ezc0
    obtain ⟨ys1, n1, -, -, -, hlen1, hg1⟩ := DataW.trod_struct Try.underlying50 g0_1
    have g1_0 : DataW.trod enc Try.prog w base spare held n1 3 (([c1, c2, c3, c4].drop 0).take (Try.prog.cellsOf 3)) = ys1[0]? := hg1 0 _ rfl
    obtain ⟨y1_0, e1_0⟩ : ∃ y, ys1[0]? = some y := ⟨ys1[0]'(by rw [hlen1]; decide), List.getElem?_eq_getElem _⟩
    rw [e1_0] at g1_0
    rw [show Try.prog.cellsOf 3 = 1 by kernel_rfl] at g1_0
    replace g1_0 : DataW.trod enc Try.prog w base spare held n1 3 [c1] = some y1_0 := g1_0
    have g1_1 : DataW.trod enc Try.prog w base spare held n1 3 (([c1, c2, c3, c4].drop 1).take (Try.prog.cellsOf 3)) = ys1[1]? := hg1 1 _ rfl
    obtain ⟨y1_1, e1_1⟩ : ∃ y, ys1[1]? = some y := ⟨ys1[1]'(by rw [hlen1]; decide), List.getElem?_eq_getElem _⟩
    rw [e1_1] at g1_1
    rw [show Try.prog.cellsOf 3 = 1 by kernel_rfl] at g1_1
    replace g1_1 : DataW.trod enc Try.prog w base spare held n1 3 [c2] = some y1_1 := g1_1
    have g1_2 : DataW.trod enc Try.prog w base spare held n1 3 (([c1, c2, c3, c4].drop 2).take (Try.prog.cellsOf 3)) = ys1[2]? := hg1 2 _ rfl
    obtain ⟨y1_2, e1_2⟩ : ∃ y, ys1[2]? = some y := ⟨ys1[2]'(by rw [hlen1]; decide), List.getElem?_eq_getElem _⟩
    rw [e1_2] at g1_2
    rw [show Try.prog.cellsOf 3 = 1 by kernel_rfl] at g1_2
    replace g1_2 : DataW.trod enc Try.prog w base spare held n1 3 [c3] = some y1_2 := g1_2
    have g1_3 : DataW.trod enc Try.prog w base spare held n1 3 (([c1, c2, c3, c4].drop 3).take (Try.prog.cellsOf 3)) = ys1[3]? := hg1 3 _ rfl
    obtain ⟨y1_3, e1_3⟩ : ∃ y, ys1[3]? = some y := ⟨ys1[3]'(by rw [hlen1]; decide), List.getElem?_eq_getElem _⟩
    rw [e1_3] at g1_3
    rw [show Try.prog.cellsOf 3 = 1 by kernel_rfl] at g1_3
    replace g1_3 : DataW.trod enc Try.prog w base spare held n1 3 [c4] = some y1_3 := g1_3
    obtain ⟨zc1, ezc1, -, bzc1⟩ := DataW.trod_int Try.underlying3 g1_0
    injection ezc1 with ezc1 _
    subst ezc1
    obtain ⟨zc2, ezc2, -, bzc2⟩ := DataW.trod_int Try.underlying3 g1_1
    injection ezc2 with ezc2 _
    subst ezc2
    obtain ⟨zc3, ezc3, -, bzc3⟩ := DataW.trod_int Try.underlying3 g1_2
    injection ezc3 with ezc3 _
    subst ezc3
    obtain ⟨zc4, ezc4, -, bzc4⟩ := DataW.trod_int Try.underlying3 g1_3
    injection ezc4 with ezc4 _
    subst ezc4
    exact ⟨⟨zc0, zc1, zc2, zc3, zc4⟩, rfl, bounds_i64 bzc0, bounds_i64 bzc1, bounds_i64 bzc2, bounds_i64 bzc3, bounds_i64 bzc4⟩
theorem ACs_of {fuel : Nat} {v : Value} {x : DataW H × List MemPlace} (h : DataW.trod enc Try.prog w base spare held fuel 44 [v] = some x) :
    ∃ (A : Option Addr) (l : List AC) (c : Nat), v = .slice A l.length c ∧ l.length ≤ 9223372036854775807 ∧ ACS w A l := by
  rcases open_slice Try.underlying44 h with ⟨hcs, _⟩ | ⟨a, len, cap, m, k, D, Pl, hcs, hb, hl, hm, hmm, hx, hi⟩
  · injection hcs with hv _
    subst hv
    exact ⟨none, [], 0, rfl, by simp, .inl rfl⟩
  · injection hcs with hv _
    subst hv
    have hlm : len ≤ m := by rw [hmm]; split <;> omega
    have hC : Try.prog.cellsOf 52 = 5 := by kernel_rfl
    have key : ∀ i, i < len → ∃ p : AC, (∀ j, j < 5 → w.cell? (a.add (i * 5 + j)) = (encAC p)[j]?) ∧ (-9223372036854775808 ≤ p.w ∧ p.w ≤ 9223372036854775807) ∧ (-9223372036854775808 ≤ p.a ∧ p.a ≤ 9223372036854775807) ∧ (-9223372036854775808 ≤ p.f ∧ p.f ≤ 9223372036854775807) ∧ (-9223372036854775808 ≤ p.g ∧ p.g ≤ 9223372036854775807) ∧ (-9223372036854775808 ≤ p.r ∧ p.r ≤ 9223372036854775807) := by
      intro i hin
      obtain ⟨cs', hc, ht'⟩ := hi i (by omega)
      rw [hC] at hc
      obtain ⟨_, hcl, hat⟩ := World.cells?_some hc
      obtain ⟨p, e, hbd⟩ := AC_of ht' hcl
      subst e
      refine ⟨p, fun j hj => ?_, hbd⟩
      rw [← hat j hj, add_add]
    haveI : Inhabited AC := ⟨⟨0, 0, 0, 0, 0⟩⟩
    obtain ⟨f, hf⟩ := choose_lt key
    have hll : ((List.range len).map f).length = len := by simp
    refine ⟨some a, (List.range len).map f, cap, by rw [hll], by rw [hll]; unfold maxLen at hm; omega, ?_⟩
    by_cases h0 : len = 0
    · exact .inl (by subst h0; rfl)
    · have g0 := (hf 0 (by omega)).1 0 (by decide)
      obtain ⟨b, off, spot⟩ := a
      have hspot : spot = none := by simpa [Addr.add] using World.cell?_spot (g0.trans (show (encAC (f 0))[0]? = some _ from rfl))
      subst hspot
      refine .inr ⟨b, off, rfl, World.block_lt_of_cell? w _ (g0.trans (show (encAC (f 0))[0]? = some _ from rfl)), fun i p hp => ?_⟩
      have hin : i < len := by have := (List.getElem?_eq_some_iff.1 hp).1; simpa using this
      have e : f i = p := by simpa [hin] using hp
      obtain ⟨k1, kb⟩ := hf i hin
      rw [e] at k1 kb
      have kk : ∀ j, j < 5 → w.cell? ⟨b, off + i * 5 + j, none⟩ = (encAC p)[j]? := fun j hj => by
        have := k1 j hj
        rw [ACaddp] at this
        rw [← this, Nat.add_assoc]
      exact ⟨⟨kk 0 (by decide), kk 1 (by decide), kk 2 (by decide), kk 3 (by decide), kk 4 (by decide)⟩, kb⟩
end
end Go.Proofs.Ytohamecjiidjdaa
