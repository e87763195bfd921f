/- The argument: a list of 2 cells each. -/
import Derived.Test.YtljjcomedjdpaaaDoorRows
import Derived.Test.YtljjcomedjdpaaaDoorInt
import Derived.WalkKit
import Derived.OpenShut
import Derived.Deep.Slices
import Derived.Deep.Fields
import Derived.Below
import Derived.Lib.Hide
import Derived.ChangeSame
import Derived.Deep.Strs
namespace Go.Proofs.YtljjcomedjdpaaaDoor
set_option maxRecDepth 100000
open Go.RowKit Go.ChangeShapes Go.WideShapes Go.Deep
set_option linter.unusedVariables false
set_option linter.unusedSimpArgs false

structure SQ where
  b : Int
  l : Int
def encSQ (p : SQ) : List Value := [.int .i64 p.b, .int .i64 p.l]
def SQAt (W : World) (b off : Nat) (p : SQ) : Prop := (W.cell? ⟨b, off, none⟩ = some (.int .i64 p.b) ∧ W.cell? ⟨b, off + 1, none⟩ = some (.int .i64 p.l)) ∧ (-9223372036854775808 ≤ p.b ∧ p.b ≤ 9223372036854775807) ∧ (-9223372036854775808 ≤ p.l ∧ p.l ≤ 9223372036854775807)
theorem SQAt.keep {W W' : World} {b off : Nat} {p : SQ} (h : SQAt W b off p) (hb : b < W.heap.size) (hB : Below W.heap.size W W') : SQAt W' b off p := by
  obtain ⟨⟨h0, h1⟩, hr⟩ := h
  exact ⟨⟨(hB.cell (p := ⟨b, off, none⟩) hb).trans h0, (hB.cell (p := ⟨b, off + 1, none⟩) hb).trans h1⟩, hr⟩
/-- A slice of acts. -/
def SQS (W : World) (A : Option Addr) (l : List SQ) : Prop :=
  l = [] ∨ ∃ b off, A = some ⟨b, off, none⟩ ∧ b < W.heap.size ∧ ∀ i p, l[i]? = some p → SQAt W b (off + i * 2) p
theorem SQS.keep {W W' : World} {A : Option Addr} {l : List SQ} (h : SQS W A l) (hB : Below W.heap.size W W') : SQS W' A l := by
  rcases h with h | ⟨b, off, e, h1, h2⟩
  · exact .inl h
  · exact .inr ⟨b, off, e, Nat.lt_of_lt_of_le h1 hB.size, fun i p hp => (h2 i p hp).keep h1 hB⟩
theorem SQaddp (b o j : Nat) : (⟨b, o, none⟩ : Addr).add j = ⟨b, o + j, none⟩ := by unfold Addr.add; split <;> simp_all
section
variable {H : Type} {enc : TypeId × Value → H} {w : World} {base : Nat} {spare : Nat → Bool} {held : Bool}
theorem SQ_of {fuel : Nat} {cs : List Value} {x : DataW H × List MemPlace} (h : DataW.trod enc Tryd.prog w base spare held fuel 33 cs = some x) (hl : cs.length = 2) :
    ∃ p : SQ, cs = encSQ p ∧ (-9223372036854775808 ≤ p.b ∧ p.b ≤ 9223372036854775807) ∧ (-9223372036854775808 ≤ p.l ∧ p.l ≤ 9223372036854775807) := by
  match cs, hl with
  | [c0, c1], _ =>
    obtain ⟨ys0, n0, -, -, -, hlen0, hg0⟩ := DataW.trod_struct Tryd.underlying33 h
    have g0_0 : DataW.trod enc Tryd.prog w base spare held n0 3 (([c0, c1].drop 0).take (Tryd.prog.cellsOf 3)) = ys0[0]? := hg0 0 _ rfl
    obtain ⟨y0_0, e0_0⟩ : ∃ y, ys0[0]? = some y := ⟨ys0[0]'(by rw [hlen0]; decide), List.getElem?_eq_getElem _⟩
    rw [e0_0] at g0_0
    rw [show Tryd.prog.cellsOf 3 = 1 by kernel_rfl] at g0_0
    replace g0_0 : DataW.trod enc Tryd.prog w base spare held n0 3 [c0] = some y0_0 := g0_0
    have g0_1 : DataW.trod enc Tryd.prog w base spare held n0 3 (([c0, c1].drop 1).take (Tryd.prog.cellsOf 3)) = ys0[1]? := hg0 1 _ rfl
    obtain ⟨y0_1, e0_1⟩ : ∃ y, ys0[1]? = some y := ⟨ys0[1]'(by rw [hlen0]; decide), List.getElem?_eq_getElem _⟩
    rw [e0_1] at g0_1
    rw [show Tryd.prog.cellsOf 3 = 1 by kernel_rfl] at g0_1
    replace g0_1 : DataW.trod enc Tryd.prog w base spare held n0 3 [c1] = some y0_1 := g0_1
    obtain ⟨zc0, ezc0, -, bzc0⟩ := DataW.trod_int Tryd.underlying3 g0_0
    injection ezc0 with ezc0 _
    subst ezc0
    obtain ⟨zc1, ezc1, -, bzc1⟩ := DataW.trod_int Tryd.underlying3 g0_1
    injection ezc1 with ezc1 _
    subst ezc1
    exact ⟨⟨zc0, zc1⟩, rfl, bounds_i64 bzc0, bounds_i64 bzc1⟩
theorem SQs_of {fuel : Nat} {v : Value} {x : DataW H × List MemPlace} (h : DataW.trod enc Tryd.prog w base spare held fuel 23 [v] = some x) :
    ∃ (A : Option Addr) (l : List SQ) (c : Nat), v = .slice A l.length c ∧ l.length ≤ 9223372036854775807 ∧ SQS w A l := by
  rcases open_slice Tryd.underlying23 h with ⟨hcs, _⟩ | ⟨a, len, cap, m, k, D, Pl, hcs, hb, hl, hm, hmm, hx, hi⟩
  · injection hcs with hv _
    subst hv
    exact ⟨none, [], 0, rfl, by simp, .inl rfl⟩
  · injection hcs with hv _
    subst hv
    have hlm : len ≤ m := by rw [hmm]; split <;> omega
    have hC : Tryd.prog.cellsOf 33 = 2 := by kernel_rfl
    have key : ∀ i, i < len → ∃ p : SQ, (∀ j, j < 2 → w.cell? (a.add (i * 2 + j)) = (encSQ p)[j]?) ∧ (-9223372036854775808 ≤ p.b ∧ p.b ≤ 9223372036854775807) ∧ (-9223372036854775808 ≤ p.l ∧ p.l ≤ 9223372036854775807) := by
      intro i hin
      obtain ⟨cs', hc, ht'⟩ := hi i (by omega)
      rw [hC] at hc
      obtain ⟨_, hcl, hat⟩ := World.cells?_some hc
      obtain ⟨p, e, hbd⟩ := SQ_of ht' hcl
      subst e
      refine ⟨p, fun j hj => ?_, hbd⟩
      rw [← hat j hj, add_add]
    haveI : Inhabited SQ := ⟨⟨0, 0⟩⟩
    obtain ⟨f, hf⟩ := choose_lt key
    have hll : ((List.range len).map f).length = len := by simp
    refine ⟨some a, (List.range len).map f, cap, by rw [hll], by rw [hll]; unfold maxLen at hm; omega, ?_⟩
    by_cases h0 : len = 0
    · exact .inl (by subst h0; rfl)
    · have g0 := (hf 0 (by omega)).1 0 (by decide)
      obtain ⟨b, off, spot⟩ := a
      have hspot : spot = none := by simpa [Addr.add] using World.cell?_spot (g0.trans (show (encSQ (f 0))[0]? = some _ from rfl))
      subst hspot
      refine .inr ⟨b, off, rfl, World.block_lt_of_cell? w _ (g0.trans (show (encSQ (f 0))[0]? = some _ from rfl)), fun i p hp => ?_⟩
      have hin : i < len := by have := (List.getElem?_eq_some_iff.1 hp).1; simpa using this
      have e : f i = p := by simpa [hin] using hp
      obtain ⟨k1, kb⟩ := hf i hin
      rw [e] at k1 kb
      have kk : ∀ j, j < 2 → w.cell? ⟨b, off + i * 2 + j, none⟩ = (encSQ p)[j]? := fun j hj => by
        have := k1 j hj
        rw [SQaddp] at this
        rw [← this, Nat.add_assoc]
      exact ⟨⟨kk 0 (by decide), kk 1 (by decide)⟩, kb⟩
end
end Go.Proofs.YtljjcomedjdpaaaDoor
