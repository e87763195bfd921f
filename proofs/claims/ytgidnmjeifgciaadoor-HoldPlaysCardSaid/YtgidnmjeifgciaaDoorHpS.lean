/- The argument: a list of 13 cells each. -/
import Derived.Test.YtgidnmjeifgciaaDoorRows
import Derived.Test.YtgidnmjeifgciaaDoorInt
import Derived.WalkKit
import Derived.OpenShut
import Derived.Deep.Slices
import Derived.Deep.Fields
import Derived.Below
import Derived.Lib.Hide
import Derived.ChangeSame
import Derived.Deep.Strs
namespace Go.Proofs.YtgidnmjeifgciaaDoor
set_option maxRecDepth 100000
open Go.RowKit Go.ChangeShapes Go.WideShapes Go.Deep
set_option linter.unusedVariables false
set_option linter.unusedSimpArgs false

structure HV where
  w : Int
  a0 : Int
  a1 : Int
  a2 : Int
  a3 : Int
  a4 : Int
  a5 : Bool
  b0 : Int
  b1 : Int
  b2 : Int
  b3 : Int
  b4 : Int
  b5 : Bool
def encHV (p : HV) : List Value := [.int .i64 p.w, .int .i64 p.a0, .int .i64 p.a1, .int .i64 p.a2, .int .i64 p.a3, .int .i64 p.a4, .bool p.a5, .int .i64 p.b0, .int .i64 p.b1, .int .i64 p.b2, .int .i64 p.b3, .int .i64 p.b4, .bool p.b5]
def HVAt (W : World) (b off : Nat) (p : HV) : Prop := (W.cell? ⟨b, off, none⟩ = some (.int .i64 p.w) ∧ W.cell? ⟨b, off + 1, none⟩ = some (.int .i64 p.a0) ∧ W.cell? ⟨b, off + 2, none⟩ = some (.int .i64 p.a1) ∧ W.cell? ⟨b, off + 3, none⟩ = some (.int .i64 p.a2) ∧ W.cell? ⟨b, off + 4, none⟩ = some (.int .i64 p.a3) ∧ W.cell? ⟨b, off + 5, none⟩ = some (.int .i64 p.a4) ∧ W.cell? ⟨b, off + 6, none⟩ = some (.bool p.a5) ∧ W.cell? ⟨b, off + 7, none⟩ = some (.int .i64 p.b0) ∧ W.cell? ⟨b, off + 8, none⟩ = some (.int .i64 p.b1) ∧ W.cell? ⟨b, off + 9, none⟩ = some (.int .i64 p.b2) ∧ W.cell? ⟨b, off + 10, none⟩ = some (.int .i64 p.b3) ∧ W.cell? ⟨b, off + 11, none⟩ = some (.int .i64 p.b4) ∧ W.cell? ⟨b, off + 12, none⟩ = some (.bool p.b5)) ∧ (-9223372036854775808 ≤ p.w ∧ p.w ≤ 9223372036854775807) ∧ (-9223372036854775808 ≤ p.a0 ∧ p.a0 ≤ 9223372036854775807) ∧ (-9223372036854775808 ≤ p.a1 ∧ p.a1 ≤ 9223372036854775807) ∧ (-9223372036854775808 ≤ p.a2 ∧ p.a2 ≤ 9223372036854775807) ∧ (-9223372036854775808 ≤ p.a3 ∧ p.a3 ≤ 9223372036854775807) ∧ (-9223372036854775808 ≤ p.a4 ∧ p.a4 ≤ 9223372036854775807) ∧ (-9223372036854775808 ≤ p.b0 ∧ p.b0 ≤ 9223372036854775807) ∧ (-9223372036854775808 ≤ p.b1 ∧ p.b1 ≤ 9223372036854775807) ∧ (-9223372036854775808 ≤ p.b2 ∧ p.b2 ≤ 9223372036854775807) ∧ (-9223372036854775808 ≤ p.b3 ∧ p.b3 ≤ 9223372036854775807) ∧ (-9223372036854775808 ≤ p.b4 ∧ p.b4 ≤ 9223372036854775807)
theorem HVAt.keep {W W' : World} {b off : Nat} {p : HV} (h : HVAt W b off p) (hb : b < W.heap.size) (hB : Below W.heap.size W W') : HVAt W' b off p := by
  obtain ⟨⟨h0, h1, h2, h3, h4, h5, h6, h7, h8, h9, h10, h11, h12⟩, hr⟩ := h
  exact ⟨⟨(hB.cell (p := ⟨b, off, none⟩) hb).trans h0, (hB.cell (p := ⟨b, off + 1, none⟩) hb).trans h1, (hB.cell (p := ⟨b, off + 2, none⟩) hb).trans h2, (hB.cell (p := ⟨b, off + 3, none⟩) hb).trans h3, (hB.cell (p := ⟨b, off + 4, none⟩) hb).trans h4, (hB.cell (p := ⟨b, off + 5, none⟩) hb).trans h5, (hB.cell (p := ⟨b, off + 6, none⟩) hb).trans h6, (hB.cell (p := ⟨b, off + 7, none⟩) hb).trans h7, (hB.cell (p := ⟨b, off + 8, none⟩) hb).trans h8, (hB.cell (p := ⟨b, off + 9, none⟩) hb).trans h9, (hB.cell (p := ⟨b, off + 10, none⟩) hb).trans h10, (hB.cell (p := ⟨b, off + 11, none⟩) hb).trans h11, (hB.cell (p := ⟨b, off + 12, none⟩) hb).trans h12⟩, hr⟩
/-- A slice of acts. -/
def HVS (W : World) (A : Option Addr) (l : List HV) : Prop :=
  l = [] ∨ ∃ b off, A = some ⟨b, off, none⟩ ∧ b < W.heap.size ∧ ∀ i p, l[i]? = some p → HVAt W b (off + i * 13) p
theorem HVS.keep {W W' : World} {A : Option Addr} {l : List HV} (h : HVS W A l) (hB : Below W.heap.size W W') : HVS W' A l := by
  rcases h with h | ⟨b, off, e, h1, h2⟩
  · exact .inl h
  · exact .inr ⟨b, off, e, Nat.lt_of_lt_of_le h1 hB.size, fun i p hp => (h2 i p hp).keep h1 hB⟩
theorem HVaddp (b o j : Nat) : (⟨b, o, none⟩ : Addr).add j = ⟨b, o + j, none⟩ := by unfold Addr.add; split <;> simp_all
section
variable {H : Type} {enc : TypeId × Value → H} {w : World} {base : Nat} {spare : Nat → Bool} {held : Bool}
theorem HV_of {fuel : Nat} {cs : List Value} {x : DataW H × List MemPlace} (h : DataW.trod enc Tryd.prog w base spare held fuel 69 cs = some x) (hl : cs.length = 13) :
    ∃ p : HV, cs = encHV p ∧ (-9223372036854775808 ≤ p.w ∧ p.w ≤ 9223372036854775807) ∧ (-9223372036854775808 ≤ p.a0 ∧ p.a0 ≤ 9223372036854775807) ∧ (-9223372036854775808 ≤ p.a1 ∧ p.a1 ≤ 9223372036854775807) ∧ (-9223372036854775808 ≤ p.a2 ∧ p.a2 ≤ 9223372036854775807) ∧ (-9223372036854775808 ≤ p.a3 ∧ p.a3 ≤ 9223372036854775807) ∧ (-9223372036854775808 ≤ p.a4 ∧ p.a4 ≤ 9223372036854775807) ∧ (-9223372036854775808 ≤ p.b0 ∧ p.b0 ≤ 9223372036854775807) ∧ (-9223372036854775808 ≤ p.b1 ∧ p.b1 ≤ 9223372036854775807) ∧ (-9223372036854775808 ≤ p.b2 ∧ p.b2 ≤ 9223372036854775807) ∧ (-9223372036854775808 ≤ p.b3 ∧ p.b3 ≤ 9223372036854775807) ∧ (-9223372036854775808 ≤ p.b4 ∧ p.b4 ≤ 9223372036854775807) := by
  match cs, hl with
  | [c0, c1, c2, c3, c4, c5, c6, c7, c8, c9, c10, c11, c12], _ =>
    obtain ⟨ys0, n0, -, -, -, hlen0, hg0⟩ := DataW.trod_struct Tryd.underlying69 h
    have g0_0 : DataW.trod enc Tryd.prog w base spare held n0 3 (([c0, c1, c2, c3, c4, c5, c6, c7, c8, c9, c10, c11, c12].drop 0).take (Tryd.prog.cellsOf 3)) = ys0[0]? := hg0 0 _ rfl
    obtain ⟨y0_0, e0_0⟩ : ∃ y, ys0[0]? = some y := ⟨ys0[0]'(by rw [hlen0]; decide), List.getElem?_eq_getElem _⟩
    rw [e0_0] at g0_0
    rw [show Tryd.prog.cellsOf 3 = 1 by kernel_rfl] at g0_0
    replace g0_0 : DataW.trod enc Tryd.prog w base spare held n0 3 [c0] = some y0_0 := g0_0
    have g0_1 : DataW.trod enc Tryd.prog w base spare held n0 31 (([c0, c1, c2, c3, c4, c5, c6, c7, c8, c9, c10, c11, c12].drop 1).take (Tryd.prog.cellsOf 31)) = ys0[1]? := hg0 1 _ rfl
    obtain ⟨y0_1, e0_1⟩ : ∃ y, ys0[1]? = some y := ⟨ys0[1]'(by rw [hlen0]; decide), List.getElem?_eq_getElem _⟩
    rw [e0_1] at g0_1
    rw [show Tryd.prog.cellsOf 31 = 6 by kernel_rfl] at g0_1
    replace g0_1 : DataW.trod enc Tryd.prog w base spare held n0 31 [c1, c2, c3, c4, c5, c6] = some y0_1 := g0_1
    have g0_2 : DataW.trod enc Tryd.prog w base spare held n0 31 (([c0, c1, c2, c3, c4, c5, c6, c7, c8, c9, c10, c11, c12].drop 7).take (Tryd.prog.cellsOf 31)) = ys0[2]? := hg0 2 _ rfl
    obtain ⟨y0_2, e0_2⟩ : ∃ y, ys0[2]? = some y := ⟨ys0[2]'(by rw [hlen0]; decide), List.getElem?_eq_getElem _⟩
    rw [e0_2] at g0_2
    rw [show Tryd.prog.cellsOf 31 = 6 by kernel_rfl] at g0_2
    replace g0_2 : DataW.trod enc Tryd.prog w base spare held n0 31 [c7, c8, c9, c10, c11, c12] = some y0_2 := g0_2
    obtain ⟨zc0, ezc0, -, bzc0⟩ := DataW.trod_int Tryd.underlying3 g0_0
    injection ezc0 with ezc0 _
    subst ezc0
    obtain ⟨ys1, n1, -, -, -, hlen1, hg1⟩ := DataW.trod_struct Tryd.underlying31 g0_1
    have g1_0 : DataW.trod enc Tryd.prog w base spare held n1 3 (([c1, c2, c3, c4, c5, c6].drop 0).take (Tryd.prog.cellsOf 3)) = ys1[0]? := hg1 0 _ rfl
    obtain ⟨y1_0, e1_0⟩ : ∃ y, ys1[0]? = some y := ⟨ys1[0]'(by rw [hlen1]; decide), List.getElem?_eq_getElem _⟩
    rw [e1_0] at g1_0
    rw [show Tryd.prog.cellsOf 3 = 1 by kernel_rfl] at g1_0
    replace g1_0 : DataW.trod enc Tryd.prog w base spare held n1 3 [c1] = some y1_0 := g1_0
    have g1_1 : DataW.trod enc Tryd.prog w base spare held n1 3 (([c1, c2, c3, c4, c5, c6].drop 1).take (Tryd.prog.cellsOf 3)) = ys1[1]? := hg1 1 _ rfl
    obtain ⟨y1_1, e1_1⟩ : ∃ y, ys1[1]? = some y := ⟨ys1[1]'(by rw [hlen1]; decide), List.getElem?_eq_getElem _⟩
    rw [e1_1] at g1_1
    rw [show Tryd.prog.cellsOf 3 = 1 by kernel_rfl] at g1_1
    replace g1_1 : DataW.trod enc Tryd.prog w base spare held n1 3 [c2] = some y1_1 := g1_1
    have g1_2 : DataW.trod enc Tryd.prog w base spare held n1 3 (([c1, c2, c3, c4, c5, c6].drop 2).take (Tryd.prog.cellsOf 3)) = ys1[2]? := hg1 2 _ rfl
    obtain ⟨y1_2, e1_2⟩ : ∃ y, ys1[2]? = some y := ⟨ys1[2]'(by rw [hlen1]; decide), List.getElem?_eq_getElem _⟩
    rw [e1_2] at g1_2
    rw [show Tryd.prog.cellsOf 3 = 1 by kernel_rfl] at g1_2
    replace g1_2 : DataW.trod enc Tryd.prog w base spare held n1 3 [c3] = some y1_2 := g1_2
    have g1_3 : DataW.trod enc Tryd.prog w base spare held n1 3 (([c1, c2, c3, c4, c5, c6].drop 3).take (Tryd.prog.cellsOf 3)) = ys1[3]? := hg1 3 _ rfl
    obtain ⟨y1_3, e1_3⟩ : ∃ y, ys1[3]? = some y := ⟨ys1[3]'(by rw [hlen1]; decide), List.getElem?_eq_getElem _⟩
    rw [e1_3] at g1_3
    rw [show Tryd.prog.cellsOf 3 = 1 by kernel_rfl] at g1_3
    replace g1_3 : DataW.trod enc Tryd.prog w base spare held n1 3 [c4] = some y1_3 := g1_3
    have g1_4 : DataW.trod enc Tryd.prog w base spare held n1 3 (([c1, c2, c3, c4, c5, c6].drop 4).take (Tryd.prog.cellsOf 3)) = ys1[4]? := hg1 4 _ rfl
    obtain ⟨y1_4, e1_4⟩ : ∃ y, ys1[4]? = some y := ⟨ys1[4]'(by rw [hlen1]; decide), List.getElem?_eq_getElem _⟩
    rw [e1_4] at g1_4
    rw [show Tryd.prog.cellsOf 3 = 1 by kernel_rfl] at g1_4
    replace g1_4 : DataW.trod enc Tryd.prog w base spare held n1 3 [c5] = some y1_4 := g1_4
    have g1_5 : DataW.trod enc Tryd.prog w base spare held n1 4 (([c1, c2, c3, c4, c5, c6].drop 5).take (Tryd.prog.cellsOf 4)) = ys1[5]? := hg1 5 _ rfl
    obtain ⟨y1_5, e1_5⟩ : ∃ y, ys1[5]? = some y := ⟨ys1[5]'(by rw [hlen1]; decide), List.getElem?_eq_getElem _⟩
    rw [e1_5] at g1_5
    rw [show Tryd.prog.cellsOf 4 = 1 by kernel_rfl] at g1_5
    replace g1_5 : DataW.trod enc Tryd.prog w base spare held n1 4 [c6] = some y1_5 := g1_5
    obtain ⟨zc1, ezc1, -, bzc1⟩ := DataW.trod_int Tryd.underlying3 g1_0
    injection ezc1 with ezc1 _
    subst ezc1
    obtain ⟨zc2, ezc2, -, bzc2⟩ := DataW.trod_int Tryd.underlying3 g1_1
    injection ezc2 with ezc2 _
    subst ezc2
    obtain ⟨zc3, ezc3, -, bzc3⟩ := DataW.trod_int Tryd.underlying3 g1_2
    injection ezc3 with ezc3 _
    subst ezc3
    obtain ⟨zc4, ezc4, -, bzc4⟩ := DataW.trod_int Tryd.underlying3 g1_3
    injection ezc4 with ezc4 _
    subst ezc4
    obtain ⟨zc5, ezc5, -, bzc5⟩ := DataW.trod_int Tryd.underlying3 g1_4
    injection ezc5 with ezc5 _
    subst ezc5
    obtain ⟨zc6, ezc6, -⟩ := DataW.trod_bool Tryd.underlying4 g1_5
    injection ezc6 with ezc6 _
    subst ezc6
    obtain ⟨ys2, n2, -, -, -, hlen2, hg2⟩ := DataW.trod_struct Tryd.underlying31 g0_2
    have g2_0 : DataW.trod enc Tryd.prog w base spare held n2 3 (([c7, c8, c9, c10, c11, c12].drop 0).take (Tryd.prog.cellsOf 3)) = ys2[0]? := hg2 0 _ rfl
    obtain ⟨y2_0, e2_0⟩ : ∃ y, ys2[0]? = some y := ⟨ys2[0]'(by rw [hlen2]; decide), List.getElem?_eq_getElem _⟩
    rw [e2_0] at g2_0
    rw [show Tryd.prog.cellsOf 3 = 1 by kernel_rfl] at g2_0
    replace g2_0 : DataW.trod enc Tryd.prog w base spare held n2 3 [c7] = some y2_0 := g2_0
    have g2_1 : DataW.trod enc Tryd.prog w base spare held n2 3 (([c7, c8, c9, c10, c11, c12].drop 1).take (Tryd.prog.cellsOf 3)) = ys2[1]? := hg2 1 _ rfl
    obtain ⟨y2_1, e2_1⟩ : ∃ y, ys2[1]? = some y := ⟨ys2[1]'(by rw [hlen2]; decide), List.getElem?_eq_getElem _⟩
    rw [e2_1] at g2_1
    rw [show Tryd.prog.cellsOf 3 = 1 by kernel_rfl] at g2_1
    replace g2_1 : DataW.trod enc Tryd.prog w base spare held n2 3 [c8] = some y2_1 := g2_1
    have g2_2 : DataW.trod enc Tryd.prog w base spare held n2 3 (([c7, c8, c9, c10, c11, c12].drop 2).take (Tryd.prog.cellsOf 3)) = ys2[2]? := hg2 2 _ rfl
    obtain ⟨y2_2, e2_2⟩ : ∃ y, ys2[2]? = some y := ⟨ys2[2]'(by rw [hlen2]; decide), List.getElem?_eq_getElem _⟩
    rw [e2_2] at g2_2
    rw [show Tryd.prog.cellsOf 3 = 1 by kernel_rfl] at g2_2
    replace g2_2 : DataW.trod enc Tryd.prog w base spare held n2 3 [c9] = some y2_2 := g2_2
    have g2_3 : DataW.trod enc Tryd.prog w base spare held n2 3 (([c7, c8, c9, c10, c11, c12].drop 3).take (Tryd.prog.cellsOf 3)) = ys2[3]? := hg2 3 _ rfl
    obtain ⟨y2_3, e2_3⟩ : ∃ y, ys2[3]? = some y := ⟨ys2[3]'(by rw [hlen2]; decide), List.getElem?_eq_getElem _⟩
    rw [e2_3] at g2_3
    rw [show Tryd.prog.cellsOf 3 = 1 by kernel_rfl] at g2_3
    replace g2_3 : DataW.trod enc Tryd.prog w base spare held n2 3 [c10] = some y2_3 := g2_3
    have g2_4 : DataW.trod enc Tryd.prog w base spare held n2 3 (([c7, c8, c9, c10, c11, c12].drop 4).take (Tryd.prog.cellsOf 3)) = ys2[4]? := hg2 4 _ rfl
    obtain ⟨y2_4, e2_4⟩ : ∃ y, ys2[4]? = some y := ⟨ys2[4]'(by rw [hlen2]; decide), List.getElem?_eq_getElem _⟩
    rw [e2_4] at g2_4
    rw [show Tryd.prog.cellsOf 3 = 1 by kernel_rfl] at g2_4
    replace g2_4 : DataW.trod enc Tryd.prog w base spare held n2 3 [c11] = some y2_4 := g2_4
    have g2_5 : DataW.trod enc Tryd.prog w base spare held n2 4 (([c7, c8, c9, c10, c11, c12].drop 5).take (Tryd.prog.cellsOf 4)) = ys2[5]? := hg2 5 _ rfl
    obtain ⟨y2_5, e2_5⟩ : ∃ y, ys2[5]? = some y := ⟨ys2[5]'(by rw [hlen2]; decide), List.getElem?_eq_getElem _⟩
    rw [e2_5] at g2_5
    rw [show Tryd.prog.cellsOf 4 = 1 by kernel_rfl] at g2_5
    replace g2_5 : DataW.trod enc Tryd.prog w base spare held n2 4 [c12] = some y2_5 := g2_5
    obtain ⟨zc7, ezc7, -, bzc7⟩ := DataW.trod_int Tryd.underlying3 g2_0
    injection ezc7 with ezc7 _
    subst ezc7
    obtain ⟨zc8, ezc8, -, bzc8⟩ := DataW.trod_int Tryd.underlying3 g2_1
    injection ezc8 with ezc8 _
    subst ezc8
    obtain ⟨zc9, ezc9, -, bzc9⟩ := DataW.trod_int Tryd.underlying3 g2_2
    injection ezc9 with ezc9 _
    subst ezc9
    obtain ⟨zc10, ezc10, -, bzc10⟩ := DataW.trod_int Tryd.underlying3 g2_3
    injection ezc10 with ezc10 _
    subst ezc10
    obtain ⟨zc11, ezc11, -, bzc11⟩ := DataW.trod_int Tryd.underlying3 g2_4
    injection ezc11 with ezc11 _
    subst ezc11
    obtain ⟨zc12, ezc12, -⟩ := DataW.trod_bool Tryd.underlying4 g2_5
    injection ezc12 with ezc12 _
    subst ezc12
    exact ⟨⟨zc0, zc1, zc2, zc3, zc4, zc5, zc6, zc7, zc8, zc9, zc10, zc11, zc12⟩, rfl, bounds_i64 bzc0, bounds_i64 bzc1, bounds_i64 bzc2, bounds_i64 bzc3, bounds_i64 bzc4, bounds_i64 bzc5, bounds_i64 bzc7, bounds_i64 bzc8, bounds_i64 bzc9, bounds_i64 bzc10, bounds_i64 bzc11⟩
theorem HVs_of {fuel : Nat} {v : Value} {x : DataW H × List MemPlace} (h : DataW.trod enc Tryd.prog w base spare held fuel 66 [v] = some x) :
    ∃ (A : Option Addr) (l : List HV) (c : Nat), v = .slice A l.length c ∧ l.length ≤ 9223372036854775807 ∧ HVS w A l := by
  rcases open_slice Tryd.underlying66 h with ⟨hcs, _⟩ | ⟨a, len, cap, m, k, D, Pl, hcs, hb, hl, hm, hmm, hx, hi⟩
  · injection hcs with hv _
    subst hv
    exact ⟨none, [], 0, rfl, by simp, .inl rfl⟩
  · injection hcs with hv _
    subst hv
    have hlm : len ≤ m := by rw [hmm]; split <;> omega
    have hC : Tryd.prog.cellsOf 69 = 13 := by kernel_rfl
    have key : ∀ i, i < len → ∃ p : HV, (∀ j, j < 13 → w.cell? (a.add (i * 13 + j)) = (encHV p)[j]?) ∧ (-9223372036854775808 ≤ p.w ∧ p.w ≤ 9223372036854775807) ∧ (-9223372036854775808 ≤ p.a0 ∧ p.a0 ≤ 9223372036854775807) ∧ (-9223372036854775808 ≤ p.a1 ∧ p.a1 ≤ 9223372036854775807) ∧ (-9223372036854775808 ≤ p.a2 ∧ p.a2 ≤ 9223372036854775807) ∧ (-9223372036854775808 ≤ p.a3 ∧ p.a3 ≤ 9223372036854775807) ∧ (-9223372036854775808 ≤ p.a4 ∧ p.a4 ≤ 9223372036854775807) ∧ (-9223372036854775808 ≤ p.b0 ∧ p.b0 ≤ 9223372036854775807) ∧ (-9223372036854775808 ≤ p.b1 ∧ p.b1 ≤ 9223372036854775807) ∧ (-9223372036854775808 ≤ p.b2 ∧ p.b2 ≤ 9223372036854775807) ∧ (-9223372036854775808 ≤ p.b3 ∧ p.b3 ≤ 9223372036854775807) ∧ (-9223372036854775808 ≤ p.b4 ∧ p.b4 ≤ 9223372036854775807) := by
      intro i hin
      obtain ⟨cs', hc, ht'⟩ := hi i (by omega)
      rw [hC] at hc
      obtain ⟨_, hcl, hat⟩ := World.cells?_some hc
      obtain ⟨p, e, hbd⟩ := HV_of ht' hcl
      subst e
      refine ⟨p, fun j hj => ?_, hbd⟩
      rw [← hat j hj, add_add]
    haveI : Inhabited HV := ⟨⟨0, 0, 0, 0, 0, 0, false, 0, 0, 0, 0, 0, false⟩⟩
    obtain ⟨f, hf⟩ := choose_lt key
    have hll : ((List.range len).map f).length = len := by simp
    refine ⟨some a, (List.range len).map f, cap, by rw [hll], by rw [hll]; unfold maxLen at hm; omega, ?_⟩
    by_cases h0 : len = 0
    · exact .inl (by subst h0; rfl)
    · have g0 := (hf 0 (by omega)).1 0 (by decide)
      obtain ⟨b, off, spot⟩ := a
      have hspot : spot = none := by simpa [Addr.add] using World.cell?_spot (g0.trans (show (encHV (f 0))[0]? = some _ from rfl))
      subst hspot
      refine .inr ⟨b, off, rfl, World.block_lt_of_cell? w _ (g0.trans (show (encHV (f 0))[0]? = some _ from rfl)), fun i p hp => ?_⟩
      have hin : i < len := by have := (List.getElem?_eq_some_iff.1 hp).1; simpa using this
      have e : f i = p := by simpa [hin] using hp
      obtain ⟨k1, kb⟩ := hf i hin
      rw [e] at k1 kb
      have kk : ∀ j, j < 13 → w.cell? ⟨b, off + i * 13 + j, none⟩ = (encHV p)[j]? := fun j hj => by
        have := k1 j hj
        rw [HVaddp] at this
        rw [← this, Nat.add_assoc]
      exact ⟨⟨kk 0 (by decide), kk 1 (by decide), kk 2 (by decide), kk 3 (by decide), kk 4 (by decide), kk 5 (by decide), kk 6 (by decide), kk 7 (by decide), kk 8 (by decide), kk 9 (by decide), kk 10 (by decide), kk 11 (by decide), kk 12 (by decide)⟩, kb⟩
end
end Go.Proofs.YtgidnmjeifgciaaDoor
