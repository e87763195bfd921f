/- Few37. -/
import Derived.Test.YtnfcpohbdkionaaGreatDoorZ02
import Derived.Test.YtnfcpohbdkionaaGreatDoorZ03
import Derived.Deep.RegionHeld3
import Derived.RegionTactic
import Derived.ChangeAlike
import Derived.BigRegion
import Derived.Deep.DeepCutAuto
namespace Go.Proofs.YtnfcpohbdkionaaGreatDoor
set_option maxRecDepth 100000
open Go.RowKit
set_option linter.unusedVariables false
set_option linter.unusedSimpArgs false
def RCap9 (w : World) (e : Ending) (w' : World) : Prop :=
  ∃ (b l c p t : Int), e = .returned (.agg #[.int .i64 b, .int .i64 l, .int .i64 c, .int .i64 p, .int .i64 t, .bool true]) ∧ (0 ≤ b ∧ b ≤ 2047 ∧ 1 ≤ l ∧ l ≤ 256 ∧ l ≤ 2048 - b ∧ b - 16 ≤ c ∧ c ≤ b + 256 ∧ 0 ≤ p ∧ p ≤ 31 ∧ 0 ≤ t ∧ t ≤ 15) ∧ Below w.heap.size w w'
set_option maxHeartbeats 1600000 in
theorem rcap9 (b l c p t : Int) (v : Bool) (w : World) :
    Calls Tryz.prog 25 #[.agg #[.int .i64 b, .int .i64 l, .int .i64 c, .int .i64 p, .int .i64 t, .bool v], .int .i64 9] w (RCap9 w) := by
  have e1 := and2047 b
  have e2 := and255 l
  have e3 := and255 c
  have e4 := and31 p
  have e5 := and15 t
  have q1 : 0 ≤ b % 2048 := Int.emod_nonneg _ (by decide)
  have q2 : b % 2048 < 2048 := Int.emod_lt_of_pos _ (by decide)
  have q3 : 0 ≤ l % 256 := Int.emod_nonneg _ (by decide)
  have q4 : l % 256 < 256 := Int.emod_lt_of_pos _ (by decide)
  have q5 : 0 ≤ c % 256 := Int.emod_nonneg _ (by decide)
  have q6 : c % 256 < 256 := Int.emod_lt_of_pos _ (by decide)
  have q7 : 0 ≤ p % 32 := Int.emod_nonneg _ (by decide)
  have q8 : p % 32 < 32 := Int.emod_lt_of_pos _ (by decide)
  have q9 : 0 ≤ t % 16 := Int.emod_nonneg _ (by decide)
  have q10 : t % 16 < 16 := Int.emod_lt_of_pos _ (by decide)
  generalize b % 2048 = B at *
  generalize l % 256 = L at *
  generalize c % 256 = C at *
  generalize p % 32 = P at *
  generalize t % 16 = T at *
  have hb9 : bits .and .i64 9 31 = 9 := by decide
  go_enter Tryz.func25, Tryz.ntmps25
  go_wp2
  all_goals
    first
    | (refine bodyPost_ret (v := .agg #[.int .i64 B, .int .i64 (L + 1), .int .i64 (B + C - 16), .int .i64 P, .int .i64 T, .bool true]) ?_ rfl ?_
       · (simp [results, Tryz.results25, go_sem]; done)
       · exact ⟨_, _, _, _, _, rfl, (by omega), (by repeat (first | assumption | exact alc0 _ _ | refine alc ?_ _ | (refine Below.setCell ?_ (by first | omega | (simp <;> omega)) _)))⟩)
    | (refine bodyPost_ret (v := .agg #[.int .i64 B, .int .i64 (2048 - B), .int .i64 (B + C - 16), .int .i64 P, .int .i64 T, .bool true]) ?_ rfl ?_
       · (simp [results, Tryz.results25, go_sem]; done)
       · exact ⟨_, _, _, _, _, rfl, (by omega), (by repeat (first | assumption | exact alc0 _ _ | refine alc ?_ _ | (refine Below.setCell ?_ (by first | omega | (simp <;> omega)) _)))⟩)
/-- What the statement makes of a capability: one for the first four pages, of the tags 1 and 2. -/
def Few37 (w : World) (e : Ending) (w' : World) : Prop :=
  ∃ (b l c p t : Int), e = .returned (.agg #[.int .i64 b, .int .i64 l, .int .i64 c, .int .i64 p, .int .i64 t, .bool true]) ∧ (0 ≤ b ∧ b ≤ 1023 ∧ 1 ≤ l ∧ l ≤ 1024 - b ∧ b - 16 ≤ c ∧ c ≤ b + 80 ∧ 0 ≤ c ∧ 0 ≤ p ∧ p ≤ 31 ∧ 1 ≤ t ∧ t ≤ 2) ∧ Below w.heap.size w w'
theorem CapAt.new2'' (W : World) (o : Obj) (b l c p t : Int) (v : Bool) (T : TypeId) : CapAt (W.heap.size + 1) ((W.alloc o).alloc (.cells #[.int .i64 b, .int .i64 l, .int .i64 c, .int .i64 p, .int .i64 t, .bool v] T)) b l c p t v := by
  have := CapAt.new (W.alloc o) b l c p t v T
  rwa [show (W.alloc o).heap.size = W.heap.size + 1 by simp] at this
theorem CapAt.fz' {x : Nat} {W : World} {b l c p t : Int} {v : Bool} (h : CapAt x W b l c p t v) : W.frozen? ⟨x, 0, none⟩ = false ∧ W.frozen? ⟨x, 1, none⟩ = false ∧ W.frozen? ⟨x, 2, none⟩ = false ∧ W.frozen? ⟨x, 3, none⟩ = false ∧ W.frozen? ⟨x, 4, none⟩ = false ∧ W.frozen? ⟨x, 5, none⟩ = false :=
  ⟨h.2.2.2.2.2.2.2 0 (by decide), h.2.2.2.2.2.2.2 1 (by decide), h.2.2.2.2.2.2.2 2 (by decide), h.2.2.2.2.2.2.2 3 (by decide), h.2.2.2.2.2.2.2 4 (by decide), h.2.2.2.2.2.2.2 5 (by decide)⟩
theorem below_set6' {n x : Nat} {W w1 : World} (h : Below n W w1) (hx : n ≤ x) (a b c d e f : Value) : Below n W ((((((w1.setCell ⟨x, 0, none⟩ a).setCell ⟨x, 1, none⟩ b).setCell ⟨x, 2, none⟩ c).setCell ⟨x, 3, none⟩ d).setCell ⟨x, 4, none⟩ e).setCell ⟨x, 5, none⟩ f) :=
  (((((h.setCell hx _).setCell hx _).setCell hx _).setCell hx _).setCell hx _).setCell hx _
set_option maxHeartbeats 1600000 in
theorem few37 (b l c p t : Int) (v : Bool) (w : World) :
    Calls Tryz.prog 6 #[.agg #[.int .i64 b, .int .i64 l, .int .i64 c, .int .i64 p, .int .i64 t, .bool v]] w (Few37 w) := by
  have HX := Lib.hid (CapAt.new w b l c p t v 25)
  go_enter Tryz.func6, Tryz.ntmps6
  go_wp2_with fail
  refine (rcap9 b l c p t v _).mono ?_
  rintro e w1 ⟨B, L, C, P, T, rfl, hq, hb⟩
  obtain ⟨q1, q2, q3, q4, q5, q6, q7, q8, q9, q10, q11⟩ := hq
  have hz : w.heap.size + 1 < w1.heap.size := by have := hb.size; simp at this; omega
  have HX1 := Lib.hid ((HX.out.below (alc0 _ _)).below hb)
  have HR0 := Lib.hid (CapAt.new2'' w (.cells #[.int .i64 b, .int .i64 l, .int .i64 c, .int .i64 p, .int .i64 t, .bool v] 25) 0 0 0 0 0 false 25)
  have HR1 := Lib.hid (HR0.out.below hb)
  have HY0 := Lib.hid (CapAt.new w1 B L C P T true 25)
  have HB0 := Lib.hid (thn (alc (alc0 w _) _) hb)
  clear hb HX HR0
  go_upto_region 2 with (fail)
  have HX2 := Lib.hid (HX1.out.below (alc0 w1 (.cells #[.int .i64 B, .int .i64 L, .int .i64 C, .int .i64 P, .int .i64 T, .bool true] 25)))
  have HR2 := Lib.hid (HR1.out.below (alc0 w1 (.cells #[.int .i64 B, .int .i64 L, .int .i64 C, .int .i64 P, .int .i64 T, .bool true] 25)))
  have HB2 := Lib.hid (alc HB0.out (.cells #[.int .i64 B, .int .i64 L, .int .i64 C, .int .i64 P, .int .i64 T, .bool true] 25))
  clear HX1 HR1 HB0
  generalize hW : World.alloc w1 _ = W2 at *
  clear hW
  generalize hy : w1.heap.size = y at *
  have hyn : w.heap.size + 1 < y := hz
  clear hy hz
  have HYB : Hid (w.heap.size ≤ y) := Lib.hid (by omega)
  have n1 : y ≠ w.heap.size := by omega
  have n2 : w.heap.size ≠ y := by omega
  have n3 : y ≠ w.heap.size + 1 := by omega
  have n4 : w.heap.size + 1 ≠ y := by omega
  have e1 := and1023 B
  have e2 := and1 (t / 16)
  have e3 := and63 c
  have u1 : 0 ≤ B % 1024 := by omega
  have u2 : B % 1024 < 1024 := by omega
  have u3 : 0 ≤ t / 16 % 2 := by omega
  have u4 : t / 16 % 2 < 2 := by omega
  have u5 : 0 ≤ c % 64 := by omega
  have u6 : c % 64 < 64 := by omega
  generalize B % 1024 = B2 at *
  generalize t / 16 % 2 = T2 at *
  generalize c % 64 = C2 at *
  obtain ⟨-, x0, x1, x2, x3, x4, x5, -⟩ := HX2.out
  obtain ⟨-, y0, y1, y2, y3, y4, y5, -⟩ := HY0.out
  obtain ⟨g0, g1, g2, g3, g4, g5⟩ := HY0.out.fz'
  go_region
  have HYn : Hid (CapAt y ((W2.setCell ⟨y, 0, none⟩ (.int .i64 (B2))).setCell ⟨y, 4, none⟩ (.int .i64 (1 + T2))).drew (B2) L C P (1 + T2) true) := Lib.hid ((HY0.out.s0 (B2)).s4 (1 + T2))
  have HXn : Hid (CapAt w.heap.size ((W2.setCell ⟨y, 0, none⟩ (.int .i64 (B2))).setCell ⟨y, 4, none⟩ (.int .i64 (1 + T2))).drew b l c p t v) := Lib.hid ((HX2.out.far (y := y) n2).far (y := y) n2)
  have HRn : Hid (CapAt (w.heap.size + 1) ((W2.setCell ⟨y, 0, none⟩ (.int .i64 (B2))).setCell ⟨y, 4, none⟩ (.int .i64 (1 + T2))).drew 0 0 0 0 0 false) := Lib.hid ((HR2.out.far (y := y) n4).far (y := y) n4)
  have HBn : Hid (Below w.heap.size w ((W2.setCell ⟨y, 0, none⟩ (.int .i64 (B2))).setCell ⟨y, 4, none⟩ (.int .i64 (1 + T2))).drew) := Lib.hid ((HB2.out.setCell HYB.out _).setCell HYB.out _).drew
  clear HY0 HX2 HR2 HB2 x0 x1 x2 x3 x4 x5 y0 y1 y2 y3 y4 y5 g0 g1 g2 g3 g4 g5
  generalize ((W2.setCell ⟨y, 0, none⟩ (.int .i64 (B2))).setCell ⟨y, 4, none⟩ (.int .i64 (1 + T2))).drew = Wn at *
  clear W2
  rename World => W2
  have HY0 := HYn
  have HX2 := HXn
  have HR2 := HRn
  have HB2 := HBn
  clear HYn HXn HRn HBn
  by_cases hmin : 1024 - B2 < L + 48
  · obtain ⟨-, x0, x1, x2, x3, x4, x5, -⟩ := HX2.out
    obtain ⟨-, y0, y1, y2, y3, y4, y5, -⟩ := HY0.out
    obtain ⟨g0, g1, g2, g3, g4, g5⟩ := HY0.out.fz'
    go_upto_region 4 with (fail)
    have HYn := Lib.hid (HY0.out.s1 (1024 - B2))
    have HXn : Hid (CapAt w.heap.size (W2.setCell ⟨y, 1, none⟩ (.int .i64 (1024 - B2))) b l c p t v) := Lib.hid (HX2.out.far (y := y) n2)
    have HRn : Hid (CapAt (w.heap.size + 1) (W2.setCell ⟨y, 1, none⟩ (.int .i64 (1024 - B2))) 0 0 0 0 0 false) := Lib.hid (HR2.out.far (y := y) n4)
    have HBn : Hid (Below w.heap.size w (W2.setCell ⟨y, 1, none⟩ (.int .i64 (1024 - B2)))) := Lib.hid (HB2.out.setCell HYB.out _)
    clear HY0 HX2 HR2 HB2 x0 x1 x2 x3 x4 x5 y0 y1 y2 y3 y4 y5 g0 g1 g2 g3 g4 g5
    generalize (W2.setCell ⟨y, 1, none⟩ (.int .i64 (1024 - B2))) = Wn at *
    clear W2
    rename World => W2
    have HY0 := HYn
    have HX2 := HXn
    have HR2 := HRn
    have HB2 := HBn
    clear HYn HXn HRn HBn
    obtain ⟨-, x0, x1, x2, x3, x4, x5, -⟩ := HX2.out
    obtain ⟨-, y0, y1, y2, y3, y4, y5, -⟩ := HY0.out
    obtain ⟨g0, g1, g2, g3, g4, g5⟩ := HY0.out.fz'
    go_upto_region 5 with (fail)
    have HYn := Lib.hid (HY0.out.s2 (B2 + C2))
    have HXn : Hid (CapAt w.heap.size (W2.setCell ⟨y, 2, none⟩ (.int .i64 (B2 + C2))) b l c p t v) := Lib.hid (HX2.out.far (y := y) n2)
    have HRn : Hid (CapAt (w.heap.size + 1) (W2.setCell ⟨y, 2, none⟩ (.int .i64 (B2 + C2))) 0 0 0 0 0 false) := Lib.hid (HR2.out.far (y := y) n4)
    have HBn : Hid (Below w.heap.size w (W2.setCell ⟨y, 2, none⟩ (.int .i64 (B2 + C2)))) := Lib.hid (HB2.out.setCell HYB.out _)
    clear HY0 HX2 HR2 HB2 x0 x1 x2 x3 x4 x5 y0 y1 y2 y3 y4 y5 g0 g1 g2 g3 g4 g5
    generalize (W2.setCell ⟨y, 2, none⟩ (.int .i64 (B2 + C2))) = Wn at *
    clear W2
    rename World => W2
    have HY0 := HYn
    have HX2 := HXn
    have HR2 := HRn
    have HB2 := HBn
    clear HYn HXn HRn HBn
    cases hx : (bits .and .i64 (c / 256) 3 != 0) with
    | true =>
      have wq : 0 ≤ B2 + C2 + 15 := by omega
      obtain ⟨-, x0, x1, x2, x3, x4, x5, -⟩ := HX2.out
      obtain ⟨-, y0, y1, y2, y3, y4, y5, -⟩ := HY0.out
      obtain ⟨g0, g1, g2, g3, g4, g5⟩ := HY0.out.fz'
      go_upto_region 7 with (fail)
      have HYn := Lib.hid (HY0.out.s2 ((B2 + C2 + 15) / 16 * 16))
      have HXn : Hid (CapAt w.heap.size (W2.setCell ⟨y, 2, none⟩ (.int .i64 ((B2 + C2 + 15) / 16 * 16))) b l c p t v) := Lib.hid (HX2.out.far (y := y) n2)
      have HRn : Hid (CapAt (w.heap.size + 1) (W2.setCell ⟨y, 2, none⟩ (.int .i64 ((B2 + C2 + 15) / 16 * 16))) 0 0 0 0 0 false) := Lib.hid (HR2.out.far (y := y) n4)
      have HBn : Hid (Below w.heap.size w (W2.setCell ⟨y, 2, none⟩ (.int .i64 ((B2 + C2 + 15) / 16 * 16)))) := Lib.hid (HB2.out.setCell HYB.out _)
      clear HY0 HX2 HR2 HB2 x0 x1 x2 x3 x4 x5 y0 y1 y2 y3 y4 y5 g0 g1 g2 g3 g4 g5
      generalize (W2.setCell ⟨y, 2, none⟩ (.int .i64 ((B2 + C2 + 15) / 16 * 16))) = Wn at *
      clear W2
      rename World => W2
      have HY0 := HYn
      have HX2 := HXn
      have HR2 := HRn
      have HB2 := HBn
      clear HYn HXn HRn HBn
      cases hy : (bits .and .i64 (p / 32) 3 != 0) with
      | true =>
        obtain ⟨-, x0, x1, x2, x3, x4, x5, -⟩ := HX2.out
        obtain ⟨-, y0, y1, y2, y3, y4, y5, -⟩ := HY0.out
        obtain ⟨g0, g1, g2, g3, g4, g5⟩ := HY0.out.fz'
        go_upto_region 9 with (fail)
        have HYn := Lib.hid (HY0.out.s3 (31))
        have HXn : Hid (CapAt w.heap.size (W2.setCell ⟨y, 3, none⟩ (.int .i64 (31))) b l c p t v) := Lib.hid (HX2.out.far (y := y) n2)
        have HRn : Hid (CapAt (w.heap.size + 1) (W2.setCell ⟨y, 3, none⟩ (.int .i64 (31))) 0 0 0 0 0 false) := Lib.hid (HR2.out.far (y := y) n4)
        have HBn : Hid (Below w.heap.size w (W2.setCell ⟨y, 3, none⟩ (.int .i64 (31)))) := Lib.hid (HB2.out.setCell HYB.out _)
        clear HY0 HX2 HR2 HB2 x0 x1 x2 x3 x4 x5 y0 y1 y2 y3 y4 y5 g0 g1 g2 g3 g4 g5
        generalize (W2.setCell ⟨y, 3, none⟩ (.int .i64 (31))) = Wn at *
        clear W2
        rename World => W2
        have HY0 := HYn
        have HX2 := HXn
        have HR2 := HRn
        have HB2 := HBn
        clear HYn HXn HRn HBn
        obtain ⟨-, y0, y1, y2, y3, y4, y5, -⟩ := HY0.out
        obtain ⟨-, r0, r1, r2, r3, r4, r5, -⟩ := HR2.out
        obtain ⟨f0, f1, f2, f3, f4, f5⟩ := HR2.out.fz'
        go_wp2
        refine bodyPost_ret (v := .agg #[.int .i64 (B2), .int .i64 (1024 - B2), .int .i64 ((B2 + C2 + 15) / 16 * 16), .int .i64 (31), .int .i64 (1 + T2), .bool true]) (by simp [results, Tryz.results6, go_sem, r0, r1, r2, r3, r4, r5]) rfl ⟨_, _, _, _, _, rfl, by omega, below_set6' HB2.out (by omega) _ _ _ _ _ _⟩
      | false =>
        obtain ⟨-, x0, x1, x2, x3, x4, x5, -⟩ := HX2.out
        obtain ⟨-, y0, y1, y2, y3, y4, y5, -⟩ := HY0.out
        obtain ⟨g0, g1, g2, g3, g4, g5⟩ := HY0.out.fz'
        go_upto_region 9 with (fail)
        clear x0 x1 x2 x3 x4 x5 y0 y1 y2 y3 y4 y5 g0 g1 g2 g3 g4 g5
        obtain ⟨-, y0, y1, y2, y3, y4, y5, -⟩ := HY0.out
        obtain ⟨-, r0, r1, r2, r3, r4, r5, -⟩ := HR2.out
        obtain ⟨f0, f1, f2, f3, f4, f5⟩ := HR2.out.fz'
        go_wp2
        refine bodyPost_ret (v := .agg #[.int .i64 (B2), .int .i64 (1024 - B2), .int .i64 ((B2 + C2 + 15) / 16 * 16), .int .i64 (P), .int .i64 (1 + T2), .bool true]) (by simp [results, Tryz.results6, go_sem, r0, r1, r2, r3, r4, r5]) rfl ⟨_, _, _, _, _, rfl, by omega, below_set6' HB2.out (by omega) _ _ _ _ _ _⟩
    | false =>
      cases hy : (bits .and .i64 (p / 32) 3 != 0) with
      | true =>
        obtain ⟨-, x0, x1, x2, x3, x4, x5, -⟩ := HX2.out
        obtain ⟨-, y0, y1, y2, y3, y4, y5, -⟩ := HY0.out
        obtain ⟨g0, g1, g2, g3, g4, g5⟩ := HY0.out.fz'
        go_upto_region 9 with (fail)
        have HYn := Lib.hid (HY0.out.s3 (31))
        have HXn : Hid (CapAt w.heap.size (W2.setCell ⟨y, 3, none⟩ (.int .i64 (31))) b l c p t v) := Lib.hid (HX2.out.far (y := y) n2)
        have HRn : Hid (CapAt (w.heap.size + 1) (W2.setCell ⟨y, 3, none⟩ (.int .i64 (31))) 0 0 0 0 0 false) := Lib.hid (HR2.out.far (y := y) n4)
        have HBn : Hid (Below w.heap.size w (W2.setCell ⟨y, 3, none⟩ (.int .i64 (31)))) := Lib.hid (HB2.out.setCell HYB.out _)
        clear HY0 HX2 HR2 HB2 x0 x1 x2 x3 x4 x5 y0 y1 y2 y3 y4 y5 g0 g1 g2 g3 g4 g5
        generalize (W2.setCell ⟨y, 3, none⟩ (.int .i64 (31))) = Wn at *
        clear W2
        rename World => W2
        have HY0 := HYn
        have HX2 := HXn
        have HR2 := HRn
        have HB2 := HBn
        clear HYn HXn HRn HBn
        obtain ⟨-, y0, y1, y2, y3, y4, y5, -⟩ := HY0.out
        obtain ⟨-, r0, r1, r2, r3, r4, r5, -⟩ := HR2.out
        obtain ⟨f0, f1, f2, f3, f4, f5⟩ := HR2.out.fz'
        go_wp2
        refine bodyPost_ret (v := .agg #[.int .i64 (B2), .int .i64 (1024 - B2), .int .i64 (B2 + C2), .int .i64 (31), .int .i64 (1 + T2), .bool true]) (by simp [results, Tryz.results6, go_sem, r0, r1, r2, r3, r4, r5]) rfl ⟨_, _, _, _, _, rfl, by omega, below_set6' HB2.out (by omega) _ _ _ _ _ _⟩
      | false =>
        obtain ⟨-, x0, x1, x2, x3, x4, x5, -⟩ := HX2.out
        obtain ⟨-, y0, y1, y2, y3, y4, y5, -⟩ := HY0.out
        obtain ⟨g0, g1, g2, g3, g4, g5⟩ := HY0.out.fz'
        go_upto_region 9 with (fail)
        clear x0 x1 x2 x3 x4 x5 y0 y1 y2 y3 y4 y5 g0 g1 g2 g3 g4 g5
        obtain ⟨-, y0, y1, y2, y3, y4, y5, -⟩ := HY0.out
        obtain ⟨-, r0, r1, r2, r3, r4, r5, -⟩ := HR2.out
        obtain ⟨f0, f1, f2, f3, f4, f5⟩ := HR2.out.fz'
        go_wp2
        refine bodyPost_ret (v := .agg #[.int .i64 (B2), .int .i64 (1024 - B2), .int .i64 (B2 + C2), .int .i64 (P), .int .i64 (1 + T2), .bool true]) (by simp [results, Tryz.results6, go_sem, r0, r1, r2, r3, r4, r5]) rfl ⟨_, _, _, _, _, rfl, by omega, below_set6' HB2.out (by omega) _ _ _ _ _ _⟩
  · obtain ⟨-, x0, x1, x2, x3, x4, x5, -⟩ := HX2.out
    obtain ⟨-, y0, y1, y2, y3, y4, y5, -⟩ := HY0.out
    obtain ⟨g0, g1, g2, g3, g4, g5⟩ := HY0.out.fz'
    go_upto_region 4 with (fail)
    have HYn := Lib.hid (HY0.out.s1 (L + 48))
    have HXn : Hid (CapAt w.heap.size (W2.setCell ⟨y, 1, none⟩ (.int .i64 (L + 48))) b l c p t v) := Lib.hid (HX2.out.far (y := y) n2)
    have HRn : Hid (CapAt (w.heap.size + 1) (W2.setCell ⟨y, 1, none⟩ (.int .i64 (L + 48))) 0 0 0 0 0 false) := Lib.hid (HR2.out.far (y := y) n4)
    have HBn : Hid (Below w.heap.size w (W2.setCell ⟨y, 1, none⟩ (.int .i64 (L + 48)))) := Lib.hid (HB2.out.setCell HYB.out _)
    clear HY0 HX2 HR2 HB2 x0 x1 x2 x3 x4 x5 y0 y1 y2 y3 y4 y5 g0 g1 g2 g3 g4 g5
    generalize (W2.setCell ⟨y, 1, none⟩ (.int .i64 (L + 48))) = Wn at *
    clear W2
    rename World => W2
    have HY0 := HYn
    have HX2 := HXn
    have HR2 := HRn
    have HB2 := HBn
    clear HYn HXn HRn HBn
    obtain ⟨-, x0, x1, x2, x3, x4, x5, -⟩ := HX2.out
    obtain ⟨-, y0, y1, y2, y3, y4, y5, -⟩ := HY0.out
    obtain ⟨g0, g1, g2, g3, g4, g5⟩ := HY0.out.fz'
    go_upto_region 5 with (fail)
    have HYn := Lib.hid (HY0.out.s2 (B2 + C2))
    have HXn : Hid (CapAt w.heap.size (W2.setCell ⟨y, 2, none⟩ (.int .i64 (B2 + C2))) b l c p t v) := Lib.hid (HX2.out.far (y := y) n2)
    have HRn : Hid (CapAt (w.heap.size + 1) (W2.setCell ⟨y, 2, none⟩ (.int .i64 (B2 + C2))) 0 0 0 0 0 false) := Lib.hid (HR2.out.far (y := y) n4)
    have HBn : Hid (Below w.heap.size w (W2.setCell ⟨y, 2, none⟩ (.int .i64 (B2 + C2)))) := Lib.hid (HB2.out.setCell HYB.out _)
    clear HY0 HX2 HR2 HB2 x0 x1 x2 x3 x4 x5 y0 y1 y2 y3 y4 y5 g0 g1 g2 g3 g4 g5
    generalize (W2.setCell ⟨y, 2, none⟩ (.int .i64 (B2 + C2))) = Wn at *
    clear W2
    rename World => W2
    have HY0 := HYn
    have HX2 := HXn
    have HR2 := HRn
    have HB2 := HBn
    clear HYn HXn HRn HBn
    cases hx : (bits .and .i64 (c / 256) 3 != 0) with
    | true =>
      have wq : 0 ≤ B2 + C2 + 15 := by omega
      obtain ⟨-, x0, x1, x2, x3, x4, x5, -⟩ := HX2.out
      obtain ⟨-, y0, y1, y2, y3, y4, y5, -⟩ := HY0.out
      obtain ⟨g0, g1, g2, g3, g4, g5⟩ := HY0.out.fz'
      go_upto_region 7 with (fail)
      have HYn := Lib.hid (HY0.out.s2 ((B2 + C2 + 15) / 16 * 16))
      have HXn : Hid (CapAt w.heap.size (W2.setCell ⟨y, 2, none⟩ (.int .i64 ((B2 + C2 + 15) / 16 * 16))) b l c p t v) := Lib.hid (HX2.out.far (y := y) n2)
      have HRn : Hid (CapAt (w.heap.size + 1) (W2.setCell ⟨y, 2, none⟩ (.int .i64 ((B2 + C2 + 15) / 16 * 16))) 0 0 0 0 0 false) := Lib.hid (HR2.out.far (y := y) n4)
      have HBn : Hid (Below w.heap.size w (W2.setCell ⟨y, 2, none⟩ (.int .i64 ((B2 + C2 + 15) / 16 * 16)))) := Lib.hid (HB2.out.setCell HYB.out _)
      clear HY0 HX2 HR2 HB2 x0 x1 x2 x3 x4 x5 y0 y1 y2 y3 y4 y5 g0 g1 g2 g3 g4 g5
      generalize (W2.setCell ⟨y, 2, none⟩ (.int .i64 ((B2 + C2 + 15) / 16 * 16))) = Wn at *
      clear W2
      rename World => W2
      have HY0 := HYn
      have HX2 := HXn
      have HR2 := HRn
      have HB2 := HBn
      clear HYn HXn HRn HBn
      cases hy : (bits .and .i64 (p / 32) 3 != 0) with
      | true =>
        obtain ⟨-, x0, x1, x2, x3, x4, x5, -⟩ := HX2.out
        obtain ⟨-, y0, y1, y2, y3, y4, y5, -⟩ := HY0.out
        obtain ⟨g0, g1, g2, g3, g4, g5⟩ := HY0.out.fz'
        go_upto_region 9 with (fail)
        have HYn := Lib.hid (HY0.out.s3 (31))
        have HXn : Hid (CapAt w.heap.size (W2.setCell ⟨y, 3, none⟩ (.int .i64 (31))) b l c p t v) := Lib.hid (HX2.out.far (y := y) n2)
        have HRn : Hid (CapAt (w.heap.size + 1) (W2.setCell ⟨y, 3, none⟩ (.int .i64 (31))) 0 0 0 0 0 false) := Lib.hid (HR2.out.far (y := y) n4)
        have HBn : Hid (Below w.heap.size w (W2.setCell ⟨y, 3, none⟩ (.int .i64 (31)))) := Lib.hid (HB2.out.setCell HYB.out _)
        clear HY0 HX2 HR2 HB2 x0 x1 x2 x3 x4 x5 y0 y1 y2 y3 y4 y5 g0 g1 g2 g3 g4 g5
        generalize (W2.setCell ⟨y, 3, none⟩ (.int .i64 (31))) = Wn at *
        clear W2
        rename World => W2
        have HY0 := HYn
        have HX2 := HXn
        have HR2 := HRn
        have HB2 := HBn
        clear HYn HXn HRn HBn
        obtain ⟨-, y0, y1, y2, y3, y4, y5, -⟩ := HY0.out
        obtain ⟨-, r0, r1, r2, r3, r4, r5, -⟩ := HR2.out
        obtain ⟨f0, f1, f2, f3, f4, f5⟩ := HR2.out.fz'
        go_wp2
        refine bodyPost_ret (v := .agg #[.int .i64 (B2), .int .i64 (L + 48), .int .i64 ((B2 + C2 + 15) / 16 * 16), .int .i64 (31), .int .i64 (1 + T2), .bool true]) (by simp [results, Tryz.results6, go_sem, r0, r1, r2, r3, r4, r5]) rfl ⟨_, _, _, _, _, rfl, by omega, below_set6' HB2.out (by omega) _ _ _ _ _ _⟩
      | false =>
        obtain ⟨-, x0, x1, x2, x3, x4, x5, -⟩ := HX2.out
        obtain ⟨-, y0, y1, y2, y3, y4, y5, -⟩ := HY0.out
        obtain ⟨g0, g1, g2, g3, g4, g5⟩ := HY0.out.fz'
        go_upto_region 9 with (fail)
        clear x0 x1 x2 x3 x4 x5 y0 y1 y2 y3 y4 y5 g0 g1 g2 g3 g4 g5
        obtain ⟨-, y0, y1, y2, y3, y4, y5, -⟩ := HY0.out
        obtain ⟨-, r0, r1, r2, r3, r4, r5, -⟩ := HR2.out
        obtain ⟨f0, f1, f2, f3, f4, f5⟩ := HR2.out.fz'
        go_wp2
        refine bodyPost_ret (v := .agg #[.int .i64 (B2), .int .i64 (L + 48), .int .i64 ((B2 + C2 + 15) / 16 * 16), .int .i64 (P), .int .i64 (1 + T2), .bool true]) (by simp [results, Tryz.results6, go_sem, r0, r1, r2, r3, r4, r5]) rfl ⟨_, _, _, _, _, rfl, by omega, below_set6' HB2.out (by omega) _ _ _ _ _ _⟩
    | false =>
      cases hy : (bits .and .i64 (p / 32) 3 != 0) with
      | true =>
        obtain ⟨-, x0, x1, x2, x3, x4, x5, -⟩ := HX2.out
        obtain ⟨-, y0, y1, y2, y3, y4, y5, -⟩ := HY0.out
        obtain ⟨g0, g1, g2, g3, g4, g5⟩ := HY0.out.fz'
        go_upto_region 9 with (fail)
        have HYn := Lib.hid (HY0.out.s3 (31))
        have HXn : Hid (CapAt w.heap.size (W2.setCell ⟨y, 3, none⟩ (.int .i64 (31))) b l c p t v) := Lib.hid (HX2.out.far (y := y) n2)
        have HRn : Hid (CapAt (w.heap.size + 1) (W2.setCell ⟨y, 3, none⟩ (.int .i64 (31))) 0 0 0 0 0 false) := Lib.hid (HR2.out.far (y := y) n4)
        have HBn : Hid (Below w.heap.size w (W2.setCell ⟨y, 3, none⟩ (.int .i64 (31)))) := Lib.hid (HB2.out.setCell HYB.out _)
        clear HY0 HX2 HR2 HB2 x0 x1 x2 x3 x4 x5 y0 y1 y2 y3 y4 y5 g0 g1 g2 g3 g4 g5
        generalize (W2.setCell ⟨y, 3, none⟩ (.int .i64 (31))) = Wn at *
        clear W2
        rename World => W2
        have HY0 := HYn
        have HX2 := HXn
        have HR2 := HRn
        have HB2 := HBn
        clear HYn HXn HRn HBn
        obtain ⟨-, y0, y1, y2, y3, y4, y5, -⟩ := HY0.out
        obtain ⟨-, r0, r1, r2, r3, r4, r5, -⟩ := HR2.out
        obtain ⟨f0, f1, f2, f3, f4, f5⟩ := HR2.out.fz'
        go_wp2
        refine bodyPost_ret (v := .agg #[.int .i64 (B2), .int .i64 (L + 48), .int .i64 (B2 + C2), .int .i64 (31), .int .i64 (1 + T2), .bool true]) (by simp [results, Tryz.results6, go_sem, r0, r1, r2, r3, r4, r5]) rfl ⟨_, _, _, _, _, rfl, by omega, below_set6' HB2.out (by omega) _ _ _ _ _ _⟩
      | false =>
        obtain ⟨-, x0, x1, x2, x3, x4, x5, -⟩ := HX2.out
        obtain ⟨-, y0, y1, y2, y3, y4, y5, -⟩ := HY0.out
        obtain ⟨g0, g1, g2, g3, g4, g5⟩ := HY0.out.fz'
        go_upto_region 9 with (fail)
        clear x0 x1 x2 x3 x4 x5 y0 y1 y2 y3 y4 y5 g0 g1 g2 g3 g4 g5
        obtain ⟨-, y0, y1, y2, y3, y4, y5, -⟩ := HY0.out
        obtain ⟨-, r0, r1, r2, r3, r4, r5, -⟩ := HR2.out
        obtain ⟨f0, f1, f2, f3, f4, f5⟩ := HR2.out.fz'
        go_wp2
        refine bodyPost_ret (v := .agg #[.int .i64 (B2), .int .i64 (L + 48), .int .i64 (B2 + C2), .int .i64 (P), .int .i64 (1 + T2), .bool true]) (by simp [results, Tryz.results6, go_sem, r0, r1, r2, r3, r4, r5]) rfl ⟨_, _, _, _, _, rfl, by omega, below_set6' HB2.out (by omega) _ _ _ _ _ _⟩
end Go.Proofs.YtnfcpohbdkionaaGreatDoor
