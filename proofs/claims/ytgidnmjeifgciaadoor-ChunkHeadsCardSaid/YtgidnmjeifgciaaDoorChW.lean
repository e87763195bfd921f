/- The statements of chunk: their example. -/
import Derived.Test.YtgidnmjeifgciaaDoorChC
import Derived.Test.YtgidnmjeifgciaaDoorMmN
import Derived.Deep.RegionHeld3
namespace Go.Proofs.YtgidnmjeifgciaaDoor
set_option maxRecDepth 100000
open Go.RowKit Go.ChangeMaps Go.MapKept
set_option linter.unusedVariables false
set_option linter.unusedSimpArgs false

theorem readOk_F (key at_ : Int) (s c t n e : Nat) (hok : headOkB s c t n e = true) (hn : n < 16777216) (he : e < 16777216) : readOk key at_ (headF key at_ s c t n e) = true ∧ headF key at_ s c t n e 1 = s ∧ headF key at_ s c t n e 2 = c ∧ headF key at_ s c t n e 3 = t ∧ get3 (headF key at_ s c t n e) 4 = n ∧ get3 (headF key at_ s c t n e) 7 = e := by
  obtain ⟨p1, p2, p3, p4, p5⟩ := headF_parts key at_ s c t n e hn he
  refine ⟨?_, p1, p2, p3, p4, p5⟩
  unfold readOk
  rw [headF_seal, p1, p2, p3, p4, p5, hok]
  simp
theorem cntF_zero9 (n : Nat) : cntF (fun _ => false) n = 0 := by
  induction n with
  | zero => rfl
  | succ n ih => rw [cntF, ih]; rfl
def s21 : MS := { newS 2 with pg := onF (newS 2).pg 0 2, peak := max (newS 2).peak ((cntF (newS 2).pg 1024 : Nat) + 2) }
def s21b : MS := putS s21 16 (headF 7 ((16 : Nat) + 16) 1 2 0 0 0)
def s21c : MS := { s21b with f := setF s21b.f (grF ((32 : Nat) : Int)) (grN ((32 : Nat) : Int) ((48 : Nat) : Int)) 4 }
set_option maxHeartbeats 3200000 in
theorem w21awake (w : World) (ht : TzTab w) :
    Calls Tryd.prog 43 #[] w fun e w' => e = .returned (.bool true) ∧ Below w.heap.size w w' := by
  have T := Lib.hid ht; clear ht
  have ho16 : openB s21.pg (16 : Nat) 16 = true := by decide +kernel
  have hhd : headOkB (1 : Nat) (2 : Nat) (0 : Nat) (0 : Nat) (0 : Nat) = true := by decide
  have hbytes : ∀ i, i < 16 → s21b.c (16 + i) = headF 7 ((16 : Nat) + 16) 1 2 0 0 0 i := fun i hi => by
    show (if 16 ≤ 16 + i ∧ 16 + i < 16 + 16 then headF 7 ((16 : Nat) + 16) 1 2 0 0 0 (16 + i - 16) else _) = _
    rw [if_pos (by omega), Nat.add_sub_cancel_left]
  have HBY := Lib.hid hbytes
  have HRO := Lib.hid (readOk_F 7 ((16 : Nat) + 16) 1 2 0 0 0 hhd (by decide) (by decide))
  have HFL := Lib.hid (headF_lt 7 ((16 : Nat) + 16) (s := 1) (c := 2) (t := 0) 0 0 (by decide) (by decide) (by decide))
  have HO16 := Lib.hid ho16
  have HHD := Lib.hid hhd
  clear hbytes ho16 hhd
  go_enter Tryd.func43, Tryd.ntmps43
  go_wp2_with fail
  refine (mnew 2 2 _ T.out (by decide)).mono ?_
  rintro e v1 ⟨M, col, rfl, hm1, hb1⟩
  have HM1 := Lib.hid hm1
  have HB1 := Lib.hid hb1
  clear hm1 hb1
  have K1 := Lib.hid (mmap_free 0 2 HM1.out (by decide) (fun y _ _ => rfl))
  go_wp2_with fail
  refine K1.out.mono ?_
  rintro e v2 (⟨h, _⟩ | ⟨-, rfl, hs2, -⟩)
  · exfalso
    have : cntF (newS 2).pg 1024 = 0 := cntF_zero9 1024
    rw [this] at h
    revert h
    decide
  obtain ⟨col2, hm2, -, -, hb2⟩ := hs2
  have HB2 : Hid (Below w.heap.size w v2) := Lib.hid (HB1.out.trans hb2)
  have HM2 : Hid (MEM w.heap.size col2 M v2 s21) := Lib.hid hm2
  clear hb2 hm2 K1
  go_upto_region 4 with (fail)
  have HC0 := Lib.hid (ChAt.new v2 M 7 85)
  have HM3 := Lib.hid (HM2.out.later (alc0 v2 (.cells #[.pointer (some ⟨M, 0, none⟩), .int .u64 7] 85)))
  have HB3 := Lib.hid (HB2.out.trans ((alc0 v2 (.cells #[.pointer (some ⟨M, 0, none⟩), .int .u64 7] 85)).mono HM2.out.size))
  have HX0 : Hid (col2 v2.heap.size = 0) := Lib.hid (HM2.out.old (Nat.le_refl _))
  clear HM2 HB2
  generalize hx : v2.heap.size = x at *
  generalize hW : World.alloc v2 _ = v3 at *
  clear hW hx
  obtain ⟨-, c0, c1⟩ := HC0.out
  go_wp2_with fail
  refine (chput_ok 7 16 1 2 0 0 0 (by decide) (by decide) HHD.out (by decide) (by decide) (by decide) (by decide) (by decide) (by decide) (by decide) HM3.out HO16.out).mono ?_
  rintro e v4 ⟨rfl, col4, hm4, hc4, ho4, hb4⟩
  have HC4 := Lib.hid (HC0.out.keep hb4.size (ho4 _ HC0.out.1 (by rw [HX0.out]; decide)))
  have HX4 : Hid (col4 x = 0) := Lib.hid ((hc4 _ HC0.out.1).trans HX0.out)
  have HM4 : Hid (MEM w.heap.size col4 M v4 s21b) := Lib.hid hm4
  have HB4 := Lib.hid (HB3.out.trans hb4)
  clear hm4 hc4 ho4 hb4 c0 c1
  obtain ⟨-, c0, c1⟩ := HC4.out
  go_wp2_with fail
  refine (chget_yes 7 16 (by decide) (by decide) HM4.out (headF 7 ((16 : Nat) + 16) 1 2 0 0 0) HO16.out HBY.out HFL.out (by decide) (by decide) 1 2 0 0 0 HRO.out).mono ?_
  rintro e v5 ⟨rfl, hb5⟩
  have hb6 := alc hb5 (.cells #[.int .i64 ((1 : Nat) : Int), .int .i64 ((2 : Nat) : Int), .int .i64 ((0 : Nat) : Int), .int .i64 ((0 : Nat) : Int), .int .i64 ((0 : Nat) : Int)] 83)
  have HC6 := Lib.hid (HC4.out.below hb6)
  have HM6 := Lib.hid (HM4.out.later hb6)
  have HB6 := Lib.hid (HB4.out.trans (hb6.mono HM4.out.size))
  have HH6 := Lib.hid (HeadAt.new v5 ((1 : Nat) : Int) ((2 : Nat) : Int) ((0 : Nat) : Int) ((0 : Nat) : Int) ((0 : Nat) : Int) 83)
  have HX5 : Hid (col4 v5.heap.size = 0) := Lib.hid (HM4.out.old hb5.size)
  clear hb5 hb6 c0 c1
  go_upto_region 6 with (fail)
  generalize hy : v5.heap.size = y at *
  generalize hW : World.alloc v5 _ = v6 at *
  clear hW hy
  obtain ⟨-, c0, c1⟩ := HC6.out
  go_wp2_with fail
  refine (chretag 7 3 2 0 0 32 48 4 HM6.out (by decide +kernel) (by decide) (fun w' hM => chbeside 7 32 48 48 0 0 0 0 (by decide) (by decide) (by decide) (by decide) hM (by decide +kernel) (by decide +kernel) (by decide) (by decide)) (by decide +kernel)).mono ?_
  rintro e v7 ⟨rfl, col7, hm7, hc7, ho7, hb7⟩
  have HM7 : Hid (MEM w.heap.size col7 M v7 s21c) := Lib.hid hm7
  have HB7 := Lib.hid (HB6.out.trans hb7)
  have HH7 := Lib.hid (HH6.out.keep hb7.size (ho7 _ HH6.out.1 (by rw [HX5.out]; decide)))
  clear hm7 hc7 ho7 hb7 c0 c1
  obtain ⟨-, d0, d1, d2, d3, d4, -⟩ := HH7.out
  go_wp2_with fail
  refine (mtag 4 32 HM7.out (by decide +kernel)).mono ?_
  rintro e v8 ⟨rfl, hb8⟩
  have HM8 := Lib.hid (HM7.out.later hb8)
  have HB8 := Lib.hid (HB7.out.trans (hb8.mono HM7.out.size))
  clear hb8 d0 d1 d2 d3 d4
  go_wp2_with fail
  refine (mtag 0 16 HM8.out (by decide +kernel)).mono ?_
  rintro e v9 ⟨rfl, hb9⟩
  have HB9 := Lib.hid (HB8.out.trans (hb9.mono HM8.out.size))
  clear hb9
  go_wp2
  go_ret
  exact ⟨rfl, HB9.out⟩
end Go.Proofs.YtgidnmjeifgciaaDoor
