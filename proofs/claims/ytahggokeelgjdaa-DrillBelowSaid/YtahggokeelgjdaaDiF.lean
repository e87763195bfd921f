/- Dice: the form of the number 0; five things; awake. -/
import Derived.Test.YtahggokeelgjdaaDiD
namespace Go.Proofs.Ytahggokeelgjdaa
open Go.RowKit
set_option linter.unusedVariables false
set_option linter.unusedSimpArgs false

/-- Where the dice of 0 stand, one draw behind the other. -/
def sd : Nat → Nat
  | 0 => 0
  | i + 1 => nx (sd i)
theorem dfromL (g i : Nat) (a b r : Int) (n : Nat) (W : World) (h : DC g (sd i) W) (hn : 1 ≤ n) (hab : b - a + 1 = (n : Int)) (ha : -1099511627776 ≤ a ∧ a ≤ 1099511627776) (hn9 : n ≤ 1099511627776) (hr : a + (bel (sd i) n : Nat) = r) :
    Calls Try.prog 36 #[.pointer (some ⟨g, 0, none⟩), .int .i64 a, .int .i64 b] W fun e w' => e = .returned (.int .i64 r) ∧ DP g (sd (i + 1)) W w' :=
  (dfrom g (sd i) a b n W h hn hab ha hn9).mono fun e w' ⟨he, hd⟩ => ⟨by rw [he, hr], hd⟩
theorem ConfAt.kps {z g : Nat} {W W' : World} {pg rg lg th ca ba sh re mo fi key : Int} (h : ConfAt z W pg rg lg th ca ba sh re mo fi key) (hz : z ≠ g) (hk : Kps g W W') : ConfAt z W' pg rg lg th ca ba sh re mo fi key := h.keep hk.1.size (hk.2 z h.1 hz)
set_option maxRecDepth 100000 in
set_option maxHeartbeats 16000000 in
theorem dconf0 (g : Nat) (W : World) (h : DC g (sd 0) W) :
    Calls Try.prog 30 #[.pointer (some ⟨g, 0, none⟩), .bool true] W fun e w' => e = .returned (.agg #[.int .i64 109, .int .i64 5, .int .i64 0, .int .i64 2, .int .i64 27, .int .i64 13, .int .i64 3, .int .i64 15, .int .i64 2205, .int .i64 57, .int .u64 318699214]) ∧ DP g (sd 11) W w' := by
  have hgW := h.1
  have H0 := Lib.hid ((DP.start h).below (alc0 W (.cells #[.int .i64 0, .int .i64 0, .int .i64 0, .int .i64 0, .int .i64 0, .int .i64 0, .int .i64 0, .int .i64 0, .int .i64 0, .int .i64 0, .int .u64 0] 59)))
  have HX := Lib.hid (ConfAt.new W 0 0 0 0 0 0 0 0 0 0 0 59)
  clear h
  go_enter Try.func30, Try.ntmps30
  go_upto_region 1 with (fail)
  obtain ⟨x4, hx4⟩ : ∃ x4, W.heap.size = x4 := ⟨_, rfl⟩
  obtain ⟨w0, hw0⟩ : ∃ w0, W.alloc (.cells #[.int .i64 0, .int .i64 0, .int .i64 0, .int .i64 0, .int .i64 0, .int .i64 0, .int .i64 0, .int .i64 0, .int .i64 0, .int .i64 0, .int .u64 0] 59) = w0 := ⟨_, rfl⟩
  rw [hw0] at H0 HX ⊢
  rw [hx4] at HX ⊢
  have hxg : x4 ≠ g := by omega
  have HX4 := Lib.hid hx4
  clear hw0 hx4
  go_wp2_with fail
  with_reducible refine Calls.mono (dfromL g 0 5 8 5 4 _ H0.out.dc (by decide) (by decide) (by decide) (by decide) (by decide +kernel)) ?_
  rintro e w1 ⟨rfl, hd⟩
  have H1 := Lib.hid (H0.out.trans hd)
  have HXb := Lib.hid (HX.out.kps hxg hd.kp)
  clear hd H0 HX
  go_wp2_with fail
  with_reducible refine Calls.mono (dfromL g 1 0 3 0 4 _ H1.out.dc (by decide) (by decide) (by decide) (by decide) (by decide +kernel)) ?_
  rintro e w2 ⟨rfl, hd⟩
  have H2 := Lib.hid (H1.out.trans hd)
  have HX := Lib.hid (HXb.out.kps hxg hd.kp)
  clear hd H1 HXb
  go_wp2_with fail
  with_reducible refine Calls.mono (dfromL g 2 1 8 2 8 _ H2.out.dc (by decide) (by decide) (by decide) (by decide) (by decide +kernel)) ?_
  rintro e w3 ⟨rfl, hd⟩
  have H3 := Lib.hid (H2.out.trans hd)
  have HXb := Lib.hid (HX.out.kps hxg hd.kp)
  clear hd H2 HX
  go_wp2_with fail
  with_reducible refine Calls.mono (dfromL g 3 1 16 13 16 _ H3.out.dc (by decide) (by decide) (by decide) (by decide) (by decide +kernel)) ?_
  rintro e w4 ⟨rfl, hd⟩
  have H4 := Lib.hid (H3.out.trans hd)
  have HX := Lib.hid (HXb.out.kps hxg hd.kp)
  clear hd H3 HXb
  go_wp2_with fail
  with_reducible refine Calls.mono (dfromL g 4 0 8 3 9 _ H4.out.dc (by decide) (by decide) (by decide) (by decide) (by decide +kernel)) ?_
  rintro e w5 ⟨rfl, hd⟩
  have H5 := Lib.hid (H4.out.trans hd)
  have HXb := Lib.hid (HX.out.kps hxg hd.kp)
  clear hd H4 HX
  go_wp2_with fail
  with_reducible refine Calls.mono (dfromL g 5 4 16 15 13 _ H5.out.dc (by decide) (by decide) (by decide) (by decide) (by decide +kernel)) ?_
  rintro e w6 ⟨rfl, hd⟩
  have H6 := Lib.hid (H5.out.trans hd)
  have HX := Lib.hid (HXb.out.kps hxg hd.kp)
  clear hd H5 HXb
  go_wp2_with fail
  with_reducible refine Calls.mono (dfromL g 6 1000 5000 2205 4001 _ H6.out.dc (by decide) (by decide) (by decide) (by decide) (by decide +kernel)) ?_
  rintro e w7 ⟨rfl, hd⟩
  have H7 := Lib.hid (H6.out.trans hd)
  have HXb := Lib.hid (HX.out.kps hxg hd.kp)
  clear hd H6 HX
  go_wp2_with fail
  with_reducible refine Calls.mono (dfromL g 7 0 255 57 256 _ H7.out.dc (by decide) (by decide) (by decide) (by decide) (by decide +kernel)) ?_
  rintro e w8 ⟨rfl, hd⟩
  have H8 := Lib.hid (H7.out.trans hd)
  have HX := Lib.hid (HXb.out.kps hxg hd.kp)
  clear hd H7 HXb
  go_wp2_with fail
  with_reducible refine Calls.mono (dfromL g 8 0 1073741824 318699214 1073741825 _ H8.out.dc (by decide) (by decide) (by decide) (by decide) (by decide +kernel)) ?_
  rintro e w9 ⟨rfl, hd⟩
  have H9 := Lib.hid (H8.out.trans hd)
  have HXb := Lib.hid (HX.out.kps hxg hd.kp)
  clear hd H8 HX
  have HXc := HXb
  clear HXb
  go_upto_region 2 with (fail)
  obtain ⟨z, hz⟩ : ∃ z, w9.heap.size = z := ⟨_, rfl⟩
  obtain ⟨wA, hwA⟩ : ∃ wA, w9.alloc (.cells #[.int .i64 0, .int .i64 5, .int .i64 0, .int .i64 2, .int .i64 0, .int .i64 13, .int .i64 3, .int .i64 15, .int .i64 2205, .int .i64 57, .int .u64 318699214] 59) = wA := ⟨_, rfl⟩
  have HZA : Hid (ConfAt z wA 0 5 0 2 0 13 3 15 2205 57 318699214) := Lib.hid (by rw [← hwA, ← hz]; exact ConfAt.new _ 0 5 0 2 0 13 3 15 2205 57 318699214 _)
  have HA : Hid (DP g (sd 9) W wA) := Lib.hid (by rw [← hwA]; exact H9.out.below (alc0 _ _))
  have HXA : Hid (ConfAt x4 wA 0 0 0 0 0 0 0 0 0 0 0) := Lib.hid (by rw [← hwA]; exact HXc.out.below (alc0 _ _))
  have hW9 := H9.out.kp.1.size
  have hg9 := H9.out.dc.1
  have hx9 := HXc.out.1
  have hzg : z ≠ g := by omega
  have hzx : x4 ≠ z := by omega
  have hWz : W.heap.size ≤ z := by have := HX4.out; omega
  rw [hwA]
  rw [hz]
  clear hwA hz H9 HXc hW9 hg9 hx9
  obtain ⟨hzl, k0, k1, k2, k3, k4, k5, k6, k7, k8, k9, k10, kf⟩ := HZA.out
  go_wp2_with fail
  with_reducible refine Calls.mono (dfromL g 9 13 32 27 20 _ HA.out.dc (by decide) (by decide) (by decide) (by decide) (by decide +kernel)) ?_
  rintro e w10 ⟨rfl, hd⟩
  have H10 := Lib.hid (HA.out.trans hd)
  have HX10 := Lib.hid (HXA.out.kps hxg hd.kp)
  have HZ10 := Lib.hid (HZA.out.kps hzg hd.kp)
  clear hd HA HXA HZA hzl k0 k1 k2 k3 k4 k5 k6 k7 k8 k9 k10 kf
  obtain ⟨hzl, k0, k1, k2, k3, k4, k5, k6, k7, k8, k9, k10, kf⟩ := HZ10.out
  have kf4 := kf 4 (by decide)
  go_upto_region 3 with (fail)
  obtain ⟨wB, hwB⟩ : ∃ wB, w10.setCell ⟨z, 4, none⟩ (.int .i64 27) = wB := ⟨_, rfl⟩
  have HZB : Hid (ConfAt z wB 0 5 0 2 27 13 3 15 2205 57 318699214) := Lib.hid (by rw [← hwB]; exact HZ10.out.s4 27)
  have HXB : Hid (ConfAt x4 wB 0 0 0 0 0 0 0 0 0 0 0) := Lib.hid (by rw [← hwB]; exact HX10.out.far hzx)
  have HB : Hid (DP g (sd 10) W wB) := Lib.hid (by rw [← hwB]; exact H10.out.low (Kps.set z 4 _ _) (Ne.symm hzg) hWz hgW)
  rw [hwB]
  clear hwB H10 HX10 HZ10 hzl k0 k1 k2 k3 k4 k5 k6 k7 k8 k9 k10 kf kf4
  obtain ⟨hzl, k0, k1, k2, k3, k4, k5, k6, k7, k8, k9, k10, kf⟩ := HZB.out
  go_wp2_with fail
  with_reducible refine Calls.mono (dfromL g 10 12 100 72 89 _ HB.out.dc (by decide) (by decide) (by decide) (by decide) (by decide +kernel)) ?_
  rintro e w11 ⟨rfl, hd⟩
  have H11 := Lib.hid (HB.out.trans hd)
  have HX11 := Lib.hid (HXB.out.kps hxg hd.kp)
  have HZ11 := Lib.hid (HZB.out.kps hzg hd.kp)
  clear hd HB HXB HZB hzl k0 k1 k2 k3 k4 k5 k6 k7 k8 k9 k10 kf
  obtain ⟨hzl, k0, k1, k2, k3, k4, k5, k6, k7, k8, k9, k10, kf⟩ := HZ11.out
  have kf0 := kf 0 (by decide)
  go_upto_region 6 with (fail)
  obtain ⟨wC, hwC⟩ : ∃ wC, w11.setCell ⟨z, 0, none⟩ (.int .i64 72) = wC := ⟨_, rfl⟩
  have HZC : Hid (ConfAt z wC 72 5 0 2 27 13 3 15 2205 57 318699214) := Lib.hid (by rw [← hwC]; exact HZ11.out.s0 72)
  have HXC : Hid (ConfAt x4 wC 0 0 0 0 0 0 0 0 0 0 0) := Lib.hid (by rw [← hwC]; exact HX11.out.far hzx)
  have HC : Hid (DP g (sd 11) W wC) := Lib.hid (by rw [← hwC]; exact H11.out.low (Kps.set z 0 _ _) (Ne.symm hzg) hWz hgW)
  rw [hwC]
  clear hwC H11 HX11 HZ11 hzl k0 k1 k2 k3 k4 k5 k6 k7 k8 k9 k10 kf kf0
  obtain ⟨hzl, k0, k1, k2, k3, k4, k5, k6, k7, k8, k9, k10, kf⟩ := HZC.out
  have kf0 := kf 0 (by decide)
  go_upto_region 8 with (fail)
  obtain ⟨wD, hwD⟩ : ∃ wD, wC.setCell ⟨z, 0, none⟩ (.int .i64 109) = wD := ⟨_, rfl⟩
  have HZD : Hid (ConfAt z wD 109 5 0 2 27 13 3 15 2205 57 318699214) := Lib.hid (by rw [← hwD]; exact HZC.out.s0 109)
  have HXD : Hid (ConfAt x4 wD 0 0 0 0 0 0 0 0 0 0 0) := Lib.hid (by rw [← hwD]; exact HXC.out.far hzx)
  have HD : Hid (DP g (sd 11) W wD) := Lib.hid (by rw [← hwD]; exact HC.out.low (Kps.set z 0 _ _) (Ne.symm hzg) hWz hgW)
  rw [hwD]
  clear hwD HC HXC HZC hzl k0 k1 k2 k3 k4 k5 k6 k7 k8 k9 k10 kf kf0
  obtain ⟨hzl, k0, k1, k2, k3, k4, k5, k6, k7, k8, k9, k10, -⟩ := HZD.out
  have hxs := ((((((((((HXD.out.s0 109).s1 5).s2 0).s3 2).s4 27).s5 13).s6 3).s7 15).s8 2205).s9 57).s10 318699214
  obtain ⟨hxl, j0, j1, j2, j3, j4, j5, j6, j7, j8, j9, j10, jf⟩ := HXD.out
  have jf0 := jf 0 (by decide)
  have jf1 := jf 1 (by decide)
  have jf2 := jf 2 (by decide)
  have jf3 := jf 3 (by decide)
  have jf4 := jf 4 (by decide)
  have jf5 := jf 5 (by decide)
  have jf6 := jf 6 (by decide)
  have jf7 := jf 7 (by decide)
  have jf8 := jf 8 (by decide)
  have jf9 := jf 9 (by decide)
  have jf10 := jf 10 (by decide)
  obtain ⟨ws, hws⟩ : ∃ ws, ((((((((((wD.setCell ⟨x4, 0, none⟩ (.int .i64 109)).setCell ⟨x4, 1, none⟩ (.int .i64 5)).setCell ⟨x4, 2, none⟩ (.int .i64 0)).setCell ⟨x4, 3, none⟩ (.int .i64 2)).setCell ⟨x4, 4, none⟩ (.int .i64 27)).setCell ⟨x4, 5, none⟩ (.int .i64 13)).setCell ⟨x4, 6, none⟩ (.int .i64 3)).setCell ⟨x4, 7, none⟩ (.int .i64 15)).setCell ⟨x4, 8, none⟩ (.int .i64 2205)).setCell ⟨x4, 9, none⟩ (.int .i64 57)).setCell ⟨x4, 10, none⟩ (.int .u64 318699214) = ws := ⟨_, rfl⟩
  rw [hws] at hxs
  have hks : Kps x4 wD ws := by
    rw [← hws]
    exact (((((((((((Kps.set x4 0 wD _).trans (Kps.set x4 1 _ _)).trans (Kps.set x4 2 _ _)).trans (Kps.set x4 3 _ _)).trans (Kps.set x4 4 _ _)).trans (Kps.set x4 5 _ _)).trans (Kps.set x4 6 _ _)).trans (Kps.set x4 7 _ _)).trans (Kps.set x4 8 _ _)).trans (Kps.set x4 9 _ _)).trans (Kps.set x4 10 _ _))
  have HE : Hid (DP g (sd 11) W ws) := Lib.hid (HD.out.low hks (Ne.symm hxg) (by have := HX4.out; omega) hgW)
  obtain ⟨-, i0, i1, i2, i3, i4, i5, i6, i7, i8, i9, i10, -⟩ := hxs
  clear jf hks HXD
  go_wp2_with fail
  exact bodyPost_ret (v := .agg #[.int .i64 109, .int .i64 5, .int .i64 0, .int .i64 2, .int .i64 27, .int .i64 13, .int .i64 3, .int .i64 15, .int .i64 2205, .int .i64 57, .int .u64 318699214]) (by simp [results, Try.results30, go_sem, i0, i1, i2, i3, i4, i5, i6, i7, i8, i9, i10]) rfl ⟨rfl, HE.out⟩
end Go.Proofs.Ytahggokeelgjdaa
