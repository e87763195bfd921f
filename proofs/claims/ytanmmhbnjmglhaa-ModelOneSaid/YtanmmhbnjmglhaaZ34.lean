/- MpC. -/
import Derived.Test.YtanmmhbnjmglhaaZ33
import Derived.RegionTactic
namespace Go.Proofs.Ytanmmhbnjmglhaa
set_option maxRecDepth 100000
open Go.RowKit Go.ChangeMaps Go.MapKept
set_option linter.unusedVariables false
set_option linter.unusedSimpArgs false
/-- What makes leaves where it makes. -/
def MkPost (C : Cf) (k a : Nat) (n : Int) (W : World) (e : Ending) (w' : World) : Prop :=
  ∃ lb lcap g cap, e = .returned (.tuple #[rmv C (some ⟨lb, 0, none⟩) 1 lcap (some ⟨g, 0, none⟩) k cap, rE 0]) ∧ RfAt w' g (a * 5) ⟨1, 0, n, 0, 31⟩ ∧ W.heap.size ≤ g ∧ g < w'.heap.size ∧ W.heap.size ≤ lb ∧ lb < w'.heap.size ∧ w'.cell? ⟨lb, 3, none⟩ = some (.bool true) ∧ Below W.heap.size W w'
section
variable {C : Cf} {r k kc : Nat} {W : World}
set_option maxHeartbeats 1600000 in
theorem rmk1d (t a b v n mm : Int) (P : Option Addr) (ln cp : Nat) (full : Bool) (h1 : askE C t n full = 0) (aN : Nat) (hA : a = (aN : Int)) (haN : aN < k) (hk64 : k ≤ 64) (hok : C.ok) (h : RZ r k W) : Calls Try.prog 26 #[rmv C none 0 0 (some ⟨r, 0, none⟩) k kc, opv 1 t a b v n mm P ln cp, .bool full] W (MkPost C k aN n W) := by
  subst hA
  obtain ⟨hn1, hn2, -⟩ := askE_0 h1
  have hmo := hok.2.1
  have HMD : Hid (∀ w, Calls Try.prog 48 #[rmv C none 0 0 (some ⟨r, 0, none⟩) k kc, .int .i64 n, .int .i64 1, .int .u8 C.fi] w (MadePost C r k kc n w)) := Lib.hid fun w => rmade n 1 C.fi (by have := hok.2.2; omega) (by omega) (by omega) (by omega) (by omega)
  have HA : Hid (∀ w, Calls Try.prog 47 #[rmv C none 0 0 (some ⟨r, 0, none⟩) k kc, .int .i64 t, .int .i64 n, .bool full] w fun e w' => e = .returned (rE 0) ∧ Below w.heap.size w w') := Lib.hid fun w => by
    have := rask (C := C) (L := none) (ll := 0) (lc := 0) (R := some ⟨r, 0, none⟩) (k := k) (kc := kc) (W := w) t n full
    rwa [h1] at this
  clear h1
  have hwf := u8w hok.2.2
  have H := Lib.hid h
  clear h
  go_enter Try.func26, Try.ntmps26
  go_upto_region 1 with (fail)
  obtain ⟨w1, hw1⟩ : ∃ w1, ((W.alloc (.cells #[.int .i64 C.pg, .int .i64 C.rg, .int .i64 C.lg, .int .i64 C.th, .int .i64 C.ca, .int .i64 C.ba, .int .i64 C.sh, .int .i64 C.re, .int .i64 C.mo, .int .i64 C.fi, .int .u64 C.ky, .slice none 0 0, .slice (some ⟨r, 0, none⟩) k kc] 34)).alloc (.cells #[.int .i64 1, .int .i64 t, .int .i64 (aN : Int), .int .i64 b, .int .i64 v, .int .i64 n, .int .i64 mm, .slice P ln cp] 41)).alloc (.cells #[.int .i64 0, .int .i64 0, .int .i64 0, .int .i64 0, .int .i64 0, .int .i64 0, .int .i64 0, .int .i64 0, .int .i64 0, .int .i64 0, .int .u64 0, .slice none 0 0, .slice none 0 0] 34) = w1 := ⟨_, rfl⟩
  have bw1 : Below W.heap.size W w1 := by rw [← hw1]; exact alc (alc (alc0 _ _) _) _
  have sw1 : w1.heap.size = W.heap.size + 3 := by rw [← hw1]; simp
  have XM : Hid (BX (W.heap.size) #[.int .i64 C.pg, .int .i64 C.rg, .int .i64 C.lg, .int .i64 C.th, .int .i64 C.ca, .int .i64 C.ba, .int .i64 C.sh, .int .i64 C.re, .int .i64 C.mo, .int .i64 C.fi, .int .u64 C.ky, .slice none 0 0, .slice (some ⟨r, 0, none⟩) k kc] w1) := Lib.hid (by rw [← hw1]; exact (bx_new _ _ _).block ((alc (alc0 _ _) _).block _ (by simp)))
  have XO : Hid (BX (W.heap.size + 1) #[.int .i64 1, .int .i64 t, .int .i64 (aN : Int), .int .i64 b, .int .i64 v, .int .i64 n, .int .i64 mm, .slice P ln cp] w1) := Lib.hid (by rw [← hw1]; exact (bx_at _ _ _ (by simp)).block ((alc0 _ _).block _ (by simp)))
  have XZ : Hid (BX (W.heap.size + 1 + 1) #[.int .i64 0, .int .i64 0, .int .i64 0, .int .i64 0, .int .i64 0, .int .i64 0, .int .i64 0, .int .i64 0, .int .i64 0, .int .i64 0, .int .u64 0, .slice none 0 0, .slice none 0 0] w1) := Lib.hid (by rw [← hw1]; exact bx_at _ _ _ (by simp))
  rw [hw1]
  clear hw1
  have HB := Lib.hid bw1
  clear bw1
  obtain ⟨cM0, cM1, cM2, cM3, cM4, cM5, cM6, cM7, cM8, cM9, cM10, cM11, cM12⟩ := XM.out.c13
  obtain ⟨cO0, cO1, cO2, cO3, cO4, cO5, cO6, cO7⟩ := XO.out.c8
  obtain ⟨cZ0, cZ1, cZ2, cZ3, cZ4, cZ5, cZ6, cZ7, cZ8, cZ9, cZ10, cZ11, cZ12⟩ := XZ.out.c13
  obtain ⟨fZ0, fZ1, fZ2, fZ3, fZ4, fZ5, fZ6, fZ7, fZ8, fZ9, fZ10, fZ11, fZ12⟩ := XZ.out.f13
  go_region
  obtain ⟨w2, hw2⟩ : ∃ w2, w1.drew = w2 := ⟨_, rfl⟩
  rw [hw2]
  have bw2 : Below w1.heap.size w1 w2 := by rw [← hw2]; exact (Below.refl _ w1).drew
  have sw2 : w2.heap.size = w1.heap.size := by rw [← hw2]; rfl
  clear hw2
  replace XM := Lib.hid (XM.out.block (bw2.block (W.heap.size) (by omega)))
  replace XO := Lib.hid (XO.out.block (bw2.block (W.heap.size + 1) (by omega)))
  replace XZ := Lib.hid (XZ.out.block (bw2.block (W.heap.size + 1 + 1) (by omega)))
  replace HB := Lib.hid (thn HB.out bw2)
  clear bw2
  clear cM0 cM1 cM2 cM3 cM4 cM5 cM6 cM7 cM8 cM9 cM10 cM11 cM12 cO0 cO1 cO2 cO3 cO4 cO5 cO6 cO7 cZ0 cZ1 cZ2 cZ3 cZ4 cZ5 cZ6 cZ7 cZ8 cZ9 cZ10 cZ11 cZ12 fZ0 fZ1 fZ2 fZ3 fZ4 fZ5 fZ6 fZ7 fZ8 fZ9 fZ10 fZ11 fZ12
  obtain ⟨cM0, cM1, cM2, cM3, cM4, cM5, cM6, cM7, cM8, cM9, cM10, cM11, cM12⟩ := XM.out.c13
  obtain ⟨cO0, cO1, cO2, cO3, cO4, cO5, cO6, cO7⟩ := XO.out.c8
  obtain ⟨cZ0, cZ1, cZ2, cZ3, cZ4, cZ5, cZ6, cZ7, cZ8, cZ9, cZ10, cZ11, cZ12⟩ := XZ.out.c13
  obtain ⟨fZ0, fZ1, fZ2, fZ3, fZ4, fZ5, fZ6, fZ7, fZ8, fZ9, fZ10, fZ11, fZ12⟩ := XZ.out.f13
  go_wp2_with fail
  refine (HA.out _).mono ?_
  rintro e w3 ⟨rfl, bw3⟩
  clear cM0 cM1 cM2 cM3 cM4 cM5 cM6 cM7 cM8 cM9 cM10 cM11 cM12 cO0 cO1 cO2 cO3 cO4 cO5 cO6 cO7 cZ0 cZ1 cZ2 cZ3 cZ4 cZ5 cZ6 cZ7 cZ8 cZ9 cZ10 cZ11 cZ12 fZ0 fZ1 fZ2 fZ3 fZ4 fZ5 fZ6 fZ7 fZ8 fZ9 fZ10 fZ11 fZ12
  have sw3 := bw3.size
  replace XM := Lib.hid (XM.out.block (bw3.block (W.heap.size) (by omega)))
  replace XO := Lib.hid (XO.out.block (bw3.block (W.heap.size + 1) (by omega)))
  replace XZ := Lib.hid (XZ.out.block (bw3.block (W.heap.size + 1 + 1) (by omega)))
  replace HB := Lib.hid (thn HB.out bw3)
  clear bw3
  obtain ⟨cM0, cM1, cM2, cM3, cM4, cM5, cM6, cM7, cM8, cM9, cM10, cM11, cM12⟩ := XM.out.c13
  obtain ⟨cO0, cO1, cO2, cO3, cO4, cO5, cO6, cO7⟩ := XO.out.c8
  go_wp2_with fail
  refine (HMD.out _).mono ?_
  rintro e w4 ⟨lb, lcap, rfl, hl1, hl2, hl, bw4⟩
  clear cM0 cM1 cM2 cM3 cM4 cM5 cM6 cM7 cM8 cM9 cM10 cM11 cM12 cO0 cO1 cO2 cO3 cO4 cO5 cO6 cO7
  have sw4 := bw4.size
  replace XM := Lib.hid (XM.out.block (bw4.block (W.heap.size) (by omega)))
  replace XO := Lib.hid (XO.out.block (bw4.block (W.heap.size + 1) (by omega)))
  replace XZ := Lib.hid (XZ.out.block (bw4.block (W.heap.size + 1 + 1) (by omega)))
  replace HB := Lib.hid (thn HB.out bw4)
  clear bw4
  have HL := Lib.hid hl
  clear hl
  obtain ⟨cM0, cM1, cM2, cM3, cM4, cM5, cM6, cM7, cM8, cM9, cM10, cM11, cM12⟩ := XM.out.c13
  obtain ⟨cO0, cO1, cO2, cO3, cO4, cO5, cO6, cO7⟩ := XO.out.c8
  obtain ⟨fM0, fM1, fM2, fM3, fM4, fM5, fM6, fM7, fM8, fM9, fM10, fM11, fM12⟩ := XM.out.f13
  have hlt9 : W.heap.size < w4.heap.size := by omega
  go_upto_region 20 with (fail)
  obtain ⟨w5, hw5⟩ : ∃ w5, w5 = sets13 w4 (W.heap.size) (.int .i64 C.pg) (.int .i64 C.rg) (.int .i64 C.lg) (.int .i64 C.th) (.int .i64 C.ca) (.int .i64 C.ba) (.int .i64 C.sh) (.int .i64 C.re) (.int .i64 C.mo) (.int .i64 C.fi) (.int .u64 C.ky) (.slice (some ⟨lb, 0, none⟩) 1 lcap) (.slice (some ⟨r, 0, none⟩) k kc) := ⟨_, rfl⟩
  obtain ⟨sw5, kw5, lw5, XMn⟩ := XM.out.put13s rfl hw5
  unfold sets13 at hw5
  rw [← hw5]
  clear hw5
  clear cM0 cM1 cM2 cM3 cM4 cM5 cM6 cM7 cM8 cM9 cM10 cM11 cM12 cO0 cO1 cO2 cO3 cO4 cO5 cO6 cO7 fM0 fM1 fM2 fM3 fM4 fM5 fM6 fM7 fM8 fM9 fM10 fM11 fM12
  replace XM := Lib.hid XMn
  clear XMn
  replace XO := Lib.hid (XO.out.block (kw5 (W.heap.size + 1) (by omega)))
  replace XZ := Lib.hid (XZ.out.block (kw5 (W.heap.size + 1 + 1) (by omega)))
  replace HL := Lib.hid ((World.cell?_of_block (kw5 (lb) (by omega))).trans HL.out)
  replace HB := Lib.hid (HB.out.trans (lw5 W.heap.size (by omega)))
  clear kw5 lw5
  obtain ⟨w6, hw6⟩ : ∃ w6, w5.alloc (.cells #[.int .i64 1, .int .i64 0, .int .i64 n, .int .i64 0, .int .i64 31] 54) = w6 := ⟨_, rfl⟩
  have bw6 : Below w5.heap.size w5 w6 := by rw [← hw6]; exact alc0 _ _
  have sw6 : w6.heap.size = w5.heap.size + 1 := by rw [← hw6]; simp
  have XY : Hid (BX (w4.heap.size) #[.int .i64 1, .int .i64 0, .int .i64 n, .int .i64 0, .int .i64 31] w6) := Lib.hid (by rw [← hw6]; exact bx_at _ _ _ (by omega))
  rw [hw6]
  clear hw6
  replace XM := Lib.hid (XM.out.block (bw6.block (W.heap.size) (by omega)))
  replace XO := Lib.hid (XO.out.block (bw6.block (W.heap.size + 1) (by omega)))
  replace XZ := Lib.hid (XZ.out.block (bw6.block (W.heap.size + 1 + 1) (by omega)))
  replace HL := Lib.hid ((World.cell?_of_block (bw6.block (lb) (by omega))).trans HL.out)
  replace HB := Lib.hid (thn HB.out bw6)
  clear bw6
  obtain ⟨cM0, cM1, cM2, cM3, cM4, cM5, cM6, cM7, cM8, cM9, cM10, cM11, cM12⟩ := XM.out.c13
  obtain ⟨cO0, cO1, cO2, cO3, cO4, cO5, cO6, cO7⟩ := XO.out.c8
  obtain ⟨cY0, cY1, cY2, cY3, cY4⟩ := XY.out.c5
  go_wp2_with fail
  refine (rset (r := r) (kc := kc) (L := some ⟨lb, 0, none⟩) (ll := 1) (lc := lcap) aN 1 0 n 0 31 haN hk64 (H.out.below HB.out)).mono ?_
  rintro e w7 ⟨g, cap, rfl, hq, hg1, hg2, bw7⟩
  clear cM0 cM1 cM2 cM3 cM4 cM5 cM6 cM7 cM8 cM9 cM10 cM11 cM12 cO0 cO1 cO2 cO3 cO4 cO5 cO6 cO7 cY0 cY1 cY2 cY3 cY4
  have sw7 := bw7.size
  replace XM := Lib.hid (XM.out.block (bw7.block (W.heap.size) (by omega)))
  replace XO := Lib.hid (XO.out.block (bw7.block (W.heap.size + 1) (by omega)))
  replace XZ := Lib.hid (XZ.out.block (bw7.block (W.heap.size + 1 + 1) (by omega)))
  replace XY := Lib.hid (XY.out.block (bw7.block (w4.heap.size) (by omega)))
  replace HL := Lib.hid ((World.cell?_of_block (bw7.block (lb) (by omega))).trans HL.out)
  replace HB := Lib.hid (thn HB.out bw7)
  clear bw7
  have HQ := Lib.hid hq
  clear hq
  obtain ⟨cZ0, cZ1, cZ2, cZ3, cZ4, cZ5, cZ6, cZ7, cZ8, cZ9, cZ10, cZ11, cZ12⟩ := XZ.out.c13
  obtain ⟨fZ0, fZ1, fZ2, fZ3, fZ4, fZ5, fZ6, fZ7, fZ8, fZ9, fZ10, fZ11, fZ12⟩ := XZ.out.f13
  go_wp2_with fail
  obtain ⟨wz, hwz⟩ : ∃ wz, wz = sets13 w7 (W.heap.size + 1 + 1) (.int .i64 C.pg) (.int .i64 C.rg) (.int .i64 C.lg) (.int .i64 C.th) (.int .i64 C.ca) (.int .i64 C.ba) (.int .i64 C.sh) (.int .i64 C.re) (.int .i64 C.mo) (.int .i64 C.fi) (.int .u64 C.ky) (.slice (some ⟨lb, 0, none⟩) 1 lcap) (.slice (some ⟨g, 0, none⟩) k cap) := ⟨_, rfl⟩
  obtain ⟨swz, kwz, lwz, XZn⟩ := XZ.out.put13s rfl hwz
  unfold sets13 at hwz
  rw [← hwz]
  clear hwz
  clear cZ0 cZ1 cZ2 cZ3 cZ4 cZ5 cZ6 cZ7 cZ8 cZ9 cZ10 cZ11 cZ12 fZ0 fZ1 fZ2 fZ3 fZ4 fZ5 fZ6 fZ7 fZ8 fZ9 fZ10 fZ11 fZ12
  replace XZ := Lib.hid XZn
  clear XZn
  replace XM := Lib.hid (XM.out.block (kwz (W.heap.size) (by omega)))
  replace XO := Lib.hid (XO.out.block (kwz (W.heap.size + 1) (by omega)))
  replace XY := Lib.hid (XY.out.block (kwz (w4.heap.size) (by omega)))
  replace HL := Lib.hid ((World.cell?_of_block (kwz (lb) (by omega))).trans HL.out)
  replace HB := Lib.hid (HB.out.trans (lwz W.heap.size (by omega)))
  replace HQ := Lib.hid (HQ.out.keep (kwz g (by omega)))
  clear kwz lwz
  obtain ⟨cZ0, cZ1, cZ2, cZ3, cZ4, cZ5, cZ6, cZ7, cZ8, cZ9, cZ10, cZ11, cZ12⟩ := XZ.out.c13
  refine bodyPost_ret (v := .tuple #[rmv C (some ⟨lb, 0, none⟩) 1 lcap (some ⟨g, 0, none⟩) k cap, rE 0]) (by simp [results, Try.results26, go_sem, cZ0, cZ1, cZ2, cZ3, cZ4, cZ5, cZ6, cZ7, cZ8, cZ9, cZ10, cZ11, cZ12]) rfl ⟨lb, lcap, g, cap, rfl, HQ.out, by omega, by omega, by omega, by omega, HL.out, HB.out⟩
end
end Go.Proofs.Ytanmmhbnjmglhaa
