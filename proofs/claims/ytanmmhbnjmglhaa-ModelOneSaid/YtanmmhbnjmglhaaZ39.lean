/- MpK. -/
import Derived.Test.YtanmmhbnjmglhaaZ37
namespace Go.Proofs.Ytanmmhbnjmglhaa
set_option maxRecDepth 100000
open Go.RowKit Go.ChangeMaps Go.MapKept
set_option linter.unusedVariables false
set_option linter.unusedSimpArgs false
section
variable {C : Cf} {r k kc : Nat} {W : World}
set_option maxHeartbeats 1600000 in
theorem rdo_q15 (t a b v n mm : Int) (P : Option Addr) (ln cp : Nat) (full : Bool)  (h : RZ r k W) : Calls Try.prog 11 #[rmv C none 0 0 (some ⟨r, 0, none⟩) k kc, opv 15 t a b v n mm P ln cp, .bool full] W (DC C r k kc 0 W) := by
  have H := Lib.hid h
  clear h
  go_enter Try.func11, Try.ntmps11
  go_upto_region 1 with (fail)
  obtain ⟨w1, hw1⟩ : ∃ w1, (((W.alloc (.cells #[.int .i64 C.pg, .int .i64 C.rg, .int .i64 C.lg, .int .i64 C.th, .int .i64 C.ca, .int .i64 C.ba, .int .i64 C.sh, .int .i64 C.re, .int .i64 C.mo, .int .i64 C.fi, .int .u64 C.ky, .slice none 0 0, .slice (some ⟨r, 0, none⟩) k kc] 34)).alloc (.cells #[.int .i64 15, .int .i64 t, .int .i64 a, .int .i64 b, .int .i64 v, .int .i64 n, .int .i64 mm, .slice P ln cp] 41)).alloc (.cells #[.int .i64 0, .int .i64 0, .int .i64 0, .int .i64 0, .int .i64 0, .int .i64 0, .int .i64 0, .int .i64 0, .int .i64 0, .int .i64 0, .int .u64 0, .slice none 0 0, .slice none 0 0] 34)).alloc (.cells #[.int .i64 0, .int .i64 0, .slice none 0 0] 39) = w1 := ⟨_, rfl⟩
  have bw1 : Below W.heap.size W w1 := by rw [← hw1]; exact alc (alc (alc (alc0 _ _) _) _) _
  have sw1 : w1.heap.size = W.heap.size + 4 := by rw [← hw1]; simp
  have XM : Hid (BX (W.heap.size) #[.int .i64 C.pg, .int .i64 C.rg, .int .i64 C.lg, .int .i64 C.th, .int .i64 C.ca, .int .i64 C.ba, .int .i64 C.sh, .int .i64 C.re, .int .i64 C.mo, .int .i64 C.fi, .int .u64 C.ky, .slice none 0 0, .slice (some ⟨r, 0, none⟩) k kc] w1) := Lib.hid (by rw [← hw1]; exact (bx_new _ _ _).block ((alc (alc (alc0 _ _) _) _).block _ (by simp)))
  have XO : Hid (BX (W.heap.size + 1) #[.int .i64 15, .int .i64 t, .int .i64 a, .int .i64 b, .int .i64 v, .int .i64 n, .int .i64 mm, .slice P ln cp] w1) := Lib.hid (by rw [← hw1]; exact (bx_at _ _ _ (by simp)).block ((alc (alc0 _ _) _).block _ (by simp)))
  have XZ : Hid (BX (W.heap.size + 1 + 1) #[.int .i64 0, .int .i64 0, .int .i64 0, .int .i64 0, .int .i64 0, .int .i64 0, .int .i64 0, .int .i64 0, .int .i64 0, .int .i64 0, .int .u64 0, .slice none 0 0, .slice none 0 0] w1) := Lib.hid (by rw [← hw1]; exact (bx_at _ _ _ (by simp)).block ((alc0 _ _).block _ (by simp)))
  have XS : Hid (BX (W.heap.size + 1 + 1 + 1) #[.int .i64 0, .int .i64 0, .slice none 0 0] w1) := Lib.hid (by rw [← hw1]; exact bx_at _ _ _ (by simp))
  rw [hw1]
  clear hw1
  have HB := Lib.hid bw1
  clear bw1
  obtain ⟨cM0, cM1, cM2, cM3, cM4, cM5, cM6, cM7, cM8, cM9, cM10, cM11, cM12⟩ := XM.out.c13
  obtain ⟨cO0, cO1, cO2, cO3, cO4, cO5, cO6, cO7⟩ := XO.out.c8
  obtain ⟨cZ0, cZ1, cZ2, cZ3, cZ4, cZ5, cZ6, cZ7, cZ8, cZ9, cZ10, cZ11, cZ12⟩ := XZ.out.c13
  obtain ⟨cS0, cS1, cS2⟩ := XS.out.c3
  obtain ⟨fZ0, fZ1, fZ2, fZ3, fZ4, fZ5, fZ6, fZ7, fZ8, fZ9, fZ10, fZ11, fZ12⟩ := XZ.out.f13
  obtain ⟨fS0, fS1, fS2⟩ := XS.out.f3
  go_wp2_with fail
  refine (ruses15).mono ?_
  rintro e w9 ⟨rfl, rfl⟩
  go_wp2_with fail
  obtain ⟨wz, hwz⟩ : ∃ wz, wz = sets13 w1 (W.heap.size + 1 + 1) (.int .i64 C.pg) (.int .i64 C.rg) (.int .i64 C.lg) (.int .i64 C.th) (.int .i64 C.ca) (.int .i64 C.ba) (.int .i64 C.sh) (.int .i64 C.re) (.int .i64 C.mo) (.int .i64 C.fi) (.int .u64 C.ky) (.slice none 0 0) (.slice (some ⟨r, 0, none⟩) k kc) := ⟨_, rfl⟩
  obtain ⟨swz, kwz, lwz, XZn⟩ := XZ.out.put13s rfl hwz
  unfold sets13 at hwz
  rw [← hwz]
  clear hwz
  clear cM0 cM1 cM2 cM3 cM4 cM5 cM6 cM7 cM8 cM9 cM10 cM11 cM12 cO0 cO1 cO2 cO3 cO4 cO5 cO6 cO7 cZ0 cZ1 cZ2 cZ3 cZ4 cZ5 cZ6 cZ7 cZ8 cZ9 cZ10 cZ11 cZ12 cS0 cS1 cS2 fZ0 fZ1 fZ2 fZ3 fZ4 fZ5 fZ6 fZ7 fZ8 fZ9 fZ10 fZ11 fZ12 fS0 fS1 fS2
  replace XZ := Lib.hid XZn
  clear XZn
  replace XM := Lib.hid (XM.out.block (kwz (W.heap.size) (by omega)))
  replace XO := Lib.hid (XO.out.block (kwz (W.heap.size + 1) (by omega)))
  replace XS := Lib.hid (XS.out.block (kwz (W.heap.size + 1 + 1 + 1) (by omega)))
  replace HB := Lib.hid (HB.out.trans (lwz W.heap.size (by omega)))
  clear kwz lwz
  obtain ⟨ws, hws⟩ : ∃ ws, ws = sets3 wz (W.heap.size + 1 + 1 + 1) (.int .i64 0) (.int .i64 0) (.slice none 0 0) := ⟨_, rfl⟩
  obtain ⟨sws, kws, lws, XSn⟩ := XS.out.put3s rfl hws
  unfold sets3 at hws
  rw [← hws]
  clear hws
  replace XS := Lib.hid XSn
  clear XSn
  replace XM := Lib.hid (XM.out.block (kws (W.heap.size) (by omega)))
  replace XO := Lib.hid (XO.out.block (kws (W.heap.size + 1) (by omega)))
  replace XZ := Lib.hid (XZ.out.block (kws (W.heap.size + 1 + 1) (by omega)))
  replace HB := Lib.hid (HB.out.trans (lws W.heap.size (by omega)))
  clear kws lws
  obtain ⟨cZ0, cZ1, cZ2, cZ3, cZ4, cZ5, cZ6, cZ7, cZ8, cZ9, cZ10, cZ11, cZ12⟩ := XZ.out.c13
  obtain ⟨cS0, cS1, cS2⟩ := XS.out.c3
  refine bodyPost_ret (v := .tuple #[rmv C none 0 0 (some ⟨r, 0, none⟩) k kc, .agg #[rE 0, .int .i64 0, .slice none 0 0]]) (by simp [results, Try.results11, go_sem, cZ0, cZ1, cZ2, cZ3, cZ4, cZ5, cZ6, cZ7, cZ8, cZ9, cZ10, cZ11, cZ12, cS0, cS1, cS2]) rfl ⟨rfl, HB.out⟩
set_option maxHeartbeats 1600000 in
theorem rdo_q16 (t a b v n mm : Int) (P : Option Addr) (ln cp : Nat) (full : Bool)  (h : RZ r k W) : Calls Try.prog 11 #[rmv C none 0 0 (some ⟨r, 0, none⟩) k kc, opv 16 t a b v n mm P ln cp, .bool full] W (DC C r k kc 0 W) := by
  have H := Lib.hid h
  clear h
  go_enter Try.func11, Try.ntmps11
  go_upto_region 1 with (fail)
  obtain ⟨w1, hw1⟩ : ∃ w1, (((W.alloc (.cells #[.int .i64 C.pg, .int .i64 C.rg, .int .i64 C.lg, .int .i64 C.th, .int .i64 C.ca, .int .i64 C.ba, .int .i64 C.sh, .int .i64 C.re, .int .i64 C.mo, .int .i64 C.fi, .int .u64 C.ky, .slice none 0 0, .slice (some ⟨r, 0, none⟩) k kc] 34)).alloc (.cells #[.int .i64 16, .int .i64 t, .int .i64 a, .int .i64 b, .int .i64 v, .int .i64 n, .int .i64 mm, .slice P ln cp] 41)).alloc (.cells #[.int .i64 0, .int .i64 0, .int .i64 0, .int .i64 0, .int .i64 0, .int .i64 0, .int .i64 0, .int .i64 0, .int .i64 0, .int .i64 0, .int .u64 0, .slice none 0 0, .slice none 0 0] 34)).alloc (.cells #[.int .i64 0, .int .i64 0, .slice none 0 0] 39) = w1 := ⟨_, rfl⟩
  have bw1 : Below W.heap.size W w1 := by rw [← hw1]; exact alc (alc (alc (alc0 _ _) _) _) _
  have sw1 : w1.heap.size = W.heap.size + 4 := by rw [← hw1]; simp
  have XM : Hid (BX (W.heap.size) #[.int .i64 C.pg, .int .i64 C.rg, .int .i64 C.lg, .int .i64 C.th, .int .i64 C.ca, .int .i64 C.ba, .int .i64 C.sh, .int .i64 C.re, .int .i64 C.mo, .int .i64 C.fi, .int .u64 C.ky, .slice none 0 0, .slice (some ⟨r, 0, none⟩) k kc] w1) := Lib.hid (by rw [← hw1]; exact (bx_new _ _ _).block ((alc (alc (alc0 _ _) _) _).block _ (by simp)))
  have XO : Hid (BX (W.heap.size + 1) #[.int .i64 16, .int .i64 t, .int .i64 a, .int .i64 b, .int .i64 v, .int .i64 n, .int .i64 mm, .slice P ln cp] w1) := Lib.hid (by rw [← hw1]; exact (bx_at _ _ _ (by simp)).block ((alc (alc0 _ _) _).block _ (by simp)))
  have XZ : Hid (BX (W.heap.size + 1 + 1) #[.int .i64 0, .int .i64 0, .int .i64 0, .int .i64 0, .int .i64 0, .int .i64 0, .int .i64 0, .int .i64 0, .int .i64 0, .int .i64 0, .int .u64 0, .slice none 0 0, .slice none 0 0] w1) := Lib.hid (by rw [← hw1]; exact (bx_at _ _ _ (by simp)).block ((alc0 _ _).block _ (by simp)))
  have XS : Hid (BX (W.heap.size + 1 + 1 + 1) #[.int .i64 0, .int .i64 0, .slice none 0 0] w1) := Lib.hid (by rw [← hw1]; exact bx_at _ _ _ (by simp))
  rw [hw1]
  clear hw1
  have HB := Lib.hid bw1
  clear bw1
  obtain ⟨cM0, cM1, cM2, cM3, cM4, cM5, cM6, cM7, cM8, cM9, cM10, cM11, cM12⟩ := XM.out.c13
  obtain ⟨cO0, cO1, cO2, cO3, cO4, cO5, cO6, cO7⟩ := XO.out.c8
  obtain ⟨cZ0, cZ1, cZ2, cZ3, cZ4, cZ5, cZ6, cZ7, cZ8, cZ9, cZ10, cZ11, cZ12⟩ := XZ.out.c13
  obtain ⟨cS0, cS1, cS2⟩ := XS.out.c3
  obtain ⟨fZ0, fZ1, fZ2, fZ3, fZ4, fZ5, fZ6, fZ7, fZ8, fZ9, fZ10, fZ11, fZ12⟩ := XZ.out.f13
  obtain ⟨fS0, fS1, fS2⟩ := XS.out.f3
  go_wp2_with fail
  refine (ruses16).mono ?_
  rintro e w9 ⟨rfl, rfl⟩
  go_wp2_with fail
  obtain ⟨wz, hwz⟩ : ∃ wz, wz = sets13 w1 (W.heap.size + 1 + 1) (.int .i64 C.pg) (.int .i64 C.rg) (.int .i64 C.lg) (.int .i64 C.th) (.int .i64 C.ca) (.int .i64 C.ba) (.int .i64 C.sh) (.int .i64 C.re) (.int .i64 C.mo) (.int .i64 C.fi) (.int .u64 C.ky) (.slice none 0 0) (.slice (some ⟨r, 0, none⟩) k kc) := ⟨_, rfl⟩
  obtain ⟨swz, kwz, lwz, XZn⟩ := XZ.out.put13s rfl hwz
  unfold sets13 at hwz
  rw [← hwz]
  clear hwz
  clear cM0 cM1 cM2 cM3 cM4 cM5 cM6 cM7 cM8 cM9 cM10 cM11 cM12 cO0 cO1 cO2 cO3 cO4 cO5 cO6 cO7 cZ0 cZ1 cZ2 cZ3 cZ4 cZ5 cZ6 cZ7 cZ8 cZ9 cZ10 cZ11 cZ12 cS0 cS1 cS2 fZ0 fZ1 fZ2 fZ3 fZ4 fZ5 fZ6 fZ7 fZ8 fZ9 fZ10 fZ11 fZ12 fS0 fS1 fS2
  replace XZ := Lib.hid XZn
  clear XZn
  replace XM := Lib.hid (XM.out.block (kwz (W.heap.size) (by omega)))
  replace XO := Lib.hid (XO.out.block (kwz (W.heap.size + 1) (by omega)))
  replace XS := Lib.hid (XS.out.block (kwz (W.heap.size + 1 + 1 + 1) (by omega)))
  replace HB := Lib.hid (HB.out.trans (lwz W.heap.size (by omega)))
  clear kwz lwz
  obtain ⟨ws, hws⟩ : ∃ ws, ws = sets3 wz (W.heap.size + 1 + 1 + 1) (.int .i64 0) (.int .i64 0) (.slice none 0 0) := ⟨_, rfl⟩
  obtain ⟨sws, kws, lws, XSn⟩ := XS.out.put3s rfl hws
  unfold sets3 at hws
  rw [← hws]
  clear hws
  replace XS := Lib.hid XSn
  clear XSn
  replace XM := Lib.hid (XM.out.block (kws (W.heap.size) (by omega)))
  replace XO := Lib.hid (XO.out.block (kws (W.heap.size + 1) (by omega)))
  replace XZ := Lib.hid (XZ.out.block (kws (W.heap.size + 1 + 1) (by omega)))
  replace HB := Lib.hid (HB.out.trans (lws W.heap.size (by omega)))
  clear kws lws
  obtain ⟨cZ0, cZ1, cZ2, cZ3, cZ4, cZ5, cZ6, cZ7, cZ8, cZ9, cZ10, cZ11, cZ12⟩ := XZ.out.c13
  obtain ⟨cS0, cS1, cS2⟩ := XS.out.c3
  refine bodyPost_ret (v := .tuple #[rmv C none 0 0 (some ⟨r, 0, none⟩) k kc, .agg #[rE 0, .int .i64 0, .slice none 0 0]]) (by simp [results, Try.results11, go_sem, cZ0, cZ1, cZ2, cZ3, cZ4, cZ5, cZ6, cZ7, cZ8, cZ9, cZ10, cZ11, cZ12, cS0, cS1, cS2]) rfl ⟨rfl, HB.out⟩
set_option maxHeartbeats 1600000 in
theorem rdo_q17 (t a b v n mm : Int) (P : Option Addr) (ln cp : Nat) (full : Bool)  (h : RZ r k W) : Calls Try.prog 11 #[rmv C none 0 0 (some ⟨r, 0, none⟩) k kc, opv 17 t a b v n mm P ln cp, .bool full] W (DC C r k kc 0 W) := by
  have H := Lib.hid h
  clear h
  go_enter Try.func11, Try.ntmps11
  go_upto_region 1 with (fail)
  obtain ⟨w1, hw1⟩ : ∃ w1, (((W.alloc (.cells #[.int .i64 C.pg, .int .i64 C.rg, .int .i64 C.lg, .int .i64 C.th, .int .i64 C.ca, .int .i64 C.ba, .int .i64 C.sh, .int .i64 C.re, .int .i64 C.mo, .int .i64 C.fi, .int .u64 C.ky, .slice none 0 0, .slice (some ⟨r, 0, none⟩) k kc] 34)).alloc (.cells #[.int .i64 17, .int .i64 t, .int .i64 a, .int .i64 b, .int .i64 v, .int .i64 n, .int .i64 mm, .slice P ln cp] 41)).alloc (.cells #[.int .i64 0, .int .i64 0, .int .i64 0, .int .i64 0, .int .i64 0, .int .i64 0, .int .i64 0, .int .i64 0, .int .i64 0, .int .i64 0, .int .u64 0, .slice none 0 0, .slice none 0 0] 34)).alloc (.cells #[.int .i64 0, .int .i64 0, .slice none 0 0] 39) = w1 := ⟨_, rfl⟩
  have bw1 : Below W.heap.size W w1 := by rw [← hw1]; exact alc (alc (alc (alc0 _ _) _) _) _
  have sw1 : w1.heap.size = W.heap.size + 4 := by rw [← hw1]; simp
  have XM : Hid (BX (W.heap.size) #[.int .i64 C.pg, .int .i64 C.rg, .int .i64 C.lg, .int .i64 C.th, .int .i64 C.ca, .int .i64 C.ba, .int .i64 C.sh, .int .i64 C.re, .int .i64 C.mo, .int .i64 C.fi, .int .u64 C.ky, .slice none 0 0, .slice (some ⟨r, 0, none⟩) k kc] w1) := Lib.hid (by rw [← hw1]; exact (bx_new _ _ _).block ((alc (alc (alc0 _ _) _) _).block _ (by simp)))
  have XO : Hid (BX (W.heap.size + 1) #[.int .i64 17, .int .i64 t, .int .i64 a, .int .i64 b, .int .i64 v, .int .i64 n, .int .i64 mm, .slice P ln cp] w1) := Lib.hid (by rw [← hw1]; exact (bx_at _ _ _ (by simp)).block ((alc (alc0 _ _) _).block _ (by simp)))
  have XZ : Hid (BX (W.heap.size + 1 + 1) #[.int .i64 0, .int .i64 0, .int .i64 0, .int .i64 0, .int .i64 0, .int .i64 0, .int .i64 0, .int .i64 0, .int .i64 0, .int .i64 0, .int .u64 0, .slice none 0 0, .slice none 0 0] w1) := Lib.hid (by rw [← hw1]; exact (bx_at _ _ _ (by simp)).block ((alc0 _ _).block _ (by simp)))
  have XS : Hid (BX (W.heap.size + 1 + 1 + 1) #[.int .i64 0, .int .i64 0, .slice none 0 0] w1) := Lib.hid (by rw [← hw1]; exact bx_at _ _ _ (by simp))
  rw [hw1]
  clear hw1
  have HB := Lib.hid bw1
  clear bw1
  obtain ⟨cM0, cM1, cM2, cM3, cM4, cM5, cM6, cM7, cM8, cM9, cM10, cM11, cM12⟩ := XM.out.c13
  obtain ⟨cO0, cO1, cO2, cO3, cO4, cO5, cO6, cO7⟩ := XO.out.c8
  obtain ⟨cZ0, cZ1, cZ2, cZ3, cZ4, cZ5, cZ6, cZ7, cZ8, cZ9, cZ10, cZ11, cZ12⟩ := XZ.out.c13
  obtain ⟨cS0, cS1, cS2⟩ := XS.out.c3
  obtain ⟨fZ0, fZ1, fZ2, fZ3, fZ4, fZ5, fZ6, fZ7, fZ8, fZ9, fZ10, fZ11, fZ12⟩ := XZ.out.f13
  obtain ⟨fS0, fS1, fS2⟩ := XS.out.f3
  go_wp2_with fail
  refine (ruses17).mono ?_
  rintro e w9 ⟨rfl, rfl⟩
  go_wp2_with fail
  obtain ⟨wz, hwz⟩ : ∃ wz, wz = sets13 w1 (W.heap.size + 1 + 1) (.int .i64 C.pg) (.int .i64 C.rg) (.int .i64 C.lg) (.int .i64 C.th) (.int .i64 C.ca) (.int .i64 C.ba) (.int .i64 C.sh) (.int .i64 C.re) (.int .i64 C.mo) (.int .i64 C.fi) (.int .u64 C.ky) (.slice none 0 0) (.slice (some ⟨r, 0, none⟩) k kc) := ⟨_, rfl⟩
  obtain ⟨swz, kwz, lwz, XZn⟩ := XZ.out.put13s rfl hwz
  unfold sets13 at hwz
  rw [← hwz]
  clear hwz
  clear cM0 cM1 cM2 cM3 cM4 cM5 cM6 cM7 cM8 cM9 cM10 cM11 cM12 cO0 cO1 cO2 cO3 cO4 cO5 cO6 cO7 cZ0 cZ1 cZ2 cZ3 cZ4 cZ5 cZ6 cZ7 cZ8 cZ9 cZ10 cZ11 cZ12 cS0 cS1 cS2 fZ0 fZ1 fZ2 fZ3 fZ4 fZ5 fZ6 fZ7 fZ8 fZ9 fZ10 fZ11 fZ12 fS0 fS1 fS2
  replace XZ := Lib.hid XZn
  clear XZn
  replace XM := Lib.hid (XM.out.block (kwz (W.heap.size) (by omega)))
  replace XO := Lib.hid (XO.out.block (kwz (W.heap.size + 1) (by omega)))
  replace XS := Lib.hid (XS.out.block (kwz (W.heap.size + 1 + 1 + 1) (by omega)))
  replace HB := Lib.hid (HB.out.trans (lwz W.heap.size (by omega)))
  clear kwz lwz
  obtain ⟨ws, hws⟩ : ∃ ws, ws = sets3 wz (W.heap.size + 1 + 1 + 1) (.int .i64 0) (.int .i64 0) (.slice none 0 0) := ⟨_, rfl⟩
  obtain ⟨sws, kws, lws, XSn⟩ := XS.out.put3s rfl hws
  unfold sets3 at hws
  rw [← hws]
  clear hws
  replace XS := Lib.hid XSn
  clear XSn
  replace XM := Lib.hid (XM.out.block (kws (W.heap.size) (by omega)))
  replace XO := Lib.hid (XO.out.block (kws (W.heap.size + 1) (by omega)))
  replace XZ := Lib.hid (XZ.out.block (kws (W.heap.size + 1 + 1) (by omega)))
  replace HB := Lib.hid (HB.out.trans (lws W.heap.size (by omega)))
  clear kws lws
  obtain ⟨cZ0, cZ1, cZ2, cZ3, cZ4, cZ5, cZ6, cZ7, cZ8, cZ9, cZ10, cZ11, cZ12⟩ := XZ.out.c13
  obtain ⟨cS0, cS1, cS2⟩ := XS.out.c3
  refine bodyPost_ret (v := .tuple #[rmv C none 0 0 (some ⟨r, 0, none⟩) k kc, .agg #[rE 0, .int .i64 0, .slice none 0 0]]) (by simp [results, Try.results11, go_sem, cZ0, cZ1, cZ2, cZ3, cZ4, cZ5, cZ6, cZ7, cZ8, cZ9, cZ10, cZ11, cZ12, cS0, cS1, cS2]) rfl ⟨rfl, HB.out⟩
set_option maxHeartbeats 1600000 in
theorem rdo_u4 (t a b v n mm : Int) (P : Option Addr) (ln cp : Nat) (full : Bool) (E : Int) (g1 : ¬ b < 0) (g2 : ¬ b ≥ (k : Int)) (HF : ∀ w, RZ r k w → Calls Try.prog 30 #[rmv C none 0 0 (some ⟨r, 0, none⟩) k kc, opv 4 t a b v n mm P ln cp] w fun e w' => e = .returned (.tuple #[rmv C none 0 0 (some ⟨r, 0, none⟩) k kc, .agg #[rE E, .int .i64 0, .slice none 0 0]]) ∧ Below w.heap.size w w') (h : RZ r k W) : Calls Try.prog 11 #[rmv C none 0 0 (some ⟨r, 0, none⟩) k kc, opv 4 t a b v n mm P ln cp, .bool full] W (DC C r k kc E W) := by
  have H := Lib.hid h
  clear h
  have HF2 := Lib.hid HF
  clear HF
  go_enter Try.func11, Try.ntmps11
  go_upto_region 1 with (fail)
  obtain ⟨w1, hw1⟩ : ∃ w1, (((W.alloc (.cells #[.int .i64 C.pg, .int .i64 C.rg, .int .i64 C.lg, .int .i64 C.th, .int .i64 C.ca, .int .i64 C.ba, .int .i64 C.sh, .int .i64 C.re, .int .i64 C.mo, .int .i64 C.fi, .int .u64 C.ky, .slice none 0 0, .slice (some ⟨r, 0, none⟩) k kc] 34)).alloc (.cells #[.int .i64 4, .int .i64 t, .int .i64 a, .int .i64 b, .int .i64 v, .int .i64 n, .int .i64 mm, .slice P ln cp] 41)).alloc (.cells #[.int .i64 0, .int .i64 0, .int .i64 0, .int .i64 0, .int .i64 0, .int .i64 0, .int .i64 0, .int .i64 0, .int .i64 0, .int .i64 0, .int .u64 0, .slice none 0 0, .slice none 0 0] 34)).alloc (.cells #[.int .i64 0, .int .i64 0, .slice none 0 0] 39) = w1 := ⟨_, rfl⟩
  have bw1 : Below W.heap.size W w1 := by rw [← hw1]; exact alc (alc (alc (alc0 _ _) _) _) _
  have sw1 : w1.heap.size = W.heap.size + 4 := by rw [← hw1]; simp
  have XM : Hid (BX (W.heap.size) #[.int .i64 C.pg, .int .i64 C.rg, .int .i64 C.lg, .int .i64 C.th, .int .i64 C.ca, .int .i64 C.ba, .int .i64 C.sh, .int .i64 C.re, .int .i64 C.mo, .int .i64 C.fi, .int .u64 C.ky, .slice none 0 0, .slice (some ⟨r, 0, none⟩) k kc] w1) := Lib.hid (by rw [← hw1]; exact (bx_new _ _ _).block ((alc (alc (alc0 _ _) _) _).block _ (by simp)))
  have XO : Hid (BX (W.heap.size + 1) #[.int .i64 4, .int .i64 t, .int .i64 a, .int .i64 b, .int .i64 v, .int .i64 n, .int .i64 mm, .slice P ln cp] w1) := Lib.hid (by rw [← hw1]; exact (bx_at _ _ _ (by simp)).block ((alc (alc0 _ _) _).block _ (by simp)))
  have XZ : Hid (BX (W.heap.size + 1 + 1) #[.int .i64 0, .int .i64 0, .int .i64 0, .int .i64 0, .int .i64 0, .int .i64 0, .int .i64 0, .int .i64 0, .int .i64 0, .int .i64 0, .int .u64 0, .slice none 0 0, .slice none 0 0] w1) := Lib.hid (by rw [← hw1]; exact (bx_at _ _ _ (by simp)).block ((alc0 _ _).block _ (by simp)))
  have XS : Hid (BX (W.heap.size + 1 + 1 + 1) #[.int .i64 0, .int .i64 0, .slice none 0 0] w1) := Lib.hid (by rw [← hw1]; exact bx_at _ _ _ (by simp))
  rw [hw1]
  clear hw1
  have HB := Lib.hid bw1
  clear bw1
  obtain ⟨cM0, cM1, cM2, cM3, cM4, cM5, cM6, cM7, cM8, cM9, cM10, cM11, cM12⟩ := XM.out.c13
  obtain ⟨cO0, cO1, cO2, cO3, cO4, cO5, cO6, cO7⟩ := XO.out.c8
  go_wp2_with fail
  refine (ruses4).mono ?_
  rintro e w9 ⟨rfl, rfl⟩
  go_wp2_with fail
  refine (HF2.out _ (H.out.below HB.out)).mono ?_
  rintro e w2 ⟨rfl, bw2⟩
  clear cM0 cM1 cM2 cM3 cM4 cM5 cM6 cM7 cM8 cM9 cM10 cM11 cM12 cO0 cO1 cO2 cO3 cO4 cO5 cO6 cO7
  have sw2 := bw2.size
  replace XM := Lib.hid (XM.out.block (bw2.block (W.heap.size) (by omega)))
  replace XO := Lib.hid (XO.out.block (bw2.block (W.heap.size + 1) (by omega)))
  replace XZ := Lib.hid (XZ.out.block (bw2.block (W.heap.size + 1 + 1) (by omega)))
  replace XS := Lib.hid (XS.out.block (bw2.block (W.heap.size + 1 + 1 + 1) (by omega)))
  replace HB := Lib.hid (thn HB.out bw2)
  clear bw2
  obtain ⟨cZ0, cZ1, cZ2, cZ3, cZ4, cZ5, cZ6, cZ7, cZ8, cZ9, cZ10, cZ11, cZ12⟩ := XZ.out.c13
  obtain ⟨cS0, cS1, cS2⟩ := XS.out.c3
  obtain ⟨fZ0, fZ1, fZ2, fZ3, fZ4, fZ5, fZ6, fZ7, fZ8, fZ9, fZ10, fZ11, fZ12⟩ := XZ.out.f13
  obtain ⟨fS0, fS1, fS2⟩ := XS.out.f3
  go_wp2_with fail
  obtain ⟨wz, hwz⟩ : ∃ wz, wz = sets13 w2 (W.heap.size + 1 + 1) (.int .i64 C.pg) (.int .i64 C.rg) (.int .i64 C.lg) (.int .i64 C.th) (.int .i64 C.ca) (.int .i64 C.ba) (.int .i64 C.sh) (.int .i64 C.re) (.int .i64 C.mo) (.int .i64 C.fi) (.int .u64 C.ky) (.slice none 0 0) (.slice (some ⟨r, 0, none⟩) k kc) := ⟨_, rfl⟩
  obtain ⟨swz, kwz, lwz, XZn⟩ := XZ.out.put13s rfl hwz
  unfold sets13 at hwz
  rw [← hwz]
  clear hwz
  clear cZ0 cZ1 cZ2 cZ3 cZ4 cZ5 cZ6 cZ7 cZ8 cZ9 cZ10 cZ11 cZ12 cS0 cS1 cS2 fZ0 fZ1 fZ2 fZ3 fZ4 fZ5 fZ6 fZ7 fZ8 fZ9 fZ10 fZ11 fZ12 fS0 fS1 fS2
  replace XZ := Lib.hid XZn
  clear XZn
  replace XM := Lib.hid (XM.out.block (kwz (W.heap.size) (by omega)))
  replace XO := Lib.hid (XO.out.block (kwz (W.heap.size + 1) (by omega)))
  replace XS := Lib.hid (XS.out.block (kwz (W.heap.size + 1 + 1 + 1) (by omega)))
  replace HB := Lib.hid (HB.out.trans (lwz W.heap.size (by omega)))
  clear kwz lwz
  obtain ⟨ws, hws⟩ : ∃ ws, ws = sets3 wz (W.heap.size + 1 + 1 + 1) (.int .i64 E) (.int .i64 0) (.slice none 0 0) := ⟨_, rfl⟩
  obtain ⟨sws, kws, lws, XSn⟩ := XS.out.put3s rfl hws
  unfold sets3 at hws
  rw [← hws]
  clear hws
  replace XS := Lib.hid XSn
  clear XSn
  replace XM := Lib.hid (XM.out.block (kws (W.heap.size) (by omega)))
  replace XO := Lib.hid (XO.out.block (kws (W.heap.size + 1) (by omega)))
  replace XZ := Lib.hid (XZ.out.block (kws (W.heap.size + 1 + 1) (by omega)))
  replace HB := Lib.hid (HB.out.trans (lws W.heap.size (by omega)))
  clear kws lws
  obtain ⟨cZ0, cZ1, cZ2, cZ3, cZ4, cZ5, cZ6, cZ7, cZ8, cZ9, cZ10, cZ11, cZ12⟩ := XZ.out.c13
  obtain ⟨cS0, cS1, cS2⟩ := XS.out.c3
  refine bodyPost_ret (v := .tuple #[rmv C none 0 0 (some ⟨r, 0, none⟩) k kc, .agg #[rE E, .int .i64 0, .slice none 0 0]]) (by simp [results, Try.results11, go_sem, cZ0, cZ1, cZ2, cZ3, cZ4, cZ5, cZ6, cZ7, cZ8, cZ9, cZ10, cZ11, cZ12, cS0, cS1, cS2]) rfl ⟨rfl, HB.out⟩
set_option maxHeartbeats 1600000 in
theorem rdo_u6 (t a b v n mm : Int) (P : Option Addr) (ln cp : Nat) (full : Bool) (E : Int) (g1 : ¬ b < 0) (g2 : ¬ b ≥ (k : Int)) (HF : ∀ w, RZ r k w → Calls Try.prog 30 #[rmv C none 0 0 (some ⟨r, 0, none⟩) k kc, opv 6 t a b v n mm P ln cp] w fun e w' => e = .returned (.tuple #[rmv C none 0 0 (some ⟨r, 0, none⟩) k kc, .agg #[rE E, .int .i64 0, .slice none 0 0]]) ∧ Below w.heap.size w w') (h : RZ r k W) : Calls Try.prog 11 #[rmv C none 0 0 (some ⟨r, 0, none⟩) k kc, opv 6 t a b v n mm P ln cp, .bool full] W (DC C r k kc E W) := by
  have H := Lib.hid h
  clear h
  have HF2 := Lib.hid HF
  clear HF
  go_enter Try.func11, Try.ntmps11
  go_upto_region 1 with (fail)
  obtain ⟨w1, hw1⟩ : ∃ w1, (((W.alloc (.cells #[.int .i64 C.pg, .int .i64 C.rg, .int .i64 C.lg, .int .i64 C.th, .int .i64 C.ca, .int .i64 C.ba, .int .i64 C.sh, .int .i64 C.re, .int .i64 C.mo, .int .i64 C.fi, .int .u64 C.ky, .slice none 0 0, .slice (some ⟨r, 0, none⟩) k kc] 34)).alloc (.cells #[.int .i64 6, .int .i64 t, .int .i64 a, .int .i64 b, .int .i64 v, .int .i64 n, .int .i64 mm, .slice P ln cp] 41)).alloc (.cells #[.int .i64 0, .int .i64 0, .int .i64 0, .int .i64 0, .int .i64 0, .int .i64 0, .int .i64 0, .int .i64 0, .int .i64 0, .int .i64 0, .int .u64 0, .slice none 0 0, .slice none 0 0] 34)).alloc (.cells #[.int .i64 0, .int .i64 0, .slice none 0 0] 39) = w1 := ⟨_, rfl⟩
  have bw1 : Below W.heap.size W w1 := by rw [← hw1]; exact alc (alc (alc (alc0 _ _) _) _) _
  have sw1 : w1.heap.size = W.heap.size + 4 := by rw [← hw1]; simp
  have XM : Hid (BX (W.heap.size) #[.int .i64 C.pg, .int .i64 C.rg, .int .i64 C.lg, .int .i64 C.th, .int .i64 C.ca, .int .i64 C.ba, .int .i64 C.sh, .int .i64 C.re, .int .i64 C.mo, .int .i64 C.fi, .int .u64 C.ky, .slice none 0 0, .slice (some ⟨r, 0, none⟩) k kc] w1) := Lib.hid (by rw [← hw1]; exact (bx_new _ _ _).block ((alc (alc (alc0 _ _) _) _).block _ (by simp)))
  have XO : Hid (BX (W.heap.size + 1) #[.int .i64 6, .int .i64 t, .int .i64 a, .int .i64 b, .int .i64 v, .int .i64 n, .int .i64 mm, .slice P ln cp] w1) := Lib.hid (by rw [← hw1]; exact (bx_at _ _ _ (by simp)).block ((alc (alc0 _ _) _).block _ (by simp)))
  have XZ : Hid (BX (W.heap.size + 1 + 1) #[.int .i64 0, .int .i64 0, .int .i64 0, .int .i64 0, .int .i64 0, .int .i64 0, .int .i64 0, .int .i64 0, .int .i64 0, .int .i64 0, .int .u64 0, .slice none 0 0, .slice none 0 0] w1) := Lib.hid (by rw [← hw1]; exact (bx_at _ _ _ (by simp)).block ((alc0 _ _).block _ (by simp)))
  have XS : Hid (BX (W.heap.size + 1 + 1 + 1) #[.int .i64 0, .int .i64 0, .slice none 0 0] w1) := Lib.hid (by rw [← hw1]; exact bx_at _ _ _ (by simp))
  rw [hw1]
  clear hw1
  have HB := Lib.hid bw1
  clear bw1
  obtain ⟨cM0, cM1, cM2, cM3, cM4, cM5, cM6, cM7, cM8, cM9, cM10, cM11, cM12⟩ := XM.out.c13
  obtain ⟨cO0, cO1, cO2, cO3, cO4, cO5, cO6, cO7⟩ := XO.out.c8
  go_wp2_with fail
  refine (ruses6).mono ?_
  rintro e w9 ⟨rfl, rfl⟩
  go_wp2_with fail
  refine (HF2.out _ (H.out.below HB.out)).mono ?_
  rintro e w2 ⟨rfl, bw2⟩
  clear cM0 cM1 cM2 cM3 cM4 cM5 cM6 cM7 cM8 cM9 cM10 cM11 cM12 cO0 cO1 cO2 cO3 cO4 cO5 cO6 cO7
  have sw2 := bw2.size
  replace XM := Lib.hid (XM.out.block (bw2.block (W.heap.size) (by omega)))
  replace XO := Lib.hid (XO.out.block (bw2.block (W.heap.size + 1) (by omega)))
  replace XZ := Lib.hid (XZ.out.block (bw2.block (W.heap.size + 1 + 1) (by omega)))
  replace XS := Lib.hid (XS.out.block (bw2.block (W.heap.size + 1 + 1 + 1) (by omega)))
  replace HB := Lib.hid (thn HB.out bw2)
  clear bw2
  obtain ⟨cZ0, cZ1, cZ2, cZ3, cZ4, cZ5, cZ6, cZ7, cZ8, cZ9, cZ10, cZ11, cZ12⟩ := XZ.out.c13
  obtain ⟨cS0, cS1, cS2⟩ := XS.out.c3
  obtain ⟨fZ0, fZ1, fZ2, fZ3, fZ4, fZ5, fZ6, fZ7, fZ8, fZ9, fZ10, fZ11, fZ12⟩ := XZ.out.f13
  obtain ⟨fS0, fS1, fS2⟩ := XS.out.f3
  go_wp2_with fail
  obtain ⟨wz, hwz⟩ : ∃ wz, wz = sets13 w2 (W.heap.size + 1 + 1) (.int .i64 C.pg) (.int .i64 C.rg) (.int .i64 C.lg) (.int .i64 C.th) (.int .i64 C.ca) (.int .i64 C.ba) (.int .i64 C.sh) (.int .i64 C.re) (.int .i64 C.mo) (.int .i64 C.fi) (.int .u64 C.ky) (.slice none 0 0) (.slice (some ⟨r, 0, none⟩) k kc) := ⟨_, rfl⟩
  obtain ⟨swz, kwz, lwz, XZn⟩ := XZ.out.put13s rfl hwz
  unfold sets13 at hwz
  rw [← hwz]
  clear hwz
  clear cZ0 cZ1 cZ2 cZ3 cZ4 cZ5 cZ6 cZ7 cZ8 cZ9 cZ10 cZ11 cZ12 cS0 cS1 cS2 fZ0 fZ1 fZ2 fZ3 fZ4 fZ5 fZ6 fZ7 fZ8 fZ9 fZ10 fZ11 fZ12 fS0 fS1 fS2
  replace XZ := Lib.hid XZn
  clear XZn
  replace XM := Lib.hid (XM.out.block (kwz (W.heap.size) (by omega)))
  replace XO := Lib.hid (XO.out.block (kwz (W.heap.size + 1) (by omega)))
  replace XS := Lib.hid (XS.out.block (kwz (W.heap.size + 1 + 1 + 1) (by omega)))
  replace HB := Lib.hid (HB.out.trans (lwz W.heap.size (by omega)))
  clear kwz lwz
  obtain ⟨ws, hws⟩ : ∃ ws, ws = sets3 wz (W.heap.size + 1 + 1 + 1) (.int .i64 E) (.int .i64 0) (.slice none 0 0) := ⟨_, rfl⟩
  obtain ⟨sws, kws, lws, XSn⟩ := XS.out.put3s rfl hws
  unfold sets3 at hws
  rw [← hws]
  clear hws
  replace XS := Lib.hid XSn
  clear XSn
  replace XM := Lib.hid (XM.out.block (kws (W.heap.size) (by omega)))
  replace XO := Lib.hid (XO.out.block (kws (W.heap.size + 1) (by omega)))
  replace XZ := Lib.hid (XZ.out.block (kws (W.heap.size + 1 + 1) (by omega)))
  replace HB := Lib.hid (HB.out.trans (lws W.heap.size (by omega)))
  clear kws lws
  obtain ⟨cZ0, cZ1, cZ2, cZ3, cZ4, cZ5, cZ6, cZ7, cZ8, cZ9, cZ10, cZ11, cZ12⟩ := XZ.out.c13
  obtain ⟨cS0, cS1, cS2⟩ := XS.out.c3
  refine bodyPost_ret (v := .tuple #[rmv C none 0 0 (some ⟨r, 0, none⟩) k kc, .agg #[rE E, .int .i64 0, .slice none 0 0]]) (by simp [results, Try.results11, go_sem, cZ0, cZ1, cZ2, cZ3, cZ4, cZ5, cZ6, cZ7, cZ8, cZ9, cZ10, cZ11, cZ12, cS0, cS1, cS2]) rfl ⟨rfl, HB.out⟩
set_option maxHeartbeats 1600000 in
theorem rdo_u11 (t a b v n mm : Int) (P : Option Addr) (ln cp : Nat) (full : Bool) (E : Int) (g1 : ¬ b < 0) (g2 : ¬ b ≥ (k : Int)) (HF : ∀ w, RZ r k w → Calls Try.prog 30 #[rmv C none 0 0 (some ⟨r, 0, none⟩) k kc, opv 11 t a b v n mm P ln cp] w fun e w' => e = .returned (.tuple #[rmv C none 0 0 (some ⟨r, 0, none⟩) k kc, .agg #[rE E, .int .i64 0, .slice none 0 0]]) ∧ Below w.heap.size w w') (h : RZ r k W) : Calls Try.prog 11 #[rmv C none 0 0 (some ⟨r, 0, none⟩) k kc, opv 11 t a b v n mm P ln cp, .bool full] W (DC C r k kc E W) := by
  have H := Lib.hid h
  clear h
  have HF2 := Lib.hid HF
  clear HF
  go_enter Try.func11, Try.ntmps11
  go_upto_region 1 with (fail)
  obtain ⟨w1, hw1⟩ : ∃ w1, (((W.alloc (.cells #[.int .i64 C.pg, .int .i64 C.rg, .int .i64 C.lg, .int .i64 C.th, .int .i64 C.ca, .int .i64 C.ba, .int .i64 C.sh, .int .i64 C.re, .int .i64 C.mo, .int .i64 C.fi, .int .u64 C.ky, .slice none 0 0, .slice (some ⟨r, 0, none⟩) k kc] 34)).alloc (.cells #[.int .i64 11, .int .i64 t, .int .i64 a, .int .i64 b, .int .i64 v, .int .i64 n, .int .i64 mm, .slice P ln cp] 41)).alloc (.cells #[.int .i64 0, .int .i64 0, .int .i64 0, .int .i64 0, .int .i64 0, .int .i64 0, .int .i64 0, .int .i64 0, .int .i64 0, .int .i64 0, .int .u64 0, .slice none 0 0, .slice none 0 0] 34)).alloc (.cells #[.int .i64 0, .int .i64 0, .slice none 0 0] 39) = w1 := ⟨_, rfl⟩
  have bw1 : Below W.heap.size W w1 := by rw [← hw1]; exact alc (alc (alc (alc0 _ _) _) _) _
  have sw1 : w1.heap.size = W.heap.size + 4 := by rw [← hw1]; simp
  have XM : Hid (BX (W.heap.size) #[.int .i64 C.pg, .int .i64 C.rg, .int .i64 C.lg, .int .i64 C.th, .int .i64 C.ca, .int .i64 C.ba, .int .i64 C.sh, .int .i64 C.re, .int .i64 C.mo, .int .i64 C.fi, .int .u64 C.ky, .slice none 0 0, .slice (some ⟨r, 0, none⟩) k kc] w1) := Lib.hid (by rw [← hw1]; exact (bx_new _ _ _).block ((alc (alc (alc0 _ _) _) _).block _ (by simp)))
  have XO : Hid (BX (W.heap.size + 1) #[.int .i64 11, .int .i64 t, .int .i64 a, .int .i64 b, .int .i64 v, .int .i64 n, .int .i64 mm, .slice P ln cp] w1) := Lib.hid (by rw [← hw1]; exact (bx_at _ _ _ (by simp)).block ((alc (alc0 _ _) _).block _ (by simp)))
  have XZ : Hid (BX (W.heap.size + 1 + 1) #[.int .i64 0, .int .i64 0, .int .i64 0, .int .i64 0, .int .i64 0, .int .i64 0, .int .i64 0, .int .i64 0, .int .i64 0, .int .i64 0, .int .u64 0, .slice none 0 0, .slice none 0 0] w1) := Lib.hid (by rw [← hw1]; exact (bx_at _ _ _ (by simp)).block ((alc0 _ _).block _ (by simp)))
  have XS : Hid (BX (W.heap.size + 1 + 1 + 1) #[.int .i64 0, .int .i64 0, .slice none 0 0] w1) := Lib.hid (by rw [← hw1]; exact bx_at _ _ _ (by simp))
  rw [hw1]
  clear hw1
  have HB := Lib.hid bw1
  clear bw1
  obtain ⟨cM0, cM1, cM2, cM3, cM4, cM5, cM6, cM7, cM8, cM9, cM10, cM11, cM12⟩ := XM.out.c13
  obtain ⟨cO0, cO1, cO2, cO3, cO4, cO5, cO6, cO7⟩ := XO.out.c8
  go_wp2_with fail
  refine (ruses11).mono ?_
  rintro e w9 ⟨rfl, rfl⟩
  go_wp2_with fail
  refine (HF2.out _ (H.out.below HB.out)).mono ?_
  rintro e w2 ⟨rfl, bw2⟩
  clear cM0 cM1 cM2 cM3 cM4 cM5 cM6 cM7 cM8 cM9 cM10 cM11 cM12 cO0 cO1 cO2 cO3 cO4 cO5 cO6 cO7
  have sw2 := bw2.size
  replace XM := Lib.hid (XM.out.block (bw2.block (W.heap.size) (by omega)))
  replace XO := Lib.hid (XO.out.block (bw2.block (W.heap.size + 1) (by omega)))
  replace XZ := Lib.hid (XZ.out.block (bw2.block (W.heap.size + 1 + 1) (by omega)))
  replace XS := Lib.hid (XS.out.block (bw2.block (W.heap.size + 1 + 1 + 1) (by omega)))
  replace HB := Lib.hid (thn HB.out bw2)
  clear bw2
  obtain ⟨cZ0, cZ1, cZ2, cZ3, cZ4, cZ5, cZ6, cZ7, cZ8, cZ9, cZ10, cZ11, cZ12⟩ := XZ.out.c13
  obtain ⟨cS0, cS1, cS2⟩ := XS.out.c3
  obtain ⟨fZ0, fZ1, fZ2, fZ3, fZ4, fZ5, fZ6, fZ7, fZ8, fZ9, fZ10, fZ11, fZ12⟩ := XZ.out.f13
  obtain ⟨fS0, fS1, fS2⟩ := XS.out.f3
  go_wp2_with fail
  obtain ⟨wz, hwz⟩ : ∃ wz, wz = sets13 w2 (W.heap.size + 1 + 1) (.int .i64 C.pg) (.int .i64 C.rg) (.int .i64 C.lg) (.int .i64 C.th) (.int .i64 C.ca) (.int .i64 C.ba) (.int .i64 C.sh) (.int .i64 C.re) (.int .i64 C.mo) (.int .i64 C.fi) (.int .u64 C.ky) (.slice none 0 0) (.slice (some ⟨r, 0, none⟩) k kc) := ⟨_, rfl⟩
  obtain ⟨swz, kwz, lwz, XZn⟩ := XZ.out.put13s rfl hwz
  unfold sets13 at hwz
  rw [← hwz]
  clear hwz
  clear cZ0 cZ1 cZ2 cZ3 cZ4 cZ5 cZ6 cZ7 cZ8 cZ9 cZ10 cZ11 cZ12 cS0 cS1 cS2 fZ0 fZ1 fZ2 fZ3 fZ4 fZ5 fZ6 fZ7 fZ8 fZ9 fZ10 fZ11 fZ12 fS0 fS1 fS2
  replace XZ := Lib.hid XZn
  clear XZn
  replace XM := Lib.hid (XM.out.block (kwz (W.heap.size) (by omega)))
  replace XO := Lib.hid (XO.out.block (kwz (W.heap.size + 1) (by omega)))
  replace XS := Lib.hid (XS.out.block (kwz (W.heap.size + 1 + 1 + 1) (by omega)))
  replace HB := Lib.hid (HB.out.trans (lwz W.heap.size (by omega)))
  clear kwz lwz
  obtain ⟨ws, hws⟩ : ∃ ws, ws = sets3 wz (W.heap.size + 1 + 1 + 1) (.int .i64 E) (.int .i64 0) (.slice none 0 0) := ⟨_, rfl⟩
  obtain ⟨sws, kws, lws, XSn⟩ := XS.out.put3s rfl hws
  unfold sets3 at hws
  rw [← hws]
  clear hws
  replace XS := Lib.hid XSn
  clear XSn
  replace XM := Lib.hid (XM.out.block (kws (W.heap.size) (by omega)))
  replace XO := Lib.hid (XO.out.block (kws (W.heap.size + 1) (by omega)))
  replace XZ := Lib.hid (XZ.out.block (kws (W.heap.size + 1 + 1) (by omega)))
  replace HB := Lib.hid (HB.out.trans (lws W.heap.size (by omega)))
  clear kws lws
  obtain ⟨cZ0, cZ1, cZ2, cZ3, cZ4, cZ5, cZ6, cZ7, cZ8, cZ9, cZ10, cZ11, cZ12⟩ := XZ.out.c13
  obtain ⟨cS0, cS1, cS2⟩ := XS.out.c3
  refine bodyPost_ret (v := .tuple #[rmv C none 0 0 (some ⟨r, 0, none⟩) k kc, .agg #[rE E, .int .i64 0, .slice none 0 0]]) (by simp [results, Try.results11, go_sem, cZ0, cZ1, cZ2, cZ3, cZ4, cZ5, cZ6, cZ7, cZ8, cZ9, cZ10, cZ11, cZ12, cS0, cS1, cS2]) rfl ⟨rfl, HB.out⟩
set_option maxHeartbeats 1600000 in
theorem rdo_u12 (t a b v n mm : Int) (P : Option Addr) (ln cp : Nat) (full : Bool) (E : Int) (g1 : ¬ b < 0) (g2 : ¬ b ≥ (k : Int)) (HF : ∀ w, RZ r k w → Calls Try.prog 30 #[rmv C none 0 0 (some ⟨r, 0, none⟩) k kc, opv 12 t a b v n mm P ln cp] w fun e w' => e = .returned (.tuple #[rmv C none 0 0 (some ⟨r, 0, none⟩) k kc, .agg #[rE E, .int .i64 0, .slice none 0 0]]) ∧ Below w.heap.size w w') (h : RZ r k W) : Calls Try.prog 11 #[rmv C none 0 0 (some ⟨r, 0, none⟩) k kc, opv 12 t a b v n mm P ln cp, .bool full] W (DC C r k kc E W) := by
  have H := Lib.hid h
  clear h
  have HF2 := Lib.hid HF
  clear HF
  go_enter Try.func11, Try.ntmps11
  go_upto_region 1 with (fail)
  obtain ⟨w1, hw1⟩ : ∃ w1, (((W.alloc (.cells #[.int .i64 C.pg, .int .i64 C.rg, .int .i64 C.lg, .int .i64 C.th, .int .i64 C.ca, .int .i64 C.ba, .int .i64 C.sh, .int .i64 C.re, .int .i64 C.mo, .int .i64 C.fi, .int .u64 C.ky, .slice none 0 0, .slice (some ⟨r, 0, none⟩) k kc] 34)).alloc (.cells #[.int .i64 12, .int .i64 t, .int .i64 a, .int .i64 b, .int .i64 v, .int .i64 n, .int .i64 mm, .slice P ln cp] 41)).alloc (.cells #[.int .i64 0, .int .i64 0, .int .i64 0, .int .i64 0, .int .i64 0, .int .i64 0, .int .i64 0, .int .i64 0, .int .i64 0, .int .i64 0, .int .u64 0, .slice none 0 0, .slice none 0 0] 34)).alloc (.cells #[.int .i64 0, .int .i64 0, .slice none 0 0] 39) = w1 := ⟨_, rfl⟩
  have bw1 : Below W.heap.size W w1 := by rw [← hw1]; exact alc (alc (alc (alc0 _ _) _) _) _
  have sw1 : w1.heap.size = W.heap.size + 4 := by rw [← hw1]; simp
  have XM : Hid (BX (W.heap.size) #[.int .i64 C.pg, .int .i64 C.rg, .int .i64 C.lg, .int .i64 C.th, .int .i64 C.ca, .int .i64 C.ba, .int .i64 C.sh, .int .i64 C.re, .int .i64 C.mo, .int .i64 C.fi, .int .u64 C.ky, .slice none 0 0, .slice (some ⟨r, 0, none⟩) k kc] w1) := Lib.hid (by rw [← hw1]; exact (bx_new _ _ _).block ((alc (alc (alc0 _ _) _) _).block _ (by simp)))
  have XO : Hid (BX (W.heap.size + 1) #[.int .i64 12, .int .i64 t, .int .i64 a, .int .i64 b, .int .i64 v, .int .i64 n, .int .i64 mm, .slice P ln cp] w1) := Lib.hid (by rw [← hw1]; exact (bx_at _ _ _ (by simp)).block ((alc (alc0 _ _) _).block _ (by simp)))
  have XZ : Hid (BX (W.heap.size + 1 + 1) #[.int .i64 0, .int .i64 0, .int .i64 0, .int .i64 0, .int .i64 0, .int .i64 0, .int .i64 0, .int .i64 0, .int .i64 0, .int .i64 0, .int .u64 0, .slice none 0 0, .slice none 0 0] w1) := Lib.hid (by rw [← hw1]; exact (bx_at _ _ _ (by simp)).block ((alc0 _ _).block _ (by simp)))
  have XS : Hid (BX (W.heap.size + 1 + 1 + 1) #[.int .i64 0, .int .i64 0, .slice none 0 0] w1) := Lib.hid (by rw [← hw1]; exact bx_at _ _ _ (by simp))
  rw [hw1]
  clear hw1
  have HB := Lib.hid bw1
  clear bw1
  obtain ⟨cM0, cM1, cM2, cM3, cM4, cM5, cM6, cM7, cM8, cM9, cM10, cM11, cM12⟩ := XM.out.c13
  obtain ⟨cO0, cO1, cO2, cO3, cO4, cO5, cO6, cO7⟩ := XO.out.c8
  go_wp2_with fail
  refine (ruses12).mono ?_
  rintro e w9 ⟨rfl, rfl⟩
  go_wp2_with fail
  refine (HF2.out _ (H.out.below HB.out)).mono ?_
  rintro e w2 ⟨rfl, bw2⟩
  clear cM0 cM1 cM2 cM3 cM4 cM5 cM6 cM7 cM8 cM9 cM10 cM11 cM12 cO0 cO1 cO2 cO3 cO4 cO5 cO6 cO7
  have sw2 := bw2.size
  replace XM := Lib.hid (XM.out.block (bw2.block (W.heap.size) (by omega)))
  replace XO := Lib.hid (XO.out.block (bw2.block (W.heap.size + 1) (by omega)))
  replace XZ := Lib.hid (XZ.out.block (bw2.block (W.heap.size + 1 + 1) (by omega)))
  replace XS := Lib.hid (XS.out.block (bw2.block (W.heap.size + 1 + 1 + 1) (by omega)))
  replace HB := Lib.hid (thn HB.out bw2)
  clear bw2
  obtain ⟨cZ0, cZ1, cZ2, cZ3, cZ4, cZ5, cZ6, cZ7, cZ8, cZ9, cZ10, cZ11, cZ12⟩ := XZ.out.c13
  obtain ⟨cS0, cS1, cS2⟩ := XS.out.c3
  obtain ⟨fZ0, fZ1, fZ2, fZ3, fZ4, fZ5, fZ6, fZ7, fZ8, fZ9, fZ10, fZ11, fZ12⟩ := XZ.out.f13
  obtain ⟨fS0, fS1, fS2⟩ := XS.out.f3
  go_wp2_with fail
  obtain ⟨wz, hwz⟩ : ∃ wz, wz = sets13 w2 (W.heap.size + 1 + 1) (.int .i64 C.pg) (.int .i64 C.rg) (.int .i64 C.lg) (.int .i64 C.th) (.int .i64 C.ca) (.int .i64 C.ba) (.int .i64 C.sh) (.int .i64 C.re) (.int .i64 C.mo) (.int .i64 C.fi) (.int .u64 C.ky) (.slice none 0 0) (.slice (some ⟨r, 0, none⟩) k kc) := ⟨_, rfl⟩
  obtain ⟨swz, kwz, lwz, XZn⟩ := XZ.out.put13s rfl hwz
  unfold sets13 at hwz
  rw [← hwz]
  clear hwz
  clear cZ0 cZ1 cZ2 cZ3 cZ4 cZ5 cZ6 cZ7 cZ8 cZ9 cZ10 cZ11 cZ12 cS0 cS1 cS2 fZ0 fZ1 fZ2 fZ3 fZ4 fZ5 fZ6 fZ7 fZ8 fZ9 fZ10 fZ11 fZ12 fS0 fS1 fS2
  replace XZ := Lib.hid XZn
  clear XZn
  replace XM := Lib.hid (XM.out.block (kwz (W.heap.size) (by omega)))
  replace XO := Lib.hid (XO.out.block (kwz (W.heap.size + 1) (by omega)))
  replace XS := Lib.hid (XS.out.block (kwz (W.heap.size + 1 + 1 + 1) (by omega)))
  replace HB := Lib.hid (HB.out.trans (lwz W.heap.size (by omega)))
  clear kwz lwz
  obtain ⟨ws, hws⟩ : ∃ ws, ws = sets3 wz (W.heap.size + 1 + 1 + 1) (.int .i64 E) (.int .i64 0) (.slice none 0 0) := ⟨_, rfl⟩
  obtain ⟨sws, kws, lws, XSn⟩ := XS.out.put3s rfl hws
  unfold sets3 at hws
  rw [← hws]
  clear hws
  replace XS := Lib.hid XSn
  clear XSn
  replace XM := Lib.hid (XM.out.block (kws (W.heap.size) (by omega)))
  replace XO := Lib.hid (XO.out.block (kws (W.heap.size + 1) (by omega)))
  replace XZ := Lib.hid (XZ.out.block (kws (W.heap.size + 1 + 1) (by omega)))
  replace HB := Lib.hid (HB.out.trans (lws W.heap.size (by omega)))
  clear kws lws
  obtain ⟨cZ0, cZ1, cZ2, cZ3, cZ4, cZ5, cZ6, cZ7, cZ8, cZ9, cZ10, cZ11, cZ12⟩ := XZ.out.c13
  obtain ⟨cS0, cS1, cS2⟩ := XS.out.c3
  refine bodyPost_ret (v := .tuple #[rmv C none 0 0 (some ⟨r, 0, none⟩) k kc, .agg #[rE E, .int .i64 0, .slice none 0 0]]) (by simp [results, Try.results11, go_sem, cZ0, cZ1, cZ2, cZ3, cZ4, cZ5, cZ6, cZ7, cZ8, cZ9, cZ10, cZ11, cZ12, cS0, cS1, cS2]) rfl ⟨rfl, HB.out⟩
set_option maxHeartbeats 1600000 in
theorem rdo_u14 (t a b v n mm : Int) (P : Option Addr) (ln cp : Nat) (full : Bool) (E : Int) (g1 : ¬ b < 0) (g2 : ¬ b ≥ (k : Int)) (g3 : ¬ v < 0) (g4 : ¬ v ≥ (k : Int)) (HF : ∀ w, RZ r k w → Calls Try.prog 30 #[rmv C none 0 0 (some ⟨r, 0, none⟩) k kc, opv 14 t a b v n mm P ln cp] w fun e w' => e = .returned (.tuple #[rmv C none 0 0 (some ⟨r, 0, none⟩) k kc, .agg #[rE E, .int .i64 0, .slice none 0 0]]) ∧ Below w.heap.size w w') (h : RZ r k W) : Calls Try.prog 11 #[rmv C none 0 0 (some ⟨r, 0, none⟩) k kc, opv 14 t a b v n mm P ln cp, .bool full] W (DC C r k kc E W) := by
  have H := Lib.hid h
  clear h
  have HF2 := Lib.hid HF
  clear HF
  go_enter Try.func11, Try.ntmps11
  go_upto_region 1 with (fail)
  obtain ⟨w1, hw1⟩ : ∃ w1, (((W.alloc (.cells #[.int .i64 C.pg, .int .i64 C.rg, .int .i64 C.lg, .int .i64 C.th, .int .i64 C.ca, .int .i64 C.ba, .int .i64 C.sh, .int .i64 C.re, .int .i64 C.mo, .int .i64 C.fi, .int .u64 C.ky, .slice none 0 0, .slice (some ⟨r, 0, none⟩) k kc] 34)).alloc (.cells #[.int .i64 14, .int .i64 t, .int .i64 a, .int .i64 b, .int .i64 v, .int .i64 n, .int .i64 mm, .slice P ln cp] 41)).alloc (.cells #[.int .i64 0, .int .i64 0, .int .i64 0, .int .i64 0, .int .i64 0, .int .i64 0, .int .i64 0, .int .i64 0, .int .i64 0, .int .i64 0, .int .u64 0, .slice none 0 0, .slice none 0 0] 34)).alloc (.cells #[.int .i64 0, .int .i64 0, .slice none 0 0] 39) = w1 := ⟨_, rfl⟩
  have bw1 : Below W.heap.size W w1 := by rw [← hw1]; exact alc (alc (alc (alc0 _ _) _) _) _
  have sw1 : w1.heap.size = W.heap.size + 4 := by rw [← hw1]; simp
  have XM : Hid (BX (W.heap.size) #[.int .i64 C.pg, .int .i64 C.rg, .int .i64 C.lg, .int .i64 C.th, .int .i64 C.ca, .int .i64 C.ba, .int .i64 C.sh, .int .i64 C.re, .int .i64 C.mo, .int .i64 C.fi, .int .u64 C.ky, .slice none 0 0, .slice (some ⟨r, 0, none⟩) k kc] w1) := Lib.hid (by rw [← hw1]; exact (bx_new _ _ _).block ((alc (alc (alc0 _ _) _) _).block _ (by simp)))
  have XO : Hid (BX (W.heap.size + 1) #[.int .i64 14, .int .i64 t, .int .i64 a, .int .i64 b, .int .i64 v, .int .i64 n, .int .i64 mm, .slice P ln cp] w1) := Lib.hid (by rw [← hw1]; exact (bx_at _ _ _ (by simp)).block ((alc (alc0 _ _) _).block _ (by simp)))
  have XZ : Hid (BX (W.heap.size + 1 + 1) #[.int .i64 0, .int .i64 0, .int .i64 0, .int .i64 0, .int .i64 0, .int .i64 0, .int .i64 0, .int .i64 0, .int .i64 0, .int .i64 0, .int .u64 0, .slice none 0 0, .slice none 0 0] w1) := Lib.hid (by rw [← hw1]; exact (bx_at _ _ _ (by simp)).block ((alc0 _ _).block _ (by simp)))
  have XS : Hid (BX (W.heap.size + 1 + 1 + 1) #[.int .i64 0, .int .i64 0, .slice none 0 0] w1) := Lib.hid (by rw [← hw1]; exact bx_at _ _ _ (by simp))
  rw [hw1]
  clear hw1
  have HB := Lib.hid bw1
  clear bw1
  obtain ⟨cM0, cM1, cM2, cM3, cM4, cM5, cM6, cM7, cM8, cM9, cM10, cM11, cM12⟩ := XM.out.c13
  obtain ⟨cO0, cO1, cO2, cO3, cO4, cO5, cO6, cO7⟩ := XO.out.c8
  go_wp2_with fail
  refine (ruses14).mono ?_
  rintro e w9 ⟨rfl, rfl⟩
  go_wp2_with fail
  refine (HF2.out _ (H.out.below HB.out)).mono ?_
  rintro e w2 ⟨rfl, bw2⟩
  clear cM0 cM1 cM2 cM3 cM4 cM5 cM6 cM7 cM8 cM9 cM10 cM11 cM12 cO0 cO1 cO2 cO3 cO4 cO5 cO6 cO7
  have sw2 := bw2.size
  replace XM := Lib.hid (XM.out.block (bw2.block (W.heap.size) (by omega)))
  replace XO := Lib.hid (XO.out.block (bw2.block (W.heap.size + 1) (by omega)))
  replace XZ := Lib.hid (XZ.out.block (bw2.block (W.heap.size + 1 + 1) (by omega)))
  replace XS := Lib.hid (XS.out.block (bw2.block (W.heap.size + 1 + 1 + 1) (by omega)))
  replace HB := Lib.hid (thn HB.out bw2)
  clear bw2
  obtain ⟨cZ0, cZ1, cZ2, cZ3, cZ4, cZ5, cZ6, cZ7, cZ8, cZ9, cZ10, cZ11, cZ12⟩ := XZ.out.c13
  obtain ⟨cS0, cS1, cS2⟩ := XS.out.c3
  obtain ⟨fZ0, fZ1, fZ2, fZ3, fZ4, fZ5, fZ6, fZ7, fZ8, fZ9, fZ10, fZ11, fZ12⟩ := XZ.out.f13
  obtain ⟨fS0, fS1, fS2⟩ := XS.out.f3
  go_wp2_with fail
  obtain ⟨wz, hwz⟩ : ∃ wz, wz = sets13 w2 (W.heap.size + 1 + 1) (.int .i64 C.pg) (.int .i64 C.rg) (.int .i64 C.lg) (.int .i64 C.th) (.int .i64 C.ca) (.int .i64 C.ba) (.int .i64 C.sh) (.int .i64 C.re) (.int .i64 C.mo) (.int .i64 C.fi) (.int .u64 C.ky) (.slice none 0 0) (.slice (some ⟨r, 0, none⟩) k kc) := ⟨_, rfl⟩
  obtain ⟨swz, kwz, lwz, XZn⟩ := XZ.out.put13s rfl hwz
  unfold sets13 at hwz
  rw [← hwz]
  clear hwz
  clear cZ0 cZ1 cZ2 cZ3 cZ4 cZ5 cZ6 cZ7 cZ8 cZ9 cZ10 cZ11 cZ12 cS0 cS1 cS2 fZ0 fZ1 fZ2 fZ3 fZ4 fZ5 fZ6 fZ7 fZ8 fZ9 fZ10 fZ11 fZ12 fS0 fS1 fS2
  replace XZ := Lib.hid XZn
  clear XZn
  replace XM := Lib.hid (XM.out.block (kwz (W.heap.size) (by omega)))
  replace XO := Lib.hid (XO.out.block (kwz (W.heap.size + 1) (by omega)))
  replace XS := Lib.hid (XS.out.block (kwz (W.heap.size + 1 + 1 + 1) (by omega)))
  replace HB := Lib.hid (HB.out.trans (lwz W.heap.size (by omega)))
  clear kwz lwz
  obtain ⟨ws, hws⟩ : ∃ ws, ws = sets3 wz (W.heap.size + 1 + 1 + 1) (.int .i64 E) (.int .i64 0) (.slice none 0 0) := ⟨_, rfl⟩
  obtain ⟨sws, kws, lws, XSn⟩ := XS.out.put3s rfl hws
  unfold sets3 at hws
  rw [← hws]
  clear hws
  replace XS := Lib.hid XSn
  clear XSn
  replace XM := Lib.hid (XM.out.block (kws (W.heap.size) (by omega)))
  replace XO := Lib.hid (XO.out.block (kws (W.heap.size + 1) (by omega)))
  replace XZ := Lib.hid (XZ.out.block (kws (W.heap.size + 1 + 1) (by omega)))
  replace HB := Lib.hid (HB.out.trans (lws W.heap.size (by omega)))
  clear kws lws
  obtain ⟨cZ0, cZ1, cZ2, cZ3, cZ4, cZ5, cZ6, cZ7, cZ8, cZ9, cZ10, cZ11, cZ12⟩ := XZ.out.c13
  obtain ⟨cS0, cS1, cS2⟩ := XS.out.c3
  refine bodyPost_ret (v := .tuple #[rmv C none 0 0 (some ⟨r, 0, none⟩) k kc, .agg #[rE E, .int .i64 0, .slice none 0 0]]) (by simp [results, Try.results11, go_sem, cZ0, cZ1, cZ2, cZ3, cZ4, cZ5, cZ6, cZ7, cZ8, cZ9, cZ10, cZ11, cZ12, cS0, cS1, cS2]) rfl ⟨rfl, HB.out⟩
end
end Go.Proofs.Ytanmmhbnjmglhaa
