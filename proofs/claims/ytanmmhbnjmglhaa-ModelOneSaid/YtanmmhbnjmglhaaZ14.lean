/- MoH. -/
import Derived.Test.YtanmmhbnjmglhaaZ13
import Derived.Deep.RegionHeld3
namespace Go.Proofs.Ytanmmhbnjmglhaa
set_option maxRecDepth 100000
open Go.RowKit Go.ChangeMaps Go.MapKept
set_option linter.unusedVariables false
set_option linter.unusedSimpArgs false
section
variable {m mb r : Nat} {C : Cf} {md : Nat} {ch : List (Int × Nat)} {rs : List Rf} {W : World}
def GP (m mb r : Nat) (C : Cf) (md : Nat) (ch : List (Int × Nat)) (rs : List Rf) (n : Nat) (f : Int) (W w' : World) : Prop :=
  (∃ q d kb, MO m mb r C (md + 1) (ch ++ [((md : Int) + 1, q)]) rs w' ∧ CkAt q d kb n f w' ∧ W.heap.size ≤ q ∧ W.heap.size ≤ d ∧ q < w'.heap.size ∧ d < w'.heap.size) ∧ W.heap.size ≤ w'.heap.size ∧ (∀ i, i < W.heap.size → i ≠ m → i ≠ mb → w'.heap[i]? = W.heap[i]?) ∧ ∀ L, L ≤ m → L ≤ mb → L ≤ W.heap.size → Below L W w'
/-- A box of the walk's own is written behind it. -/
theorem GP.lift {n : Nat} {f : Int} {wi w' w'' : World} {B : Nat} (h : GP m mb r C md ch rs n f wi w') (hb : Below W.heap.size W wi) (hm : m < W.heap.size ∧ mb < W.heap.size ∧ r < W.heap.size) (hB : W.heap.size ≤ B) (hB2 : B < wi.heap.size) (hs : w''.heap.size = w'.heap.size) (hk : ∀ i, i ≠ B → w''.heap[i]? = w'.heap[i]?) (hb2 : Below W.heap.size w' w'') : GP m mb r C md ch rs n f W w'' := by
  obtain ⟨⟨q, d, kb, h1, h2, h3, h4, h5, h6⟩, h7, h8, h9⟩ := h
  have hs0 := hb.size
  refine ⟨⟨q, d, kb, h1.keep (by omega) (hk m (by omega)) (hk mb (by omega)) (hk r (by omega)), ?_, by omega, by omega, by omega, by omega⟩, by omega, fun i hi g1 g2 => (hk i (by omega)).trans ((h8 i (by omega) g1 g2).trans (hb.block i hi)), fun L g1 g2 g3 => ((hb.mono g3).trans (h9 L g1 g2 (by omega))).trans (hb2.mono g3)⟩
  obtain ⟨⟨R, q1, q2, q3⟩, q4⟩ := h2
  have e1 := hk q (by omega)
  have e2 := hk d (by omega)
  exact ⟨⟨R, (World.cell?_of_block e1).trans q1, (World.cell?_of_block e1).trans q2, (World.cell?_of_block e1).trans q3⟩, fun i hi => (World.cell?_of_block e2).trans (q4 i hi)⟩
theorem set5 (w : World) (B : Nat) (a b c d e : Value) : ∀ w'' : World, w'' = ((((w.setCell ⟨B, 0, none⟩ a).setCell ⟨B, 1, none⟩ b).setCell ⟨B, 2, none⟩ c).setCell ⟨B, 3, none⟩ d).setCell ⟨B, 4, none⟩ e → w''.heap.size = w.heap.size ∧ (∀ i, i ≠ B → w''.heap[i]? = w.heap[i]?) ∧ ∀ L, L ≤ B → Below L w w'' := by
  rintro w'' rfl
  refine ⟨by simp only [size_set], fun i hi => by simp only [heap_other _ _ _ _ _ hi], fun L hL => (Below.refl L w).setCell (p := ⟨B, 0, none⟩) hL _ |>.setCell (p := ⟨B, 1, none⟩) hL _ |>.setCell (p := ⟨B, 2, none⟩) hL _ |>.setCell (p := ⟨B, 3, none⟩) hL _ |>.setCell (p := ⟨B, 4, none⟩) hL _⟩
end
def calE (C : Cf) (t n mm : Int) (full : Bool) : Int := if t < 0 ∨ C.th ≤ t ∨ n < 1 ∨ mm < 1 then 1 else if C.mo / n < mm then 4 else if full then 13 else 0
theorem cal_prod {C : Cf} {n mm : Int} (hn : 1 ≤ n) (hm : 1 ≤ mm) (hq : ¬ C.mo / n < mm) (h0 : 0 ≤ C.mo) : 1 ≤ n * mm ∧ n * mm ≤ C.mo := by
  have h2 : mm ≤ C.mo / n := by omega
  have h3 : mm * n ≤ C.mo := (Int.le_ediv_iff_mul_le (by omega)).1 h2
  have h4 : n * mm = mm * n := Int.mul_comm _ _
  have h5 : 1 * 1 ≤ n * mm := Int.mul_le_mul hn hm (by omega) (by omega)
  omega
section
variable {m mb r : Nat} {C : Cf} {md : Nat} {ch : List (Int × Nat)} {rs : List Rf} {W : World}
theorem mcal_t (k : Int) (t a b v n mm : Int) (P : Option Addr) (ln cp : Nat) (full : Bool) (h : MO m mb r C md ch rs W) (ht : t < 0 ∨ C.th ≤ t) : Calls Try.prog 40 #[.pointer (some ⟨m, 0, none⟩), opv k t a b v n mm P ln cp, .bool full] W fun e w' => e = .returned (.tuple #[z5, rE 1]) ∧ Below W.heap.size W w' := by
  have H := Lib.hid h
  have hm := h.lt.1
  have hmm := h.mp.lt
  have hr := h.lt.2.1
  have hok := h.ok.1
  have hmd := h.ok.2.2
  clear h
  go_enter Try.func40, Try.ntmps40
  go_upto_region 1 with (fail)
  obtain ⟨wb, hwb⟩ : ∃ wb, (W.alloc (.cells #[.int .i64 k, .int .i64 t, .int .i64 a, .int .i64 b, .int .i64 v, .int .i64 n, .int .i64 mm, .slice P ln cp] 41)).alloc (.cells #[.int .i64 0, .int .i64 0, .int .i64 0, .int .i64 0, .int .i64 0] 52) = wb := ⟨_, rfl⟩
  have hbb : Below W.heap.size W wb := by rw [← hwb]; exact alc (alc0 _ _) _
  have hsb : wb.heap.size = W.heap.size + 2 := by rw [← hwb, World.size_alloc, World.size_alloc]
  have hyb : YC (W.heap.size + 1) wb := by
    have h9 := yc_new (W.alloc (.cells #[.int .i64 k, .int .i64 t, .int .i64 a, .int .i64 b, .int .i64 v, .int .i64 n, .int .i64 mm, .slice P ln cp] 41)) 52
    rw [World.size_alloc, hwb] at h9
    exact h9
  have hob : OC W.heap.size k t a b v n mm P ln cp wb := by
    have h9 := (oc_new (k := k) (t := t) (a := a) (b := b) (v := v) (n := n) (mm := mm) (P := P) (ln := ln) (cp := cp) W 41).block ((alc0 (W.alloc (.cells #[.int .i64 k, .int .i64 t, .int .i64 a, .int .i64 b, .int .i64 v, .int .i64 n, .int .i64 mm, .slice P ln cp] 41)) (.cells #[.int .i64 0, .int .i64 0, .int .i64 0, .int .i64 0, .int .i64 0] 52)).block W.heap.size (by simp))
    rw [hwb] at h9
    exact h9
  rw [hwb]
  have HMB := Lib.hid (H.out.below hbb)
  have c8 := HMB.out.cf.2.2.2.2.2.2.2.2.1
  have HYB := Lib.hid hyb
  have HBB := Lib.hid hbb
  have HOB := Lib.hid hob
  obtain ⟨x0, x1, x2, x3, x4, x5, x6, x7⟩ := hob
  clear hwb hbb hyb
  go_wp2_with fail
  refine (mthread_no t HMB.out ht).mono ?_
  rintro e w1 ⟨rfl, rfl⟩
  obtain ⟨y0, z0⟩ := HYB.out 0 (by decide)
  obtain ⟨y1, z1⟩ := HYB.out 1 (by decide)
  obtain ⟨y2, z2⟩ := HYB.out 2 (by decide)
  obtain ⟨y3, z3⟩ := HYB.out 3 (by decide)
  obtain ⟨y4, z4⟩ := HYB.out 4 (by decide)
  go_wp2_with fail
  refine bodyPost_ret (v := .tuple #[z5, rE 1]) (by simp [results, Try.results40, go_sem, y0, y1, y2, y3, y4]) rfl ⟨rfl, ?_⟩
  exact HBB.out |>.setCell (p := ⟨W.heap.size + 1, 0, none⟩) (show W.heap.size ≤ W.heap.size + 1 by omega) _ |>.setCell (p := ⟨W.heap.size + 1, 1, none⟩) (show W.heap.size ≤ W.heap.size + 1 by omega) _ |>.setCell (p := ⟨W.heap.size + 1, 2, none⟩) (show W.heap.size ≤ W.heap.size + 1 by omega) _ |>.setCell (p := ⟨W.heap.size + 1, 3, none⟩) (show W.heap.size ≤ W.heap.size + 1 by omega) _ |>.setCell (p := ⟨W.heap.size + 1, 4, none⟩) (show W.heap.size ≤ W.heap.size + 1 by omega) _
theorem mcal_n (k : Int) (t a b v n mm : Int) (P : Option Addr) (ln cp : Nat) (full : Bool) (h : MO m mb r C md ch rs W) (ht : 0 ≤ t ∧ t < C.th) (hn : n < 1) : Calls Try.prog 40 #[.pointer (some ⟨m, 0, none⟩), opv k t a b v n mm P ln cp, .bool full] W fun e w' => e = .returned (.tuple #[z5, rE 1]) ∧ Below W.heap.size W w' := by
  have H := Lib.hid h
  have hm := h.lt.1
  have hmm := h.mp.lt
  have hr := h.lt.2.1
  have hok := h.ok.1
  have hmd := h.ok.2.2
  clear h
  go_enter Try.func40, Try.ntmps40
  go_upto_region 1 with (fail)
  obtain ⟨wb, hwb⟩ : ∃ wb, (W.alloc (.cells #[.int .i64 k, .int .i64 t, .int .i64 a, .int .i64 b, .int .i64 v, .int .i64 n, .int .i64 mm, .slice P ln cp] 41)).alloc (.cells #[.int .i64 0, .int .i64 0, .int .i64 0, .int .i64 0, .int .i64 0] 52) = wb := ⟨_, rfl⟩
  have hbb : Below W.heap.size W wb := by rw [← hwb]; exact alc (alc0 _ _) _
  have hsb : wb.heap.size = W.heap.size + 2 := by rw [← hwb, World.size_alloc, World.size_alloc]
  have hyb : YC (W.heap.size + 1) wb := by
    have h9 := yc_new (W.alloc (.cells #[.int .i64 k, .int .i64 t, .int .i64 a, .int .i64 b, .int .i64 v, .int .i64 n, .int .i64 mm, .slice P ln cp] 41)) 52
    rw [World.size_alloc, hwb] at h9
    exact h9
  have hob : OC W.heap.size k t a b v n mm P ln cp wb := by
    have h9 := (oc_new (k := k) (t := t) (a := a) (b := b) (v := v) (n := n) (mm := mm) (P := P) (ln := ln) (cp := cp) W 41).block ((alc0 (W.alloc (.cells #[.int .i64 k, .int .i64 t, .int .i64 a, .int .i64 b, .int .i64 v, .int .i64 n, .int .i64 mm, .slice P ln cp] 41)) (.cells #[.int .i64 0, .int .i64 0, .int .i64 0, .int .i64 0, .int .i64 0] 52)).block W.heap.size (by simp))
    rw [hwb] at h9
    exact h9
  rw [hwb]
  have HMB := Lib.hid (H.out.below hbb)
  have c8 := HMB.out.cf.2.2.2.2.2.2.2.2.1
  have HYB := Lib.hid hyb
  have HBB := Lib.hid hbb
  have HOB := Lib.hid hob
  obtain ⟨x0, x1, x2, x3, x4, x5, x6, x7⟩ := hob
  clear hwb hbb hyb
  go_wp2_with fail
  refine (mthread_yes t HMB.out ht).mono ?_
  rintro e w1 ⟨rfl, rfl⟩
  obtain ⟨y0, z0⟩ := HYB.out 0 (by decide)
  obtain ⟨y1, z1⟩ := HYB.out 1 (by decide)
  obtain ⟨y2, z2⟩ := HYB.out 2 (by decide)
  obtain ⟨y3, z3⟩ := HYB.out 3 (by decide)
  obtain ⟨y4, z4⟩ := HYB.out 4 (by decide)
  go_wp2_with fail
  refine bodyPost_ret (v := .tuple #[z5, rE 1]) (by simp [results, Try.results40, go_sem, y0, y1, y2, y3, y4]) rfl ⟨rfl, ?_⟩
  exact HBB.out |>.setCell (p := ⟨W.heap.size + 1, 0, none⟩) (show W.heap.size ≤ W.heap.size + 1 by omega) _ |>.setCell (p := ⟨W.heap.size + 1, 1, none⟩) (show W.heap.size ≤ W.heap.size + 1 by omega) _ |>.setCell (p := ⟨W.heap.size + 1, 2, none⟩) (show W.heap.size ≤ W.heap.size + 1 by omega) _ |>.setCell (p := ⟨W.heap.size + 1, 3, none⟩) (show W.heap.size ≤ W.heap.size + 1 by omega) _ |>.setCell (p := ⟨W.heap.size + 1, 4, none⟩) (show W.heap.size ≤ W.heap.size + 1 by omega) _
theorem mcal_m (k : Int) (t a b v n mm : Int) (P : Option Addr) (ln cp : Nat) (full : Bool) (h : MO m mb r C md ch rs W) (ht : 0 ≤ t ∧ t < C.th) (hn : ¬ n < 1) (hm1 : mm < 1) : Calls Try.prog 40 #[.pointer (some ⟨m, 0, none⟩), opv k t a b v n mm P ln cp, .bool full] W fun e w' => e = .returned (.tuple #[z5, rE 1]) ∧ Below W.heap.size W w' := by
  have H := Lib.hid h
  have hm := h.lt.1
  have hmm := h.mp.lt
  have hr := h.lt.2.1
  have hok := h.ok.1
  have hmd := h.ok.2.2
  clear h
  go_enter Try.func40, Try.ntmps40
  go_upto_region 1 with (fail)
  obtain ⟨wb, hwb⟩ : ∃ wb, (W.alloc (.cells #[.int .i64 k, .int .i64 t, .int .i64 a, .int .i64 b, .int .i64 v, .int .i64 n, .int .i64 mm, .slice P ln cp] 41)).alloc (.cells #[.int .i64 0, .int .i64 0, .int .i64 0, .int .i64 0, .int .i64 0] 52) = wb := ⟨_, rfl⟩
  have hbb : Below W.heap.size W wb := by rw [← hwb]; exact alc (alc0 _ _) _
  have hsb : wb.heap.size = W.heap.size + 2 := by rw [← hwb, World.size_alloc, World.size_alloc]
  have hyb : YC (W.heap.size + 1) wb := by
    have h9 := yc_new (W.alloc (.cells #[.int .i64 k, .int .i64 t, .int .i64 a, .int .i64 b, .int .i64 v, .int .i64 n, .int .i64 mm, .slice P ln cp] 41)) 52
    rw [World.size_alloc, hwb] at h9
    exact h9
  have hob : OC W.heap.size k t a b v n mm P ln cp wb := by
    have h9 := (oc_new (k := k) (t := t) (a := a) (b := b) (v := v) (n := n) (mm := mm) (P := P) (ln := ln) (cp := cp) W 41).block ((alc0 (W.alloc (.cells #[.int .i64 k, .int .i64 t, .int .i64 a, .int .i64 b, .int .i64 v, .int .i64 n, .int .i64 mm, .slice P ln cp] 41)) (.cells #[.int .i64 0, .int .i64 0, .int .i64 0, .int .i64 0, .int .i64 0] 52)).block W.heap.size (by simp))
    rw [hwb] at h9
    exact h9
  rw [hwb]
  have HMB := Lib.hid (H.out.below hbb)
  have c8 := HMB.out.cf.2.2.2.2.2.2.2.2.1
  have HYB := Lib.hid hyb
  have HBB := Lib.hid hbb
  have HOB := Lib.hid hob
  obtain ⟨x0, x1, x2, x3, x4, x5, x6, x7⟩ := hob
  clear hwb hbb hyb
  go_wp2_with fail
  refine (mthread_yes t HMB.out ht).mono ?_
  rintro e w1 ⟨rfl, rfl⟩
  obtain ⟨y0, z0⟩ := HYB.out 0 (by decide)
  obtain ⟨y1, z1⟩ := HYB.out 1 (by decide)
  obtain ⟨y2, z2⟩ := HYB.out 2 (by decide)
  obtain ⟨y3, z3⟩ := HYB.out 3 (by decide)
  obtain ⟨y4, z4⟩ := HYB.out 4 (by decide)
  go_wp2_with fail
  refine bodyPost_ret (v := .tuple #[z5, rE 1]) (by simp [results, Try.results40, go_sem, y0, y1, y2, y3, y4]) rfl ⟨rfl, ?_⟩
  exact HBB.out |>.setCell (p := ⟨W.heap.size + 1, 0, none⟩) (show W.heap.size ≤ W.heap.size + 1 by omega) _ |>.setCell (p := ⟨W.heap.size + 1, 1, none⟩) (show W.heap.size ≤ W.heap.size + 1 by omega) _ |>.setCell (p := ⟨W.heap.size + 1, 2, none⟩) (show W.heap.size ≤ W.heap.size + 1 by omega) _ |>.setCell (p := ⟨W.heap.size + 1, 3, none⟩) (show W.heap.size ≤ W.heap.size + 1 by omega) _ |>.setCell (p := ⟨W.heap.size + 1, 4, none⟩) (show W.heap.size ≤ W.heap.size + 1 by omega) _
theorem mcal_b (k : Int) (t a b v n mm : Int) (P : Option Addr) (ln cp : Nat) (full : Bool) (h : MO m mb r C md ch rs W) (ht : 0 ≤ t ∧ t < C.th) (hn : ¬ n < 1) (hm1 : ¬ mm < 1) (hq : C.mo / n < mm) : Calls Try.prog 40 #[.pointer (some ⟨m, 0, none⟩), opv k t a b v n mm P ln cp, .bool full] W fun e w' => e = .returned (.tuple #[z5, rE 4]) ∧ Below W.heap.size W w' := by
  obtain ⟨Q, hQ⟩ : ∃ Q, C.mo / n = Q := ⟨_, rfl⟩
  rw [hQ] at hq
  have hq2 : mm > Q := hq
  obtain ⟨hmo0, hmo1⟩ := h.ok.1.2.1
  have hT : C.mo.tdiv n = Q := (Int.tdiv_eq_ediv_of_nonneg hmo0).trans hQ
  have hQ0 : 0 ≤ Q := by rw [← hQ]; exact Int.ediv_nonneg hmo0 (by omega)
  have hQ1 : Q ≤ 8000 := by
    have h8 := Int.ediv_le_self n hmo0
    omega
  have hQw : wrap64 Q = Q := by unfold wrap64; omega
  clear hQ
  have hn0 : ¬ n = 0 := by omega
  have H := Lib.hid h
  have hm := h.lt.1
  have hmm := h.mp.lt
  have hr := h.lt.2.1
  have hok := h.ok.1
  have hmd := h.ok.2.2
  clear h
  go_enter Try.func40, Try.ntmps40
  go_upto_region 1 with (fail)
  obtain ⟨wb, hwb⟩ : ∃ wb, (W.alloc (.cells #[.int .i64 k, .int .i64 t, .int .i64 a, .int .i64 b, .int .i64 v, .int .i64 n, .int .i64 mm, .slice P ln cp] 41)).alloc (.cells #[.int .i64 0, .int .i64 0, .int .i64 0, .int .i64 0, .int .i64 0] 52) = wb := ⟨_, rfl⟩
  have hbb : Below W.heap.size W wb := by rw [← hwb]; exact alc (alc0 _ _) _
  have hsb : wb.heap.size = W.heap.size + 2 := by rw [← hwb, World.size_alloc, World.size_alloc]
  have hyb : YC (W.heap.size + 1) wb := by
    have h9 := yc_new (W.alloc (.cells #[.int .i64 k, .int .i64 t, .int .i64 a, .int .i64 b, .int .i64 v, .int .i64 n, .int .i64 mm, .slice P ln cp] 41)) 52
    rw [World.size_alloc, hwb] at h9
    exact h9
  have hob : OC W.heap.size k t a b v n mm P ln cp wb := by
    have h9 := (oc_new (k := k) (t := t) (a := a) (b := b) (v := v) (n := n) (mm := mm) (P := P) (ln := ln) (cp := cp) W 41).block ((alc0 (W.alloc (.cells #[.int .i64 k, .int .i64 t, .int .i64 a, .int .i64 b, .int .i64 v, .int .i64 n, .int .i64 mm, .slice P ln cp] 41)) (.cells #[.int .i64 0, .int .i64 0, .int .i64 0, .int .i64 0, .int .i64 0] 52)).block W.heap.size (by simp))
    rw [hwb] at h9
    exact h9
  rw [hwb]
  have HMB := Lib.hid (H.out.below hbb)
  have c8 := HMB.out.cf.2.2.2.2.2.2.2.2.1
  have HYB := Lib.hid hyb
  have HBB := Lib.hid hbb
  have HOB := Lib.hid hob
  obtain ⟨x0, x1, x2, x3, x4, x5, x6, x7⟩ := hob
  clear hwb hbb hyb
  go_wp2_with fail
  refine (mthread_yes t HMB.out ht).mono ?_
  rintro e w1 ⟨rfl, rfl⟩
  go_upto_region 3 with (fail)
  go_region
  obtain ⟨y0, z0⟩ := HYB.out 0 (by decide)
  obtain ⟨y1, z1⟩ := HYB.out 1 (by decide)
  obtain ⟨y2, z2⟩ := HYB.out 2 (by decide)
  obtain ⟨y3, z3⟩ := HYB.out 3 (by decide)
  obtain ⟨y4, z4⟩ := HYB.out 4 (by decide)
  go_wp2_with fail
  refine bodyPost_ret (v := .tuple #[z5, rE 4]) (by simp [results, Try.results40, go_sem, y0, y1, y2, y3, y4]) rfl ⟨rfl, ?_⟩
  exact (HBB.out |>.setCell (p := ⟨W.heap.size + 1, 0, none⟩) (show W.heap.size ≤ W.heap.size + 1 by omega) _ |>.setCell (p := ⟨W.heap.size + 1, 1, none⟩) (show W.heap.size ≤ W.heap.size + 1 by omega) _ |>.setCell (p := ⟨W.heap.size + 1, 2, none⟩) (show W.heap.size ≤ W.heap.size + 1 by omega) _ |>.setCell (p := ⟨W.heap.size + 1, 3, none⟩) (show W.heap.size ≤ W.heap.size + 1 by omega) _ |>.setCell (p := ⟨W.heap.size + 1, 4, none⟩) (show W.heap.size ≤ W.heap.size + 1 by omega) _).drew
theorem mcal_g (k : Int) (t a b v n mm : Int) (P : Option Addr) (ln cp : Nat) (full : Bool) (h : MO m mb r C md ch rs W) (ht : 0 ≤ t ∧ t < C.th) (hn : ¬ n < 1) (hm1 : ¬ mm < 1) (hq : ¬ C.mo / n < mm) (hfull : full = true) : Calls Try.prog 40 #[.pointer (some ⟨m, 0, none⟩), opv k t a b v n mm P ln cp, .bool full] W fun e w' => e = .returned (.tuple #[z5, rE 13]) ∧ Below W.heap.size W w' := by
  have hq2 : ¬ mm > C.mo / n := hq
  have hn0 : ¬ n = 0 := by omega
  have hpr := cal_prod (show 1 ≤ n by omega) (show 1 ≤ mm by omega) hq h.ok.1.2.1.1
  have hE : askE C t (n * mm) full = 13 := by unfold askE; rw [if_neg (by omega), if_neg (by omega), hfull]; rfl
  have HE := Lib.hid hE
  obtain ⟨pp, hpp⟩ : ∃ pp, n * mm = pp := ⟨_, rfl⟩
  rw [hpp] at hpr HE
  have hmo := h.ok.1.2.1.2
  clear hE hq hfull
  have H := Lib.hid h
  have hm := h.lt.1
  have hmm := h.mp.lt
  have hr := h.lt.2.1
  have hok := h.ok.1
  have hmd := h.ok.2.2
  clear h
  go_enter Try.func40, Try.ntmps40
  go_upto_region 1 with (fail)
  obtain ⟨wb, hwb⟩ : ∃ wb, (W.alloc (.cells #[.int .i64 k, .int .i64 t, .int .i64 a, .int .i64 b, .int .i64 v, .int .i64 n, .int .i64 mm, .slice P ln cp] 41)).alloc (.cells #[.int .i64 0, .int .i64 0, .int .i64 0, .int .i64 0, .int .i64 0] 52) = wb := ⟨_, rfl⟩
  have hbb : Below W.heap.size W wb := by rw [← hwb]; exact alc (alc0 _ _) _
  have hsb : wb.heap.size = W.heap.size + 2 := by rw [← hwb, World.size_alloc, World.size_alloc]
  have hyb : YC (W.heap.size + 1) wb := by
    have h9 := yc_new (W.alloc (.cells #[.int .i64 k, .int .i64 t, .int .i64 a, .int .i64 b, .int .i64 v, .int .i64 n, .int .i64 mm, .slice P ln cp] 41)) 52
    rw [World.size_alloc, hwb] at h9
    exact h9
  have hob : OC W.heap.size k t a b v n mm P ln cp wb := by
    have h9 := (oc_new (k := k) (t := t) (a := a) (b := b) (v := v) (n := n) (mm := mm) (P := P) (ln := ln) (cp := cp) W 41).block ((alc0 (W.alloc (.cells #[.int .i64 k, .int .i64 t, .int .i64 a, .int .i64 b, .int .i64 v, .int .i64 n, .int .i64 mm, .slice P ln cp] 41)) (.cells #[.int .i64 0, .int .i64 0, .int .i64 0, .int .i64 0, .int .i64 0] 52)).block W.heap.size (by simp))
    rw [hwb] at h9
    exact h9
  rw [hwb]
  have HMB := Lib.hid (H.out.below hbb)
  have c8 := HMB.out.cf.2.2.2.2.2.2.2.2.1
  have HYB := Lib.hid hyb
  have HBB := Lib.hid hbb
  have HOB := Lib.hid hob
  obtain ⟨x0, x1, x2, x3, x4, x5, x6, x7⟩ := hob
  clear hwb hbb hyb
  go_wp2_with fail
  refine (mthread_yes t HMB.out ht).mono ?_
  rintro e w1 ⟨rfl, rfl⟩
  go_upto_region 3 with (fail)
  go_region
  go_wp2_with fail
  refine (mget_err t 1 pp 0 full (HMB.out.below (Below.refl _ wb).drew) malB1 (by rw [HE.out]; decide)).mono ?_
  rw [HE.out]
  rintro e w3 ⟨rfl, hb3⟩
  have HB3 := Lib.hid (HBB.out.drew.trans (hb3.mono HBB.out.size))
  have hyc3 := HYB.out.block (W' := w3) (hb3.block (W.heap.size + 1) (by show W.heap.size + 1 < wb.heap.size; omega))
  obtain ⟨y0, z0⟩ := hyc3 0 (by decide)
  obtain ⟨y1, z1⟩ := hyc3 1 (by decide)
  obtain ⟨y2, z2⟩ := hyc3 2 (by decide)
  obtain ⟨y3, z3⟩ := hyc3 3 (by decide)
  obtain ⟨y4, z4⟩ := hyc3 4 (by decide)
  clear hb3 hyc3
  go_wp2_with fail
  refine bodyPost_ret (v := .tuple #[z5, rE 13]) (by simp [results, Try.results40, go_sem, y0, y1, y2, y3, y4]) rfl ⟨rfl, ?_⟩
  exact HB3.out |>.setCell (p := ⟨W.heap.size + 1, 0, none⟩) (show W.heap.size ≤ W.heap.size + 1 by omega) _ |>.setCell (p := ⟨W.heap.size + 1, 1, none⟩) (show W.heap.size ≤ W.heap.size + 1 by omega) _ |>.setCell (p := ⟨W.heap.size + 1, 2, none⟩) (show W.heap.size ≤ W.heap.size + 1 by omega) _ |>.setCell (p := ⟨W.heap.size + 1, 3, none⟩) (show W.heap.size ≤ W.heap.size + 1 by omega) _ |>.setCell (p := ⟨W.heap.size + 1, 4, none⟩) (show W.heap.size ≤ W.heap.size + 1 by omega) _
set_option maxHeartbeats 1600000 in
theorem mcal_ok (k : Int) (t a b v n mm : Int) (P : Option Addr) (ln cp : Nat) (full : Bool) (p : Nat) (hp : n * mm = (p : Int)) (hk : ∀ e ∈ ch, e.1 ≤ md) (hmd9 : md < 1000) (h : MO m mb r C md ch rs W) (ht : 0 ≤ t ∧ t < C.th) (hn : ¬ n < 1) (hm1 : ¬ mm < 1) (hq : ¬ C.mo / n < mm) (hfull : full = false) : Calls Try.prog 40 #[.pointer (some ⟨m, 0, none⟩), opv k t a b v n mm P ln cp, .bool full] W fun e w' => e = .returned (.tuple #[.agg #[.int .i64 ((md : Int) + 1), .int .i64 0, .int .i64 (p : Int), .int .i64 0, .int .i64 31], rE 0]) ∧ GP m mb r C md ch rs p 0 W w' := by
  subst hfull
  have hq2 : ¬ mm > C.mo / n := hq
  have hn0 : ¬ n = 0 := by omega
  have hpr := cal_prod (show 1 ≤ n by omega) (show 1 ≤ mm by omega) hq h.ok.1.2.1.1
  rw [hp] at hpr
  have hE : askE C t p false = 0 := by unfold askE; rw [if_neg (by omega), if_neg (by omega)]; rfl
  have HE := Lib.hid hE
  have hmo := h.ok.1.2.1.2
  have HK := Lib.hid hk
  clear hE hq hk
  have H := Lib.hid h
  have hm := h.lt.1
  have hmm := h.mp.lt
  have hr := h.lt.2.1
  have hok := h.ok.1
  have hmd := h.ok.2.2
  clear h
  go_enter Try.func40, Try.ntmps40
  go_upto_region 1 with (fail)
  obtain ⟨wb, hwb⟩ : ∃ wb, (W.alloc (.cells #[.int .i64 k, .int .i64 t, .int .i64 a, .int .i64 b, .int .i64 v, .int .i64 n, .int .i64 mm, .slice P ln cp] 41)).alloc (.cells #[.int .i64 0, .int .i64 0, .int .i64 0, .int .i64 0, .int .i64 0] 52) = wb := ⟨_, rfl⟩
  have hbb : Below W.heap.size W wb := by rw [← hwb]; exact alc (alc0 _ _) _
  have hsb : wb.heap.size = W.heap.size + 2 := by rw [← hwb, World.size_alloc, World.size_alloc]
  have hyb : YC (W.heap.size + 1) wb := by
    have h9 := yc_new (W.alloc (.cells #[.int .i64 k, .int .i64 t, .int .i64 a, .int .i64 b, .int .i64 v, .int .i64 n, .int .i64 mm, .slice P ln cp] 41)) 52
    rw [World.size_alloc, hwb] at h9
    exact h9
  have hob : OC W.heap.size k t a b v n mm P ln cp wb := by
    have h9 := (oc_new (k := k) (t := t) (a := a) (b := b) (v := v) (n := n) (mm := mm) (P := P) (ln := ln) (cp := cp) W 41).block ((alc0 (W.alloc (.cells #[.int .i64 k, .int .i64 t, .int .i64 a, .int .i64 b, .int .i64 v, .int .i64 n, .int .i64 mm, .slice P ln cp] 41)) (.cells #[.int .i64 0, .int .i64 0, .int .i64 0, .int .i64 0, .int .i64 0] 52)).block W.heap.size (by simp))
    rw [hwb] at h9
    exact h9
  rw [hwb]
  have HMB := Lib.hid (H.out.below hbb)
  have c8 := HMB.out.cf.2.2.2.2.2.2.2.2.1
  have HYB := Lib.hid hyb
  have HBB := Lib.hid hbb
  have HOB := Lib.hid hob
  obtain ⟨x0, x1, x2, x3, x4, x5, x6, x7⟩ := hob
  clear hwb hbb hyb
  go_wp2_with fail
  refine (mthread_yes t HMB.out ht).mono ?_
  rintro e w1 ⟨rfl, rfl⟩
  go_upto_region 3 with (fail)
  go_region
  go_wp2_with fail
  refine (mget_ok t 1 0 p (HMB.out.below (Below.refl _ wb).drew) HK.out hmd9 malB1 HE.out).mono ?_
  rintro e w3 ⟨rfl, hgp⟩
  obtain ⟨hq9, hs9, hk9, hl9⟩ := hgp
  have hyc3 := HYB.out.block (W' := w3) (hk9 (W.heap.size + 1) (by show W.heap.size + 1 < wb.heap.size; omega) (by omega) (by omega))
  have HGP := Lib.hid (show GP m mb r C md ch rs p 0 wb.drew w3 from ⟨hq9, hs9, hk9, hl9⟩)
  obtain ⟨y0, z0⟩ := hyc3 0 (by decide)
  obtain ⟨y1, z1⟩ := hyc3 1 (by decide)
  obtain ⟨y2, z2⟩ := hyc3 2 (by decide)
  obtain ⟨y3, z3⟩ := hyc3 3 (by decide)
  obtain ⟨y4, z4⟩ := hyc3 4 (by decide)
  clear hyc3 hq9 hs9 hk9 hl9
  go_wp2_with fail
  refine bodyPost_ret (v := .tuple #[.agg #[.int .i64 ((md : Int) + 1), .int .i64 0, .int .i64 (p : Int), .int .i64 0, .int .i64 31], rE 0]) (by simp [results, Try.results40, go_sem, y0, y1, y2, y3, y4]) rfl ⟨rfl, ?_⟩
  obtain ⟨g1, g2, g3⟩ := set5 w3 (W.heap.size + 1) _ _ _ _ _ _ rfl
  exact HGP.out.lift HBB.out.drew ⟨hm, hmm, hr⟩ (by omega) (by show W.heap.size + 1 < wb.heap.size; omega) g1 g2 (g3 _ (by omega))
end
end Go.Proofs.Ytanmmhbnjmglhaa
