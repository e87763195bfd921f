/- MoG. -/
import Derived.Test.YtanmmhbnjmglhaaZ12
import Derived.Test.YtanmmhbnjmglhaaZ04
import Derived.Deep.RegionHeld3
namespace Go.Proofs.Ytanmmhbnjmglhaa
set_option maxRecDepth 100000
open Go.RowKit Go.ChangeMaps Go.MapKept
set_option linter.unusedVariables false
set_option linter.unusedSimpArgs false
/-- A zero capability's box, that may be written. -/
def YC (B : Nat) (W : World) : Prop := ∀ o, o < 5 → W.cell? ⟨B, o, none⟩ = some (.int .i64 0) ∧ W.frozen? ⟨B, o, none⟩ = false
theorem YC.block {B : Nat} {W W' : World} (h : YC B W) (hk : W'.heap[B]? = W.heap[B]?) : YC B W' := fun o ho => ⟨(World.cell?_of_block hk).trans (h o ho).1, (World.frozen?_of_block hk).trans (h o ho).2⟩
theorem YC.below {B : Nat} {W W' : World} (h : YC B W) (hB : B < W.heap.size) (hb : Below W.heap.size W W') : YC B W' := h.block (hb.block B hB)
theorem yc_new (W : World) (T : TypeId) : YC W.heap.size (W.alloc (.cells #[.int .i64 0, .int .i64 0, .int .i64 0, .int .i64 0, .int .i64 0] T)) := fun o ho => by
  refine ⟨?_, by simp⟩
  rcases o with _ | _ | _ | _ | _ | o <;> first | omega | simp
/-- A thing's box. -/
def OC (B : Nat) (k t a b v n mm : Int) (P : Option Addr) (ln cp : Nat) (W : World) : Prop := W.cell? ⟨B, 0, none⟩ = some (.int .i64 k) ∧ W.cell? ⟨B, 1, none⟩ = some (.int .i64 t) ∧ W.cell? ⟨B, 2, none⟩ = some (.int .i64 a) ∧ W.cell? ⟨B, 3, none⟩ = some (.int .i64 b) ∧ W.cell? ⟨B, 4, none⟩ = some (.int .i64 v) ∧ W.cell? ⟨B, 5, none⟩ = some (.int .i64 n) ∧ W.cell? ⟨B, 6, none⟩ = some (.int .i64 mm) ∧ W.cell? ⟨B, 7, none⟩ = some (.slice P ln cp)
section
variable {k t a b v n mm : Int} {P : Option Addr} {ln cp B : Nat} {W W' : World}
theorem OC.block (h : OC B k t a b v n mm P ln cp W) (hk : W'.heap[B]? = W.heap[B]?) : OC B k t a b v n mm P ln cp W' := by
  obtain ⟨h0, h1, h2, h3, h4, h5, h6, h7⟩ := h
  exact ⟨(World.cell?_of_block hk).trans h0, (World.cell?_of_block hk).trans h1, (World.cell?_of_block hk).trans h2, (World.cell?_of_block hk).trans h3, (World.cell?_of_block hk).trans h4, (World.cell?_of_block hk).trans h5, (World.cell?_of_block hk).trans h6, (World.cell?_of_block hk).trans h7⟩
theorem oc_new (W : World) (T : TypeId) : OC W.heap.size k t a b v n mm P ln cp (W.alloc (.cells #[.int .i64 k, .int .i64 t, .int .i64 a, .int .i64 b, .int .i64 v, .int .i64 n, .int .i64 mm, .slice P ln cp] T)) := ⟨by simp, by simp, by simp, by simp, by simp, by simp, by simp, by simp⟩
end
section
variable {m mb r : Nat} {C : Cf} {md : Nat} {ch : List (Int × Nat)} {rs : List Rf} {W : World}
def reE (C : Cf) (t n : Int) : Int := if t < 0 ∨ C.th ≤ t ∨ n < 1 then 1 else if C.mo < n then 4 else 7
theorem mrealloc (t n : Int) (full : Bool) (h : MO m mb r C md ch rs W) : Calls Try.prog 42 #[.pointer (some ⟨m, 0, none⟩), .int .i64 t, z5, .int .i64 n, .bool full] W fun e w' => e = .returned (.tuple #[z5, rE (reE C t n)]) ∧ Below W.heap.size W w' := by
  have H2 := Lib.hid (fun o1 o2 => h.below (alc (alc0 W o1) o2))
  have hm := h.lt.1
  have c8 := h.cf.2.2.2.2.2.2.2.2.1
  clear h
  by_cases ht : 0 ≤ t ∧ t < C.th
  · by_cases hn : n < 1
    · have hE : reE C t n = 1 := by unfold reE; rw [if_pos (.inr (.inr hn))]
      rw [hE]
      clear hE
      go_enter Try.func42, Try.ntmps42
      go_wp2_with fail
      refine (mthread_yes t (H2.out _ _) ht).mono ?_
      rintro e w1 ⟨rfl, rfl⟩
      go_wp2_with fail
      refine bodyPost_ret (v := .tuple #[z5, rE 1]) (by simp [results, Try.results42, go_sem]) rfl ⟨rfl, alc (alc0 _ _) _⟩
    · by_cases hb : C.mo < n
      · have hE : reE C t n = 4 := by unfold reE; rw [if_neg (by omega), if_pos hb]
        rw [hE]
        have hb2 : n > C.mo := hb
        clear hE
        go_enter Try.func42, Try.ntmps42
        go_wp2_with fail
        refine (mthread_yes t (H2.out _ _) ht).mono ?_
        rintro e w1 ⟨rfl, rfl⟩
        go_wp2_with fail
        refine bodyPost_ret (v := .tuple #[z5, rE 4]) (by simp [results, Try.results42, go_sem]) rfl ⟨rfl, alc (alc0 _ _) _⟩
      · have hE : reE C t n = 7 := by unfold reE; rw [if_neg (by omega), if_neg hb]
        rw [hE]
        have hb2 : ¬ n > C.mo := hb
        clear hE
        go_enter Try.func42, Try.ntmps42
        go_wp2_with fail
        refine (mthread_yes t (H2.out _ _) ht).mono ?_
        rintro e w1 ⟨rfl, rfl⟩
        go_wp2_with fail
        refine (mwhole0 _ _).mono ?_
        rintro e w1 ⟨rfl, hb1⟩
        have hyc := (yc_new (W.alloc (.cells #[.int .i64 0, .int .i64 0, .int .i64 0, .int .i64 0, .int .i64 0] 52)) 52).below (by simp) hb1
        rw [World.size_alloc] at hyc
        obtain ⟨y0, z0⟩ := hyc 0 (by decide)
        obtain ⟨y1, z1⟩ := hyc 1 (by decide)
        obtain ⟨y2, z2⟩ := hyc 2 (by decide)
        obtain ⟨y3, z3⟩ := hyc 3 (by decide)
        obtain ⟨y4, z4⟩ := hyc 4 (by decide)
        have HB1 := Lib.hid ((alc (alc0 W _) _).trans (hb1.mono (by simp <;> omega)))
        clear hb1 hyc
        go_wp2_with fail
        refine bodyPost_ret (v := .tuple #[z5, rE 7]) (by simp [results, Try.results42, go_sem, y0, y1, y2, y3, y4]) rfl ⟨rfl, ?_⟩
        exact HB1.out |>.setCell (p := ⟨W.heap.size + 1, 0, none⟩) (show W.heap.size ≤ W.heap.size + 1 by omega) _ |>.setCell (p := ⟨W.heap.size + 1, 1, none⟩) (show W.heap.size ≤ W.heap.size + 1 by omega) _ |>.setCell (p := ⟨W.heap.size + 1, 2, none⟩) (show W.heap.size ≤ W.heap.size + 1 by omega) _ |>.setCell (p := ⟨W.heap.size + 1, 3, none⟩) (show W.heap.size ≤ W.heap.size + 1 by omega) _ |>.setCell (p := ⟨W.heap.size + 1, 4, none⟩) (show W.heap.size ≤ W.heap.size + 1 by omega) _
  · have hE : reE C t n = 1 := by unfold reE; rw [if_pos (by omega)]
    rw [hE]
    clear hE
    go_enter Try.func42, Try.ntmps42
    go_wp2_with fail
    refine (mthread_no t (H2.out _ _) (by omega)).mono ?_
    rintro e w1 ⟨rfl, rfl⟩
    go_wp2_with fail
    refine bodyPost_ret (v := .tuple #[z5, rE 1]) (by simp [results, Try.results42, go_sem]) rfl ⟨rfl, alc (alc0 _ _) _⟩
end
section
variable {m mb r : Nat} {C : Cf} {md : Nat} {rs : List Rf} {W : World}
theorem mcome7 (t a b v n mm : Int) (P : Option Addr) (ln cp : Nat) (full : Bool) (h : MO m mb r C md [] rs W) : Calls Try.prog 24 #[.pointer (some ⟨m, 0, none⟩), opv 7 t a b v n mm P ln cp, .bool full] W fun e w' => e = .returned (.tuple #[z5, rE 7]) ∧ Below W.heap.size W w' := by
  have H := Lib.hid h
  have hm := h.lt.1
  clear h
  go_enter Try.func24, Try.ntmps24
  go_wp2_with fail
  refine (mgetd b (H.out.below (alc (alc0 W _) _))).mono ?_
  rintro e w1 ⟨rfl, hb1⟩
  have hoc := (oc_new (k := 7) (t := t) (a := a) (b := b) (v := v) (n := n) (mm := mm) (P := P) (ln := ln) (cp := cp) W 41).block (W' := w1) ((hb1.block _ (by simp <;> omega)).trans ((alc0 _ _).block _ (by simp)))
  have hyc := (yc_new (W.alloc (.cells #[.int .i64 7, .int .i64 t, .int .i64 a, .int .i64 b, .int .i64 v, .int .i64 n, .int .i64 mm, .slice P ln cp] 41)) 52).below (by simp) hb1
  rw [World.size_alloc] at hyc
  have HYC := Lib.hid hyc
  have HB1 := Lib.hid ((alc (alc0 W _) _).trans (hb1.mono (by simp <;> omega)))
  have H1 := Lib.hid (H.out.below HB1.out)
  have hs1 : W.heap.size + 2 ≤ w1.heap.size := by have := hb1.size; simpa using this
  have HOC := Lib.hid hoc
  clear hb1 hyc hoc
  go_upto_region 2 with (fail)
  obtain ⟨wb, hwb⟩ : ∃ wb, w1.alloc (.cells #[.int .i64 0, .int .i64 0, .int .i64 0, .int .i64 0, .int .i64 0] 52) = wb := ⟨_, rfl⟩
  have hbb : Below w1.heap.size w1 wb := by rw [← hwb]; exact alc0 _ _
  have hbc : YC w1.heap.size wb := by rw [← hwb]; exact yc_new _ _
  have hsb : wb.heap.size = w1.heap.size + 1 := by rw [← hwb]; exact World.size_alloc _ _
  rw [hwb]
  obtain ⟨x0, x1, x2, x3, x4, x5, x6, x7⟩ := HOC.out.block (hbb.block W.heap.size (by omega))
  have HYB := Lib.hid (HYC.out.block (hbb.block (W.heap.size + 1) (by omega)))
  have HBB := Lib.hid (thn HB1.out hbb)
  have HMB := Lib.hid (H1.out.below hbb)
  obtain ⟨b0, -⟩ := hbc 0 (by decide)
  obtain ⟨b1, -⟩ := hbc 1 (by decide)
  obtain ⟨b2, -⟩ := hbc 2 (by decide)
  obtain ⟨b3, -⟩ := hbc 3 (by decide)
  obtain ⟨b4, -⟩ := hbc 4 (by decide)
  clear hwb hbb hbc HOC HYC HB1 H1
  go_wp2_with fail
  refine (mbounds0 n _).mono ?_
  rintro e w3 ⟨rfl, hb3⟩
  have hyc3 := HYB.out.below (W' := w3) (by omega) hb3
  have HB3 := Lib.hid (thn HBB.out hb3)
  obtain ⟨y0, z0⟩ := hyc3 0 (by decide)
  obtain ⟨y1, z1⟩ := hyc3 1 (by decide)
  obtain ⟨y2, z2⟩ := hyc3 2 (by decide)
  obtain ⟨y3, z3⟩ := hyc3 3 (by decide)
  obtain ⟨y4, z4⟩ := hyc3 4 (by decide)
  clear hb3 hyc3
  go_wp2_with fail
  refine bodyPost_ret (v := .tuple #[z5, rE 7]) (by simp [results, Try.results24, go_sem, y0, y1, y2, y3, y4]) rfl ⟨rfl, ?_⟩
  exact HB3.out |>.setCell (p := ⟨W.heap.size + 1, 0, none⟩) (show W.heap.size ≤ W.heap.size + 1 by omega) _ |>.setCell (p := ⟨W.heap.size + 1, 1, none⟩) (show W.heap.size ≤ W.heap.size + 1 by omega) _ |>.setCell (p := ⟨W.heap.size + 1, 2, none⟩) (show W.heap.size ≤ W.heap.size + 1 by omega) _ |>.setCell (p := ⟨W.heap.size + 1, 3, none⟩) (show W.heap.size ≤ W.heap.size + 1 by omega) _ |>.setCell (p := ⟨W.heap.size + 1, 4, none⟩) (show W.heap.size ≤ W.heap.size + 1 by omega) _
theorem mcome8 (t a b v n mm : Int) (P : Option Addr) (ln cp : Nat) (full : Bool) (h : MO m mb r C md [] rs W) : Calls Try.prog 24 #[.pointer (some ⟨m, 0, none⟩), opv 8 t a b v n mm P ln cp, .bool full] W fun e w' => e = .returned (.tuple #[z5, rE 7]) ∧ Below W.heap.size W w' := by
  have H := Lib.hid h
  have hm := h.lt.1
  clear h
  go_enter Try.func24, Try.ntmps24
  go_wp2_with fail
  refine (mgetd b (H.out.below (alc (alc0 W _) _))).mono ?_
  rintro e w1 ⟨rfl, hb1⟩
  have hoc := (oc_new (k := 8) (t := t) (a := a) (b := b) (v := v) (n := n) (mm := mm) (P := P) (ln := ln) (cp := cp) W 41).block (W' := w1) ((hb1.block _ (by simp <;> omega)).trans ((alc0 _ _).block _ (by simp)))
  have hyc := (yc_new (W.alloc (.cells #[.int .i64 8, .int .i64 t, .int .i64 a, .int .i64 b, .int .i64 v, .int .i64 n, .int .i64 mm, .slice P ln cp] 41)) 52).below (by simp) hb1
  rw [World.size_alloc] at hyc
  have HYC := Lib.hid hyc
  have HB1 := Lib.hid ((alc (alc0 W _) _).trans (hb1.mono (by simp <;> omega)))
  have H1 := Lib.hid (H.out.below HB1.out)
  have hs1 : W.heap.size + 2 ≤ w1.heap.size := by have := hb1.size; simpa using this
  have HOC := Lib.hid hoc
  clear hb1 hyc hoc
  go_upto_region 2 with (fail)
  obtain ⟨wb, hwb⟩ : ∃ wb, w1.alloc (.cells #[.int .i64 0, .int .i64 0, .int .i64 0, .int .i64 0, .int .i64 0] 52) = wb := ⟨_, rfl⟩
  have hbb : Below w1.heap.size w1 wb := by rw [← hwb]; exact alc0 _ _
  have hbc : YC w1.heap.size wb := by rw [← hwb]; exact yc_new _ _
  have hsb : wb.heap.size = w1.heap.size + 1 := by rw [← hwb]; exact World.size_alloc _ _
  rw [hwb]
  obtain ⟨x0, x1, x2, x3, x4, x5, x6, x7⟩ := HOC.out.block (hbb.block W.heap.size (by omega))
  have HYB := Lib.hid (HYC.out.block (hbb.block (W.heap.size + 1) (by omega)))
  have HBB := Lib.hid (thn HB1.out hbb)
  have HMB := Lib.hid (H1.out.below hbb)
  obtain ⟨b0, -⟩ := hbc 0 (by decide)
  obtain ⟨b1, -⟩ := hbc 1 (by decide)
  obtain ⟨b2, -⟩ := hbc 2 (by decide)
  obtain ⟨b3, -⟩ := hbc 3 (by decide)
  obtain ⟨b4, -⟩ := hbc 4 (by decide)
  clear hwb hbb hbc HOC HYC HB1 H1
  go_wp2_with fail
  refine (mdrop0 n _).mono ?_
  rintro e w3 ⟨rfl, hb3⟩
  have hyc3 := HYB.out.below (W' := w3) (by omega) hb3
  have HB3 := Lib.hid (thn HBB.out hb3)
  obtain ⟨y0, z0⟩ := hyc3 0 (by decide)
  obtain ⟨y1, z1⟩ := hyc3 1 (by decide)
  obtain ⟨y2, z2⟩ := hyc3 2 (by decide)
  obtain ⟨y3, z3⟩ := hyc3 3 (by decide)
  obtain ⟨y4, z4⟩ := hyc3 4 (by decide)
  clear hb3 hyc3
  go_wp2_with fail
  refine bodyPost_ret (v := .tuple #[z5, rE 7]) (by simp [results, Try.results24, go_sem, y0, y1, y2, y3, y4]) rfl ⟨rfl, ?_⟩
  exact HB3.out |>.setCell (p := ⟨W.heap.size + 1, 0, none⟩) (show W.heap.size ≤ W.heap.size + 1 by omega) _ |>.setCell (p := ⟨W.heap.size + 1, 1, none⟩) (show W.heap.size ≤ W.heap.size + 1 by omega) _ |>.setCell (p := ⟨W.heap.size + 1, 2, none⟩) (show W.heap.size ≤ W.heap.size + 1 by omega) _ |>.setCell (p := ⟨W.heap.size + 1, 3, none⟩) (show W.heap.size ≤ W.heap.size + 1 by omega) _ |>.setCell (p := ⟨W.heap.size + 1, 4, none⟩) (show W.heap.size ≤ W.heap.size + 1 by omega) _
theorem mcome9 (t a b v n mm : Int) (P : Option Addr) (ln cp : Nat) (full : Bool) (h : MO m mb r C md [] rs W) : Calls Try.prog 24 #[.pointer (some ⟨m, 0, none⟩), opv 9 t a b v n mm P ln cp, .bool full] W fun e w' => e = .returned (.tuple #[z5, rE 7]) ∧ Below W.heap.size W w' := by
  have H := Lib.hid h
  have hm := h.lt.1
  clear h
  go_enter Try.func24, Try.ntmps24
  go_wp2_with fail
  refine (mgetd b (H.out.below (alc (alc0 W _) _))).mono ?_
  rintro e w1 ⟨rfl, hb1⟩
  have hoc := (oc_new (k := 9) (t := t) (a := a) (b := b) (v := v) (n := n) (mm := mm) (P := P) (ln := ln) (cp := cp) W 41).block (W' := w1) ((hb1.block _ (by simp <;> omega)).trans ((alc0 _ _).block _ (by simp)))
  have hyc := (yc_new (W.alloc (.cells #[.int .i64 9, .int .i64 t, .int .i64 a, .int .i64 b, .int .i64 v, .int .i64 n, .int .i64 mm, .slice P ln cp] 41)) 52).below (by simp) hb1
  rw [World.size_alloc] at hyc
  have HYC := Lib.hid hyc
  have HB1 := Lib.hid ((alc (alc0 W _) _).trans (hb1.mono (by simp <;> omega)))
  have H1 := Lib.hid (H.out.below HB1.out)
  have hs1 : W.heap.size + 2 ≤ w1.heap.size := by have := hb1.size; simpa using this
  have HOC := Lib.hid hoc
  clear hb1 hyc hoc
  go_upto_region 2 with (fail)
  obtain ⟨wb, hwb⟩ : ∃ wb, w1.alloc (.cells #[.int .i64 0, .int .i64 0, .int .i64 0, .int .i64 0, .int .i64 0] 52) = wb := ⟨_, rfl⟩
  have hbb : Below w1.heap.size w1 wb := by rw [← hwb]; exact alc0 _ _
  have hbc : YC w1.heap.size wb := by rw [← hwb]; exact yc_new _ _
  have hsb : wb.heap.size = w1.heap.size + 1 := by rw [← hwb]; exact World.size_alloc _ _
  rw [hwb]
  obtain ⟨x0, x1, x2, x3, x4, x5, x6, x7⟩ := HOC.out.block (hbb.block W.heap.size (by omega))
  have HYB := Lib.hid (HYC.out.block (hbb.block (W.heap.size + 1) (by omega)))
  have HBB := Lib.hid (thn HB1.out hbb)
  have HMB := Lib.hid (H1.out.below hbb)
  obtain ⟨b0, -⟩ := hbc 0 (by decide)
  obtain ⟨b1, -⟩ := hbc 1 (by decide)
  obtain ⟨b2, -⟩ := hbc 2 (by decide)
  obtain ⟨b3, -⟩ := hbc 3 (by decide)
  obtain ⟨b4, -⟩ := hbc 4 (by decide)
  clear hwb hbb hbc HOC HYC HB1 H1
  go_wp2_with fail
  refine (mmove0 n _).mono ?_
  rintro e w3 ⟨rfl, hb3⟩
  have hyc3 := HYB.out.below (W' := w3) (by omega) hb3
  have HB3 := Lib.hid (thn HBB.out hb3)
  obtain ⟨y0, z0⟩ := hyc3 0 (by decide)
  obtain ⟨y1, z1⟩ := hyc3 1 (by decide)
  obtain ⟨y2, z2⟩ := hyc3 2 (by decide)
  obtain ⟨y3, z3⟩ := hyc3 3 (by decide)
  obtain ⟨y4, z4⟩ := hyc3 4 (by decide)
  clear hb3 hyc3
  go_wp2_with fail
  refine bodyPost_ret (v := .tuple #[z5, rE 7]) (by simp [results, Try.results24, go_sem, y0, y1, y2, y3, y4]) rfl ⟨rfl, ?_⟩
  exact HB3.out |>.setCell (p := ⟨W.heap.size + 1, 0, none⟩) (show W.heap.size ≤ W.heap.size + 1 by omega) _ |>.setCell (p := ⟨W.heap.size + 1, 1, none⟩) (show W.heap.size ≤ W.heap.size + 1 by omega) _ |>.setCell (p := ⟨W.heap.size + 1, 2, none⟩) (show W.heap.size ≤ W.heap.size + 1 by omega) _ |>.setCell (p := ⟨W.heap.size + 1, 3, none⟩) (show W.heap.size ≤ W.heap.size + 1 by omega) _ |>.setCell (p := ⟨W.heap.size + 1, 4, none⟩) (show W.heap.size ≤ W.heap.size + 1 by omega) _
theorem mcome13 (t a b v n mm : Int) (P : Option Addr) (ln cp : Nat) (full : Bool) (h : MO m mb r C md [] rs W) : Calls Try.prog 24 #[.pointer (some ⟨m, 0, none⟩), opv 13 t a b v n mm P ln cp, .bool full] W fun e w' => e = .returned (.tuple #[z5, rE 7]) ∧ Below W.heap.size W w' := by
  have H := Lib.hid h
  have hm := h.lt.1
  clear h
  go_enter Try.func24, Try.ntmps24
  go_wp2_with fail
  refine (mgetd b (H.out.below (alc (alc0 W _) _))).mono ?_
  rintro e w1 ⟨rfl, hb1⟩
  have hoc := (oc_new (k := 13) (t := t) (a := a) (b := b) (v := v) (n := n) (mm := mm) (P := P) (ln := ln) (cp := cp) W 41).block (W' := w1) ((hb1.block _ (by simp <;> omega)).trans ((alc0 _ _).block _ (by simp)))
  have hyc := (yc_new (W.alloc (.cells #[.int .i64 13, .int .i64 t, .int .i64 a, .int .i64 b, .int .i64 v, .int .i64 n, .int .i64 mm, .slice P ln cp] 41)) 52).below (by simp) hb1
  rw [World.size_alloc] at hyc
  have HYC := Lib.hid hyc
  have HB1 := Lib.hid ((alc (alc0 W _) _).trans (hb1.mono (by simp <;> omega)))
  have H1 := Lib.hid (H.out.below HB1.out)
  have hs1 : W.heap.size + 2 ≤ w1.heap.size := by have := hb1.size; simpa using this
  have HOC := Lib.hid hoc
  clear hb1 hyc hoc
  go_upto_region 2 with (fail)
  obtain ⟨wb, hwb⟩ : ∃ wb, w1.alloc (.cells #[.int .i64 0, .int .i64 0, .int .i64 0, .int .i64 0, .int .i64 0] 52) = wb := ⟨_, rfl⟩
  have hbb : Below w1.heap.size w1 wb := by rw [← hwb]; exact alc0 _ _
  have hbc : YC w1.heap.size wb := by rw [← hwb]; exact yc_new _ _
  have hsb : wb.heap.size = w1.heap.size + 1 := by rw [← hwb]; exact World.size_alloc _ _
  rw [hwb]
  obtain ⟨x0, x1, x2, x3, x4, x5, x6, x7⟩ := HOC.out.block (hbb.block W.heap.size (by omega))
  have HYB := Lib.hid (HYC.out.block (hbb.block (W.heap.size + 1) (by omega)))
  have HBB := Lib.hid (thn HB1.out hbb)
  have HMB := Lib.hid (H1.out.below hbb)
  obtain ⟨b0, -⟩ := hbc 0 (by decide)
  obtain ⟨b1, -⟩ := hbc 1 (by decide)
  obtain ⟨b2, -⟩ := hbc 2 (by decide)
  obtain ⟨b3, -⟩ := hbc 3 (by decide)
  obtain ⟨b4, -⟩ := hbc 4 (by decide)
  clear hwb hbb hbc HOC HYC HB1 H1
  go_wp2_with fail
  refine (mload0 _ _).mono ?_
  rintro e w3 ⟨rfl, hb3⟩
  have hyc3 := HYB.out.below (W' := w3) (by omega) hb3
  have HB3 := Lib.hid (thn HBB.out hb3)
  obtain ⟨y0, z0⟩ := hyc3 0 (by decide)
  obtain ⟨y1, z1⟩ := hyc3 1 (by decide)
  obtain ⟨y2, z2⟩ := hyc3 2 (by decide)
  obtain ⟨y3, z3⟩ := hyc3 3 (by decide)
  obtain ⟨y4, z4⟩ := hyc3 4 (by decide)
  clear hb3 hyc3
  go_wp2_with fail
  refine bodyPost_ret (v := .tuple #[z5, rE 7]) (by simp [results, Try.results24, go_sem, y0, y1, y2, y3, y4]) rfl ⟨rfl, ?_⟩
  exact HB3.out |>.setCell (p := ⟨W.heap.size + 1, 0, none⟩) (show W.heap.size ≤ W.heap.size + 1 by omega) _ |>.setCell (p := ⟨W.heap.size + 1, 1, none⟩) (show W.heap.size ≤ W.heap.size + 1 by omega) _ |>.setCell (p := ⟨W.heap.size + 1, 2, none⟩) (show W.heap.size ≤ W.heap.size + 1 by omega) _ |>.setCell (p := ⟨W.heap.size + 1, 3, none⟩) (show W.heap.size ≤ W.heap.size + 1 by omega) _ |>.setCell (p := ⟨W.heap.size + 1, 4, none⟩) (show W.heap.size ≤ W.heap.size + 1 by omega) _
theorem mcome5 (t a b v n mm : Int) (P : Option Addr) (ln cp : Nat) (full : Bool) (h : MO m mb r C md [] rs W) : Calls Try.prog 24 #[.pointer (some ⟨m, 0, none⟩), opv 5 t a b v n mm P ln cp, .bool full] W fun e w' => e = .returned (.tuple #[z5, rE (reE C t n)]) ∧ Below W.heap.size W w' := by
  have H := Lib.hid h
  have hm := h.lt.1
  clear h
  go_enter Try.func24, Try.ntmps24
  go_wp2_with fail
  refine (mgetd b (H.out.below (alc (alc0 W _) _))).mono ?_
  rintro e w1 ⟨rfl, hb1⟩
  have hoc := (oc_new (k := 5) (t := t) (a := a) (b := b) (v := v) (n := n) (mm := mm) (P := P) (ln := ln) (cp := cp) W 41).block (W' := w1) ((hb1.block _ (by simp <;> omega)).trans ((alc0 _ _).block _ (by simp)))
  have hyc := (yc_new (W.alloc (.cells #[.int .i64 5, .int .i64 t, .int .i64 a, .int .i64 b, .int .i64 v, .int .i64 n, .int .i64 mm, .slice P ln cp] 41)) 52).below (by simp) hb1
  rw [World.size_alloc] at hyc
  have HYC := Lib.hid hyc
  have HB1 := Lib.hid ((alc (alc0 W _) _).trans (hb1.mono (by simp <;> omega)))
  have H1 := Lib.hid (H.out.below HB1.out)
  have hs1 : W.heap.size + 2 ≤ w1.heap.size := by have := hb1.size; simpa using this
  have HOC := Lib.hid hoc
  clear hb1 hyc hoc
  go_upto_region 2 with (fail)
  obtain ⟨wb, hwb⟩ : ∃ wb, w1.alloc (.cells #[.int .i64 0, .int .i64 0, .int .i64 0, .int .i64 0, .int .i64 0] 52) = wb := ⟨_, rfl⟩
  have hbb : Below w1.heap.size w1 wb := by rw [← hwb]; exact alc0 _ _
  have hbc : YC w1.heap.size wb := by rw [← hwb]; exact yc_new _ _
  have hsb : wb.heap.size = w1.heap.size + 1 := by rw [← hwb]; exact World.size_alloc _ _
  rw [hwb]
  obtain ⟨x0, x1, x2, x3, x4, x5, x6, x7⟩ := HOC.out.block (hbb.block W.heap.size (by omega))
  have HYB := Lib.hid (HYC.out.block (hbb.block (W.heap.size + 1) (by omega)))
  have HBB := Lib.hid (thn HB1.out hbb)
  have HMB := Lib.hid (H1.out.below hbb)
  obtain ⟨b0, -⟩ := hbc 0 (by decide)
  obtain ⟨b1, -⟩ := hbc 1 (by decide)
  obtain ⟨b2, -⟩ := hbc 2 (by decide)
  obtain ⟨b3, -⟩ := hbc 3 (by decide)
  obtain ⟨b4, -⟩ := hbc 4 (by decide)
  clear hwb hbb hbc HOC HYC HB1 H1
  go_wp2_with fail
  refine (mrealloc t n full HMB.out).mono ?_
  rintro e w3 ⟨rfl, hb3⟩
  have hyc3 := HYB.out.below (W' := w3) (by omega) hb3
  have HB3 := Lib.hid (thn HBB.out hb3)
  obtain ⟨y0, z0⟩ := hyc3 0 (by decide)
  obtain ⟨y1, z1⟩ := hyc3 1 (by decide)
  obtain ⟨y2, z2⟩ := hyc3 2 (by decide)
  obtain ⟨y3, z3⟩ := hyc3 3 (by decide)
  obtain ⟨y4, z4⟩ := hyc3 4 (by decide)
  clear hb3 hyc3
  go_wp2_with fail
  refine bodyPost_ret (v := .tuple #[z5, rE (reE C t n)]) (by simp [results, Try.results24, go_sem, y0, y1, y2, y3, y4]) rfl ⟨rfl, ?_⟩
  exact HB3.out |>.setCell (p := ⟨W.heap.size + 1, 0, none⟩) (show W.heap.size ≤ W.heap.size + 1 by omega) _ |>.setCell (p := ⟨W.heap.size + 1, 1, none⟩) (show W.heap.size ≤ W.heap.size + 1 by omega) _ |>.setCell (p := ⟨W.heap.size + 1, 2, none⟩) (show W.heap.size ≤ W.heap.size + 1 by omega) _ |>.setCell (p := ⟨W.heap.size + 1, 3, none⟩) (show W.heap.size ≤ W.heap.size + 1 by omega) _ |>.setCell (p := ⟨W.heap.size + 1, 4, none⟩) (show W.heap.size ≤ W.heap.size + 1 by omega) _
theorem mcome10 (t a b v n mm : Int) (P : Option Addr) (ln cp : Nat) (full : Bool) (h : MO m mb r C md [] rs W) : Calls Try.prog 24 #[.pointer (some ⟨m, 0, none⟩), opv 10 t a b v n mm P ln cp, .bool full] W fun e w' => e = .returned (.tuple #[z5, rE 0]) ∧ Below W.heap.size W w' := by
  have H := Lib.hid h
  have hm := h.lt.1
  clear h
  go_enter Try.func24, Try.ntmps24
  go_wp2_with fail
  refine (mgetd b (H.out.below (alc (alc0 W _) _))).mono ?_
  rintro e w1 ⟨rfl, hb1⟩
  have hoc := (oc_new (k := 10) (t := t) (a := a) (b := b) (v := v) (n := n) (mm := mm) (P := P) (ln := ln) (cp := cp) W 41).block (W' := w1) ((hb1.block _ (by simp <;> omega)).trans ((alc0 _ _).block _ (by simp)))
  have hyc := (yc_new (W.alloc (.cells #[.int .i64 10, .int .i64 t, .int .i64 a, .int .i64 b, .int .i64 v, .int .i64 n, .int .i64 mm, .slice P ln cp] 41)) 52).below (by simp) hb1
  rw [World.size_alloc] at hyc
  have HYC := Lib.hid hyc
  have HB1 := Lib.hid ((alc (alc0 W _) _).trans (hb1.mono (by simp <;> omega)))
  have H1 := Lib.hid (H.out.below HB1.out)
  have hs1 : W.heap.size + 2 ≤ w1.heap.size := by have := hb1.size; simpa using this
  have HOC := Lib.hid hoc
  clear hb1 hyc hoc
  go_upto_region 2 with (fail)
  obtain ⟨wb, hwb⟩ : ∃ wb, w1.alloc (.cells #[.int .i64 0, .int .i64 0, .int .i64 0, .int .i64 0, .int .i64 0] 52) = wb := ⟨_, rfl⟩
  have hbb : Below w1.heap.size w1 wb := by rw [← hwb]; exact alc0 _ _
  have hbc : YC w1.heap.size wb := by rw [← hwb]; exact yc_new _ _
  have hsb : wb.heap.size = w1.heap.size + 1 := by rw [← hwb]; exact World.size_alloc _ _
  rw [hwb]
  obtain ⟨x0, x1, x2, x3, x4, x5, x6, x7⟩ := HOC.out.block (hbb.block W.heap.size (by omega))
  have HYB := Lib.hid (HYC.out.block (hbb.block (W.heap.size + 1) (by omega)))
  have HBB := Lib.hid (thn HB1.out hbb)
  have HMB := Lib.hid (H1.out.below hbb)
  obtain ⟨b0, -⟩ := hbc 0 (by decide)
  obtain ⟨b1, -⟩ := hbc 1 (by decide)
  obtain ⟨b2, -⟩ := hbc 2 (by decide)
  obtain ⟨b3, -⟩ := hbc 3 (by decide)
  obtain ⟨b4, -⟩ := hbc 4 (by decide)
  clear hwb hbb hbc HOC HYC HB1 H1
  obtain ⟨y0, z0⟩ := HYB.out 0 (by decide)
  obtain ⟨y1, z1⟩ := HYB.out 1 (by decide)
  obtain ⟨y2, z2⟩ := HYB.out 2 (by decide)
  obtain ⟨y3, z3⟩ := HYB.out 3 (by decide)
  obtain ⟨y4, z4⟩ := HYB.out 4 (by decide)
  go_wp2_with fail
  refine bodyPost_ret (v := .tuple #[z5, rE 0]) (by simp [results, Try.results24, go_sem, y0, y1, y2, y3, y4]) rfl ⟨rfl, ?_⟩
  exact HBB.out |>.setCell (p := ⟨W.heap.size + 1, 0, none⟩) (show W.heap.size ≤ W.heap.size + 1 by omega) _ |>.setCell (p := ⟨W.heap.size + 1, 1, none⟩) (show W.heap.size ≤ W.heap.size + 1 by omega) _ |>.setCell (p := ⟨W.heap.size + 1, 2, none⟩) (show W.heap.size ≤ W.heap.size + 1 by omega) _ |>.setCell (p := ⟨W.heap.size + 1, 3, none⟩) (show W.heap.size ≤ W.heap.size + 1 by omega) _ |>.setCell (p := ⟨W.heap.size + 1, 4, none⟩) (show W.heap.size ≤ W.heap.size + 1 by omega) _
theorem mcome18 (t a b v n mm : Int) (P : Option Addr) (ln cp : Nat) (full : Bool) (h : MO m mb r C md [] rs W) : Calls Try.prog 24 #[.pointer (some ⟨m, 0, none⟩), opv 18 t a b v n mm P ln cp, .bool full] W fun e w' => e = .returned (.tuple #[z5, rE 0]) ∧ Below W.heap.size W w' := by
  have H := Lib.hid h
  have hm := h.lt.1
  clear h
  go_enter Try.func24, Try.ntmps24
  go_wp2_with fail
  refine (mgetd b (H.out.below (alc (alc0 W _) _))).mono ?_
  rintro e w1 ⟨rfl, hb1⟩
  have hoc := (oc_new (k := 18) (t := t) (a := a) (b := b) (v := v) (n := n) (mm := mm) (P := P) (ln := ln) (cp := cp) W 41).block (W' := w1) ((hb1.block _ (by simp <;> omega)).trans ((alc0 _ _).block _ (by simp)))
  have hyc := (yc_new (W.alloc (.cells #[.int .i64 18, .int .i64 t, .int .i64 a, .int .i64 b, .int .i64 v, .int .i64 n, .int .i64 mm, .slice P ln cp] 41)) 52).below (by simp) hb1
  rw [World.size_alloc] at hyc
  have HYC := Lib.hid hyc
  have HB1 := Lib.hid ((alc (alc0 W _) _).trans (hb1.mono (by simp <;> omega)))
  have H1 := Lib.hid (H.out.below HB1.out)
  have hs1 : W.heap.size + 2 ≤ w1.heap.size := by have := hb1.size; simpa using this
  have HOC := Lib.hid hoc
  clear hb1 hyc hoc
  go_upto_region 2 with (fail)
  obtain ⟨wb, hwb⟩ : ∃ wb, w1.alloc (.cells #[.int .i64 0, .int .i64 0, .int .i64 0, .int .i64 0, .int .i64 0] 52) = wb := ⟨_, rfl⟩
  have hbb : Below w1.heap.size w1 wb := by rw [← hwb]; exact alc0 _ _
  have hbc : YC w1.heap.size wb := by rw [← hwb]; exact yc_new _ _
  have hsb : wb.heap.size = w1.heap.size + 1 := by rw [← hwb]; exact World.size_alloc _ _
  rw [hwb]
  obtain ⟨x0, x1, x2, x3, x4, x5, x6, x7⟩ := HOC.out.block (hbb.block W.heap.size (by omega))
  have HYB := Lib.hid (HYC.out.block (hbb.block (W.heap.size + 1) (by omega)))
  have HBB := Lib.hid (thn HB1.out hbb)
  have HMB := Lib.hid (H1.out.below hbb)
  obtain ⟨b0, -⟩ := hbc 0 (by decide)
  obtain ⟨b1, -⟩ := hbc 1 (by decide)
  obtain ⟨b2, -⟩ := hbc 2 (by decide)
  obtain ⟨b3, -⟩ := hbc 3 (by decide)
  obtain ⟨b4, -⟩ := hbc 4 (by decide)
  clear hwb hbb hbc HOC HYC HB1 H1
  obtain ⟨y0, z0⟩ := HYB.out 0 (by decide)
  obtain ⟨y1, z1⟩ := HYB.out 1 (by decide)
  obtain ⟨y2, z2⟩ := HYB.out 2 (by decide)
  obtain ⟨y3, z3⟩ := HYB.out 3 (by decide)
  obtain ⟨y4, z4⟩ := HYB.out 4 (by decide)
  go_wp2_with fail
  refine bodyPost_ret (v := .tuple #[z5, rE 0]) (by simp [results, Try.results24, go_sem, y0, y1, y2, y3, y4]) rfl ⟨rfl, ?_⟩
  exact HBB.out |>.setCell (p := ⟨W.heap.size + 1, 0, none⟩) (show W.heap.size ≤ W.heap.size + 1 by omega) _ |>.setCell (p := ⟨W.heap.size + 1, 1, none⟩) (show W.heap.size ≤ W.heap.size + 1 by omega) _ |>.setCell (p := ⟨W.heap.size + 1, 2, none⟩) (show W.heap.size ≤ W.heap.size + 1 by omega) _ |>.setCell (p := ⟨W.heap.size + 1, 3, none⟩) (show W.heap.size ≤ W.heap.size + 1 by omega) _ |>.setCell (p := ⟨W.heap.size + 1, 4, none⟩) (show W.heap.size ≤ W.heap.size + 1 by omega) _
end
end Go.Proofs.Ytanmmhbnjmglhaa
