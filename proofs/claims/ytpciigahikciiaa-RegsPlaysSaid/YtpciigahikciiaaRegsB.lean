/- Contracts of package regs: New, Get. -/
import Derived.Test.YtpciigahikciiaaRegs
import Derived.Deep.CutBlock
import Derived.Deep.DeepCutAuto
namespace Go.Proofs.Ytpciigahikciiaa
open Go.RowKit
set_option linter.unusedVariables false
set_option linter.unusedSimpArgs false

/-- A struct in block x. -/
def CapAt (x : Nat) (W : World) (b : Int) (l : Int) (c : Int) (p : Int) (t : Int) (v : Bool) : Prop :=
  x < W.heap.size ∧ W.cell? ⟨x, 0, none⟩ = some (.int .i64 b) ∧ W.cell? ⟨x, 1, none⟩ = some (.int .i64 l) ∧ W.cell? ⟨x, 2, none⟩ = some (.int .i64 c) ∧ W.cell? ⟨x, 3, none⟩ = some (.int .i64 p) ∧ W.cell? ⟨x, 4, none⟩ = some (.int .i64 t) ∧ W.cell? ⟨x, 5, none⟩ = some (.bool v) ∧ ∀ o, o < 6 → W.frozen? ⟨x, o, none⟩ = false
theorem CapAt.keep {x : Nat} {W W' : World} {b : Int} {l : Int} {c : Int} {p : Int} {t : Int} {v : Bool} (h : CapAt x W b l c p t v) (hs : W.heap.size ≤ W'.heap.size) (hk : W'.heap[x]? = W.heap[x]?) : CapAt x W' b l c p t v := by
  obtain ⟨h0, h1, h2, h3, h4, h5, h6, hf⟩ := h
  have e : ∀ o, W'.cell? ⟨x, o, none⟩ = W.cell? ⟨x, o, none⟩ := fun o => World.cell?_of_block hk
  exact ⟨Nat.lt_of_lt_of_le h0 hs, (e 0).trans h1, (e 1).trans h2, (e 2).trans h3, (e 3).trans h4, (e 4).trans h5, (e 5).trans h6, fun o ho => (World.frozen?_of_block hk).trans (hf o ho)⟩
theorem CapAt.below {x : Nat} {W W' : World} {b : Int} {l : Int} {c : Int} {p : Int} {t : Int} {v : Bool} (h : CapAt x W b l c p t v) (hb : Below W.heap.size W W') : CapAt x W' b l c p t v := h.keep hb.size (hb.block x h.1)
theorem CapAt.far {x y o : Nat} {W : World} {b : Int} {l : Int} {c : Int} {p : Int} {t : Int} {v : Bool} {z : Value} (h : CapAt x W b l c p t v) (hn : x ≠ y) : CapAt x (W.setCell ⟨y, o, none⟩ z) b l c p t v :=
  h.keep (by simp [World.setCell]) (Below.heap_setCell _ _ _ _ (by simpa using hn))
theorem CapAt.new (W : World) (b : Int) (l : Int) (c : Int) (p : Int) (t : Int) (v : Bool) (T : TypeId) : CapAt W.heap.size (W.alloc (.cells #[.int .i64 b, .int .i64 l, .int .i64 c, .int .i64 p, .int .i64 t, .bool v] T)) b l c p t v := by
  refine ⟨by simp, by simp, by simp, by simp, by simp, by simp, by simp, fun o ho => ?_⟩
  simp
theorem CapAt.s0 {x : Nat} {W : World} {b : Int} {l : Int} {c : Int} {p : Int} {t : Int} {v : Bool} (h : CapAt x W b l c p t v) (b' : Int) : CapAt x (W.setCell ⟨x, 0, none⟩ (.int .i64 b')) b' l c p t v := by
  obtain ⟨h0, h1, h2, h3, h4, h5, h6, hf⟩ := h
  exact ⟨by simp [World.setCell]; exact h0, (World.cell?_setCell_same _ _ _ h1), (World.cell?_setCell_other _ _ _ _ (by simp)).trans h2, (World.cell?_setCell_other _ _ _ _ (by simp)).trans h3, (World.cell?_setCell_other _ _ _ _ (by simp)).trans h4, (World.cell?_setCell_other _ _ _ _ (by simp)).trans h5, (World.cell?_setCell_other _ _ _ _ (by simp)).trans h6, fun o ho => by simp [hf o ho]⟩
theorem CapAt.s1 {x : Nat} {W : World} {b : Int} {l : Int} {c : Int} {p : Int} {t : Int} {v : Bool} (h : CapAt x W b l c p t v) (l' : Int) : CapAt x (W.setCell ⟨x, 1, none⟩ (.int .i64 l')) b l' c p t v := by
  obtain ⟨h0, h1, h2, h3, h4, h5, h6, hf⟩ := h
  exact ⟨by simp [World.setCell]; exact h0, (World.cell?_setCell_other _ _ _ _ (by simp)).trans h1, (World.cell?_setCell_same _ _ _ h2), (World.cell?_setCell_other _ _ _ _ (by simp)).trans h3, (World.cell?_setCell_other _ _ _ _ (by simp)).trans h4, (World.cell?_setCell_other _ _ _ _ (by simp)).trans h5, (World.cell?_setCell_other _ _ _ _ (by simp)).trans h6, fun o ho => by simp [hf o ho]⟩
theorem CapAt.s2 {x : Nat} {W : World} {b : Int} {l : Int} {c : Int} {p : Int} {t : Int} {v : Bool} (h : CapAt x W b l c p t v) (c' : Int) : CapAt x (W.setCell ⟨x, 2, none⟩ (.int .i64 c')) b l c' p t v := by
  obtain ⟨h0, h1, h2, h3, h4, h5, h6, hf⟩ := h
  exact ⟨by simp [World.setCell]; exact h0, (World.cell?_setCell_other _ _ _ _ (by simp)).trans h1, (World.cell?_setCell_other _ _ _ _ (by simp)).trans h2, (World.cell?_setCell_same _ _ _ h3), (World.cell?_setCell_other _ _ _ _ (by simp)).trans h4, (World.cell?_setCell_other _ _ _ _ (by simp)).trans h5, (World.cell?_setCell_other _ _ _ _ (by simp)).trans h6, fun o ho => by simp [hf o ho]⟩
theorem CapAt.s3 {x : Nat} {W : World} {b : Int} {l : Int} {c : Int} {p : Int} {t : Int} {v : Bool} (h : CapAt x W b l c p t v) (p' : Int) : CapAt x (W.setCell ⟨x, 3, none⟩ (.int .i64 p')) b l c p' t v := by
  obtain ⟨h0, h1, h2, h3, h4, h5, h6, hf⟩ := h
  exact ⟨by simp [World.setCell]; exact h0, (World.cell?_setCell_other _ _ _ _ (by simp)).trans h1, (World.cell?_setCell_other _ _ _ _ (by simp)).trans h2, (World.cell?_setCell_other _ _ _ _ (by simp)).trans h3, (World.cell?_setCell_same _ _ _ h4), (World.cell?_setCell_other _ _ _ _ (by simp)).trans h5, (World.cell?_setCell_other _ _ _ _ (by simp)).trans h6, fun o ho => by simp [hf o ho]⟩
theorem CapAt.s4 {x : Nat} {W : World} {b : Int} {l : Int} {c : Int} {p : Int} {t : Int} {v : Bool} (h : CapAt x W b l c p t v) (t' : Int) : CapAt x (W.setCell ⟨x, 4, none⟩ (.int .i64 t')) b l c p t' v := by
  obtain ⟨h0, h1, h2, h3, h4, h5, h6, hf⟩ := h
  exact ⟨by simp [World.setCell]; exact h0, (World.cell?_setCell_other _ _ _ _ (by simp)).trans h1, (World.cell?_setCell_other _ _ _ _ (by simp)).trans h2, (World.cell?_setCell_other _ _ _ _ (by simp)).trans h3, (World.cell?_setCell_other _ _ _ _ (by simp)).trans h4, (World.cell?_setCell_same _ _ _ h5), (World.cell?_setCell_other _ _ _ _ (by simp)).trans h6, fun o ho => by simp [hf o ho]⟩
theorem CapAt.s5 {x : Nat} {W : World} {b : Int} {l : Int} {c : Int} {p : Int} {t : Int} {v : Bool} (h : CapAt x W b l c p t v) (v' : Bool) : CapAt x (W.setCell ⟨x, 5, none⟩ (.bool v')) b l c p t v' := by
  obtain ⟨h0, h1, h2, h3, h4, h5, h6, hf⟩ := h
  exact ⟨by simp [World.setCell]; exact h0, (World.cell?_setCell_other _ _ _ _ (by simp)).trans h1, (World.cell?_setCell_other _ _ _ _ (by simp)).trans h2, (World.cell?_setCell_other _ _ _ _ (by simp)).trans h3, (World.cell?_setCell_other _ _ _ _ (by simp)).trans h4, (World.cell?_setCell_other _ _ _ _ (by simp)).trans h5, (World.cell?_setCell_same _ _ _ h6), fun o ho => by simp [hf o ho]⟩
theorem cap_store {z : Nat} {W : World} {b l c p t : Int} {v : Bool} (h : CapAt z W b l c p t v) (b' l' c' p' t' : Int) (v' : Bool) :
    ∃ W', (((((W.setCell ⟨z, 0, none⟩ (.int .i64 b')).setCell ⟨z, 1, none⟩ (.int .i64 l')).setCell ⟨z, 2, none⟩ (.int .i64 c')).setCell ⟨z, 3, none⟩ (.int .i64 p')).setCell ⟨z, 4, none⟩ (.int .i64 t')).setCell ⟨z, 5, none⟩ (.bool v') = W' ∧ CapAt z W' b' l' c' p' t' v' ∧ Below z W W' := by
  have hb : Below z W ((((((W.setCell ⟨z, 0, none⟩ (.int .i64 b')).setCell ⟨z, 1, none⟩ (.int .i64 l')).setCell ⟨z, 2, none⟩ (.int .i64 c')).setCell ⟨z, 3, none⟩ (.int .i64 p')).setCell ⟨z, 4, none⟩ (.int .i64 t')).setCell ⟨z, 5, none⟩ (.bool v')) :=
    ((((((Below.refl _ _).setCell (Nat.le_refl z) _).setCell (Nat.le_refl z) _).setCell (Nat.le_refl z) _).setCell (Nat.le_refl z) _).setCell (Nat.le_refl z) _).setCell (Nat.le_refl z) _
  exact ⟨_, rfl, (((((h.s0 b').s1 l').s2 c').s3 p').s4 t').s5 v', hb⟩
theorem infoCap : (Try.prog.info? 28).map (fun i => (i.zero, i.size, i.bytes)) = some (some (.agg #[.int .i64 0, .int .i64 0, .int .i64 0, .int .i64 0, .int .i64 0, .bool false]), 6, 48) := by kernel_rfl
def zeroV (i : Nat) : Value := (#[.int .i64 0, .int .i64 0, .int .i64 0, .int .i64 0, .int .i64 0, .bool false] : Array Value)[i % 6]!
theorem made_at (k i : Nat) (h : i < 6 * k) : (madeCells #[.int .i64 0, .int .i64 0, .int .i64 0, .int .i64 0, .int .i64 0, .bool false] (k * 6))[i]? = some (zeroV i) := by
  have : i < k * 6 := by omega
  simp [madeCells, this, zeroV]
theorem mkCap (k : Nat) (hk : k ≤ 64) (W : World) : (Instr.makeSlice 40 (.int .i64 (k : Int)) (.int .i64 (k : Int))).run Try.prog W = .ok (.slice (some ⟨W.heap.size, 0, none⟩) k k) (W.alloc (.cells (madeCells #[.int .i64 0, .int .i64 0, .int .i64 0, .int .i64 0, .int .i64 0, .bool false] (k * 6)) 28)) := by
  obtain ⟨i0, hi, hz0, hz1, hz2⟩ := info_parts infoCap
  have := run_make (P := Try.prog) (w := W) 40 28 i0 (.agg #[.int .i64 0, .int .i64 0, .int .i64 0, .int .i64 0, .int .i64 0, .bool false]) Try.underlying40 hi hz0 .i64 .i64 k k (by omega) (by omega) (by rw [hz2]; omega) (by omega)
  rw [hz1] at this
  simp only [Int.toNat_natCast] at this
  exact this
def NewPost (k : Nat) (w : World) (e : Ending) (w' : World) : Prop := ∃ p g, e = .returned (.pointer (some ⟨p, 0, none⟩)) ∧ RegAt p g k w' zeroV ∧ Below w.heap.size w w' ∧ w.heap.size ≤ p ∧ w.heap.size ≤ g
theorem rnew (n : Int) (k : Nat) (hk : (k : Int) = min (max n 0) 64) (w : World) :
    Calls Try.prog 5 #[.int .i64 n] w (NewPost k w) := by
  have hk2 : k ≤ 64 := by omega
  have hmk := mkCap k hk2
  have h1 : (if n < 0 then (0 : Int) else n) = max n 0 := by split <;> omega
  have HR : Hid (RegAt (w.heap.size + 1) w.heap.size k ((w.alloc (.cells (madeCells #[.int .i64 0, .int .i64 0, .int .i64 0, .int .i64 0, .int .i64 0, .bool false] (k * 6)) 28)).alloc (.cells #[.slice (some ⟨w.heap.size, 0, none⟩) k k] 50)) zeroV) := Lib.hid (by
    refine ⟨by simp, by simp; omega, by omega, hk2, by simp, fun i hi => ⟨?_, by simp⟩⟩
    rw [World.cell?_alloc_lt _ _ _ (by simp), World.cell?_alloc_mark]
    exact made_at k i hi)
  have HB := Lib.hid (alc (alc0 w (.cells (madeCells #[.int .i64 0, .int .i64 0, .int .i64 0, .int .i64 0, .int .i64 0, .bool false] (k * 6)) 28)) (.cells #[.slice (some ⟨w.heap.size, 0, none⟩) k k] 50))
  have hs : n < 0 ∨ (0 ≤ n ∧ n ≤ 64) ∨ 64 < n := by omega
  rcases hs with hs | ⟨hs1, hs2⟩ | hs
  · have h0 : (k : Int) = 0 := by omega
    rw [h0] at hmk
    clear h1 hk hk2 h0
    go_enter Try.func5, Try.ntmps5
    go_wp2
    go_ret
    exact ⟨_, _, rfl, HR.out, HB.out, by omega, by omega⟩
  · obtain rfl : n = k := by omega
    clear h1 hk
    have t1 : ¬ (k : Int) < 0 := by omega
    have t2 : ¬ (64 : Int) < k := by omega
    go_enter Try.func5, Try.ntmps5
    go_wp2
    go_ret
    exact ⟨_, _, rfl, HR.out, HB.out, by omega, by omega⟩
  · have h0 : (k : Int) = 64 := by omega
    rw [h0] at hmk
    have t1 : ¬ n < 0 := by omega
    clear h1 hk hk2 h0
    go_enter Try.func5, Try.ntmps5
    go_wp2
    go_ret
    exact ⟨_, _, rfl, HR.out, HB.out, by omega, by omega⟩
set_option maxHeartbeats 800000 in
theorem rget_out (p g k : Nat) (h : Int) (W : World) (V : Nat → Value) (H : RegAt p g k W V) (hh : decide (0 ≤ h ∧ h < k) = false) :
    Calls Try.prog 13 #[.pointer (some ⟨p, 0, none⟩), .int .i64 h] W fun e w' => e = .returned (.tuple #[.agg #[.int .i64 0, .int .i64 0, .int .i64 0, .int .i64 0, .int .i64 0, .bool false], .int .i64 15]) ∧ Below W.heap.size W w' := by
  have HH := Lib.hid H
  have HR := Lib.hid hh
  clear H hh
  go_enter Try.func13, Try.ntmps13
  go_wp2_with fail
  refine (rthere_any p g k h _ V (HH.out.below (alc0 _ _)) false HR.out).mono ?_
  rintro e w' ⟨rfl, rfl⟩
  go_wp2
  refine bodyPost_ret (v := .tuple #[.agg #[.int .i64 0, .int .i64 0, .int .i64 0, .int .i64 0, .int .i64 0, .bool false], .int .i64 15]) (by simp [results, Try.results13, go_sem]) rfl ⟨rfl, alc0 _ _⟩
set_option maxHeartbeats 1600000 in
theorem rget_in (p g k h : Nat) (W : World) (V : Nat → Value) (H : RegAt p g k W V) (hh : h < k) (x0 x1 x2 x3 x4 : Int) (x5 : Bool) (e0 : V (h * 6) = .int .i64 x0) (e1 : V (h * 6 + 1) = .int .i64 x1) (e2 : V (h * 6 + 2) = .int .i64 x2) (e3 : V (h * 6 + 3) = .int .i64 x3) (e4 : V (h * 6 + 4) = .int .i64 x4) (e5 : V (h * 6 + 5) = .bool x5) :
    Calls Try.prog 13 #[.pointer (some ⟨p, 0, none⟩), .int .i64 (h : Nat)] W fun e w' => e = .returned (.tuple #[.agg #[.int .i64 x0, .int .i64 x1, .int .i64 x2, .int .i64 x3, .int .i64 x4, .bool x5], .int .i64 0]) ∧ Below W.heap.size W w' := by
  have HH := Lib.hid H
  have HE := Lib.hid (And.intro e0 (And.intro e1 (And.intro e2 (And.intro e3 (And.intro e4 e5)))))
  clear H e0 e1 e2 e3 e4 e5
  go_enter Try.func13, Try.ntmps13
  go_upto_region 1 with (fail)
  obtain ⟨w2, hw⟩ : ∃ w2, W.alloc (.cells #[.int .i64 0, .int .i64 0, .int .i64 0, .int .i64 0, .int .i64 0, .bool false] 28) = w2 := ⟨_, rfl⟩
  have HX := Lib.hid (CapAt.new W 0 0 0 0 0 false 28)
  have HB := Lib.hid (alc0 W (.cells #[.int .i64 0, .int .i64 0, .int .i64 0, .int .i64 0, .int .i64 0, .bool false] 28))
  have H2 := Lib.hid (HH.out.below (alc0 W (.cells #[.int .i64 0, .int .i64 0, .int .i64 0, .int .i64 0, .int .i64 0, .bool false] 28)))
  rw [hw] at HX HB H2 ⊢
  clear hw
  go_wp2_with fail
  refine (rthere_any p g k h _ V H2.out true (by simp; omega)).mono ?_
  rintro e w' ⟨rfl, rfl⟩
  obtain ⟨h1, h2, h3, h4, h5, h6⟩ := H2.out
  have c0 := (h6 (h * 6) (by omega)).1
  have c1 := (h6 (h * 6 + 1) (by omega)).1
  have c2 := (h6 (h * 6 + 2) (by omega)).1
  have c3 := (h6 (h * 6 + 3) (by omega)).1
  have c4 := (h6 (h * 6 + 4) (by omega)).1
  have c5 := (h6 (h * 6 + 5) (by omega)).1
  rw [HE.out.1] at c0; rw [HE.out.2.1] at c1; rw [HE.out.2.2.1] at c2; rw [HE.out.2.2.2.1] at c3; rw [HE.out.2.2.2.2.1] at c4; rw [HE.out.2.2.2.2.2] at c5
  obtain ⟨_, z0, z1, z2, z3, z4, z5, zf⟩ := HX.out
  have zf0 := zf 0 (by omega)
  have zf1 := zf 1 (by omega)
  have zf2 := zf 2 (by omega)
  have zf3 := zf 3 (by omega)
  have zf4 := zf 4 (by omega)
  have zf5 := zf 5 (by omega)
  have hhi : (h : Int) < k := by omega
  clear h6 zf
  obtain ⟨ws, hws, hzs, hbs⟩ := cap_store HX.out x0 x1 x2 x3 x4 x5
  go_wp2_with fail
  obtain ⟨_, k0, k1, k2, k3, k4, k5, kf⟩ := hzs
  refine bodyPost_ret (v := .tuple #[.agg #[.int .i64 x0, .int .i64 x1, .int .i64 x2, .int .i64 x3, .int .i64 x4, .bool x5], .int .i64 0]) (by simp [results, Try.results13, go_sem, k0, k1, k2, k3, k4, k5]) rfl ⟨rfl, HB.out.trans (hbs.mono (Nat.le_refl _))⟩
end Go.Proofs.Ytpciigahikciiaa
