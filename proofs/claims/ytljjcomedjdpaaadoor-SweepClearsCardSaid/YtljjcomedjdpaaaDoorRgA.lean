/- Package regs: New, Get, Put (what RegsPlays' texts have, for a seat of the memory). -/
import Derived.Test.YtljjcomedjdpaaaDoorCapAt
import Derived.Laws.MakeOwn
import Derived.Laws.StructEq
import Derived.Deep.CutBlock
import Derived.Deep.DeepCutAuto
import Derived.Deep.MidRow
import Derived.RegionTactic
import Derived.ChangeAlike
import Derived.BigRegion
namespace Go.Proofs.YtljjcomedjdpaaaDoor
set_option maxRecDepth 100000
open Go.RowKit
set_option linter.unusedVariables false
set_option linter.unusedSimpArgs false

/-- So many registers: the object at p, its row at g, with V in its cells. -/
def RegAt (p g k : Nat) (W : World) (V : Nat → Value) : Prop :=
  p < W.heap.size ∧ g < W.heap.size ∧ p ≠ g ∧ k ≤ 64 ∧ W.cell? ⟨p, 0, none⟩ = some (.slice (some ⟨g, 0, none⟩) k k) ∧ ∀ i, i < 6 * k → W.cell? ⟨g, i, none⟩ = some (V i) ∧ W.frozen? ⟨g, i, none⟩ = false
theorem RegAt.below {p g k : Nat} {W W' : World} {V : Nat → Value} (h : RegAt p g k W V) (hb : Below W.heap.size W W') : RegAt p g k W' V := by
  obtain ⟨h1, h2, h3, h4, h5, h6⟩ := h
  exact ⟨Nat.lt_of_lt_of_le h1 hb.size, Nat.lt_of_lt_of_le h2 hb.size, h3, h4, (hb.cell (p := ⟨p, 0, none⟩) h1).trans h5, fun i hi => ⟨(hb.cell (p := ⟨g, i, none⟩) h2).trans (h6 i hi).1, (hb.frozen (p := ⟨g, i, none⟩) h2).trans (h6 i hi).2⟩⟩
theorem rlen_any (p g k : Nat) (W : World) (V : Nat → Value) (H : RegAt p g k W V) : Calls Tryd.prog 37 #[.pointer (some ⟨p, 0, none⟩)] W fun e w' => e = .returned (.int .i64 k) ∧ W = w' := by
  obtain ⟨h1, h2, h3, h4, h5, h6⟩ := H
  clear h6
  go_enter Tryd.func37, Tryd.ntmps37
  go_wp2
  go_ret
  exact ⟨rfl, rfl⟩
theorem rthere_any (p g k : Nat) (h : Int) (W : World) (V : Nat → Value) (H : RegAt p g k W V) (r : Bool) (hr : decide (0 ≤ h ∧ h < k) = r) : Calls Tryd.prog 47 #[.pointer (some ⟨p, 0, none⟩), .int .i64 h] W fun e w' => e = .returned (.bool r) ∧ W = w' := by
  have HH := Lib.hid H
  have HR := Lib.hid hr
  clear H hr
  by_cases h0 : 0 ≤ h
  · go_enter Tryd.func47, Tryd.ntmps47
    go_wp2_with fail
    refine (rlen_any p g k _ V HH.out).mono ?_
    rintro e w' ⟨rfl, rfl⟩
    go_wp2
    go_ret
    exact ⟨ret_bool (by rw [← HR.out, Bool.eq_iff_iff]; simp <;> omega), rfl⟩
  · go_enter Tryd.func47, Tryd.ntmps47
    go_wp2
    go_ret
    exact ⟨ret_bool (by rw [← HR.out, Bool.eq_iff_iff]; simp <;> omega), rfl⟩
theorem cap_storeR {z : Nat} {W : World} {b l c p t : Int} {v : Bool} (h : CapAt z W b l c p t v) (b' l' c' p' t' : Int) (v' : Bool) :
    ∃ W', (((((W.setCell ⟨z, 0, none⟩ (.int .i64 b')).setCell ⟨z, 1, none⟩ (.int .i64 l')).setCell ⟨z, 2, none⟩ (.int .i64 c')).setCell ⟨z, 3, none⟩ (.int .i64 p')).setCell ⟨z, 4, none⟩ (.int .i64 t')).setCell ⟨z, 5, none⟩ (.bool v') = W' ∧ CapAt z W' b' l' c' p' t' v' ∧ Below z W W' := by
  have hb : Below z W ((((((W.setCell ⟨z, 0, none⟩ (.int .i64 b')).setCell ⟨z, 1, none⟩ (.int .i64 l')).setCell ⟨z, 2, none⟩ (.int .i64 c')).setCell ⟨z, 3, none⟩ (.int .i64 p')).setCell ⟨z, 4, none⟩ (.int .i64 t')).setCell ⟨z, 5, none⟩ (.bool v')) :=
    ((((((Below.refl _ _).setCell (Nat.le_refl z) _).setCell (Nat.le_refl z) _).setCell (Nat.le_refl z) _).setCell (Nat.le_refl z) _).setCell (Nat.le_refl z) _).setCell (Nat.le_refl z) _
  exact ⟨_, rfl, (((((h.s0 b').s1 l').s2 c').s3 p').s4 t').s5 v', hb⟩
theorem infoCapR : (Tryd.prog.info? 37).map (fun i => (i.zero, i.size, i.bytes)) = some (some (.agg #[.int .i64 0, .int .i64 0, .int .i64 0, .int .i64 0, .int .i64 0, .bool false]), 6, 48) := by kernel_rfl
def zeroV (i : Nat) : Value := (#[.int .i64 0, .int .i64 0, .int .i64 0, .int .i64 0, .int .i64 0, .bool false] : Array Value)[i % 6]!
theorem made_at (k i : Nat) (h : i < 6 * k) : (madeCells #[.int .i64 0, .int .i64 0, .int .i64 0, .int .i64 0, .int .i64 0, .bool false] (k * 6))[i]? = some (zeroV i) := by
  have : i < k * 6 := by omega
  simp [madeCells, this, zeroV]
theorem mkCap (k : Nat) (hk : k ≤ 64) (W : World) : (Instr.makeSlice 22 (.int .i64 (k : Int)) (.int .i64 (k : Int))).run Tryd.prog W = .ok (.slice (some ⟨W.heap.size, 0, none⟩) k k) (W.alloc (.cells (madeCells #[.int .i64 0, .int .i64 0, .int .i64 0, .int .i64 0, .int .i64 0, .bool false] (k * 6)) 37)) := by
  obtain ⟨i0, hi, hz0, hz1, hz2⟩ := info_parts infoCapR
  have := run_make (P := Tryd.prog) (w := W) 22 37 i0 (.agg #[.int .i64 0, .int .i64 0, .int .i64 0, .int .i64 0, .int .i64 0, .bool false]) Tryd.underlying22 hi hz0 .i64 .i64 k k (by omega) (by omega) (by rw [hz2]; omega) (by omega)
  rw [hz1] at this
  simp only [Int.toNat_natCast] at this
  exact this
def RgNewPost (k : Nat) (w : World) (e : Ending) (w' : World) : Prop := ∃ p g, e = .returned (.pointer (some ⟨p, 0, none⟩)) ∧ RegAt p g k w' zeroV ∧ Below w.heap.size w w' ∧ w.heap.size ≤ p ∧ w.heap.size ≤ g
theorem rnew (n : Int) (k : Nat) (hk : (k : Int) = min (max n 0) 64) (w : World) :
    Calls Tryd.prog 21 #[.int .i64 n] w (RgNewPost k w) := by
  have hk2 : k ≤ 64 := by omega
  have hmk := mkCap k hk2
  have h1 : (if n < 0 then (0 : Int) else n) = max n 0 := by split <;> omega
  have HR : Hid (RegAt (w.heap.size + 1) w.heap.size k ((w.alloc (.cells (madeCells #[.int .i64 0, .int .i64 0, .int .i64 0, .int .i64 0, .int .i64 0, .bool false] (k * 6)) 37)).alloc (.cells #[.slice (some ⟨w.heap.size, 0, none⟩) k k] 71)) zeroV) := Lib.hid (by
    refine ⟨by simp, by simp; omega, by omega, hk2, by simp, fun i hi => ⟨?_, by simp⟩⟩
    rw [World.cell?_alloc_lt _ _ _ (by simp), World.cell?_alloc_mark]
    exact made_at k i hi)
  have HB := Lib.hid (alc (alc0 w (.cells (madeCells #[.int .i64 0, .int .i64 0, .int .i64 0, .int .i64 0, .int .i64 0, .bool false] (k * 6)) 37)) (.cells #[.slice (some ⟨w.heap.size, 0, none⟩) k k] 71))
  have hs : n < 0 ∨ (0 ≤ n ∧ n ≤ 64) ∨ 64 < n := by omega
  rcases hs with hs | ⟨hs1, hs2⟩ | hs
  · have h0 : (k : Int) = 0 := by omega
    rw [h0] at hmk
    clear h1 hk hk2 h0
    go_enter Tryd.func21, Tryd.ntmps21
    go_wp2
    go_ret
    exact ⟨_, _, rfl, HR.out, HB.out, by omega, by omega⟩
  · obtain rfl : n = k := by omega
    clear h1 hk
    have t1 : ¬ (k : Int) < 0 := by omega
    have t2 : ¬ (64 : Int) < k := by omega
    go_enter Tryd.func21, Tryd.ntmps21
    go_wp2
    go_ret
    exact ⟨_, _, rfl, HR.out, HB.out, by omega, by omega⟩
  · have h0 : (k : Int) = 64 := by omega
    rw [h0] at hmk
    have t1 : ¬ n < 0 := by omega
    clear h1 hk hk2 h0
    go_enter Tryd.func21, Tryd.ntmps21
    go_wp2
    go_ret
    exact ⟨_, _, rfl, HR.out, HB.out, by omega, by omega⟩
set_option maxHeartbeats 800000 in
theorem rget_out (p g k : Nat) (h : Int) (W : World) (V : Nat → Value) (H : RegAt p g k W V) (hh : decide (0 ≤ h ∧ h < k) = false) :
    Calls Tryd.prog 61 #[.pointer (some ⟨p, 0, none⟩), .int .i64 h] W fun e w' => e = .returned (.tuple #[.agg #[.int .i64 0, .int .i64 0, .int .i64 0, .int .i64 0, .int .i64 0, .bool false], .int .i64 15]) ∧ Below W.heap.size W w' := by
  have HH := Lib.hid H
  have HR := Lib.hid hh
  clear H hh
  go_enter Tryd.func61, Tryd.ntmps61
  go_wp2_with fail
  refine (rthere_any p g k h _ V (HH.out.below (alc0 _ _)) false HR.out).mono ?_
  rintro e w' ⟨rfl, rfl⟩
  go_wp2
  refine bodyPost_ret (v := .tuple #[.agg #[.int .i64 0, .int .i64 0, .int .i64 0, .int .i64 0, .int .i64 0, .bool false], .int .i64 15]) (by simp [results, Tryd.results61, go_sem]) rfl ⟨rfl, alc0 _ _⟩
set_option maxHeartbeats 1600000 in
theorem rget_in (p g k h : Nat) (W : World) (V : Nat → Value) (H : RegAt p g k W V) (hh : h < k) (x0 x1 x2 x3 x4 : Int) (x5 : Bool) (e0 : V (h * 6) = .int .i64 x0) (e1 : V (h * 6 + 1) = .int .i64 x1) (e2 : V (h * 6 + 2) = .int .i64 x2) (e3 : V (h * 6 + 3) = .int .i64 x3) (e4 : V (h * 6 + 4) = .int .i64 x4) (e5 : V (h * 6 + 5) = .bool x5) :
    Calls Tryd.prog 61 #[.pointer (some ⟨p, 0, none⟩), .int .i64 (h : Nat)] W fun e w' => e = .returned (.tuple #[.agg #[.int .i64 x0, .int .i64 x1, .int .i64 x2, .int .i64 x3, .int .i64 x4, .bool x5], .int .i64 0]) ∧ Below W.heap.size W w' := by
  have HH := Lib.hid H
  have HE := Lib.hid (And.intro e0 (And.intro e1 (And.intro e2 (And.intro e3 (And.intro e4 e5)))))
  clear H e0 e1 e2 e3 e4 e5
  go_enter Tryd.func61, Tryd.ntmps61
  go_upto_region 1 with (fail)
  obtain ⟨w2, hw⟩ : ∃ w2, W.alloc (.cells #[.int .i64 0, .int .i64 0, .int .i64 0, .int .i64 0, .int .i64 0, .bool false] 37) = w2 := ⟨_, rfl⟩
  have HX := Lib.hid (CapAt.new W 0 0 0 0 0 false 37)
  have HB := Lib.hid (alc0 W (.cells #[.int .i64 0, .int .i64 0, .int .i64 0, .int .i64 0, .int .i64 0, .bool false] 37))
  have H2 := Lib.hid (HH.out.below (alc0 W (.cells #[.int .i64 0, .int .i64 0, .int .i64 0, .int .i64 0, .int .i64 0, .bool false] 37)))
  rw [hw] at HX HB H2 ⊢
  clear hw
  go_wp2_with fail
  refine (rthere_any p g k h _ V H2.out true (by simp; omega)).mono ?_
  rintro e w' ⟨rfl, rfl⟩
  obtain ⟨h1, h2, h3, h4, h5, h6⟩ := H2.out
  have c0 := (h6 (h * 6) (by omega)).1
  have c1 := (h6 (h * 6 + 1) (by omega)).1
  have c2 := (h6 (h * 6 + 2) (by omega)).1
  have c3 := (h6 (h * 6 + 3) (by omega)).1
  have c4 := (h6 (h * 6 + 4) (by omega)).1
  have c5 := (h6 (h * 6 + 5) (by omega)).1
  rw [HE.out.1] at c0; rw [HE.out.2.1] at c1; rw [HE.out.2.2.1] at c2; rw [HE.out.2.2.2.1] at c3; rw [HE.out.2.2.2.2.1] at c4; rw [HE.out.2.2.2.2.2] at c5
  obtain ⟨_, z0, z1, z2, z3, z4, z5, zf⟩ := HX.out
  have zf0 := zf 0 (by omega)
  have zf1 := zf 1 (by omega)
  have zf2 := zf 2 (by omega)
  have zf3 := zf 3 (by omega)
  have zf4 := zf 4 (by omega)
  have zf5 := zf 5 (by omega)
  have hhi : (h : Int) < k := by omega
  clear h6 zf
  obtain ⟨ws, hws, hzs, hbs⟩ := cap_storeR HX.out x0 x1 x2 x3 x4 x5
  go_wp2_with fail
  obtain ⟨_, k0, k1, k2, k3, k4, k5, kf⟩ := hzs
  refine bodyPost_ret (v := .tuple #[.agg #[.int .i64 x0, .int .i64 x1, .int .i64 x2, .int .i64 x3, .int .i64 x4, .bool x5], .int .i64 0]) (by simp [results, Tryd.results61, go_sem, k0, k1, k2, k3, k4, k5]) rfl ⟨rfl, HB.out.trans (hbs.mono (Nat.le_refl _))⟩
def putV (V : Nat → Value) (h : Nat) (vs : Array Value) : Nat → Value := fun i => if i / 6 = h then vs[i % 6]! else V i
/-- Of the blocks that stood, only g is another one. -/
def Keeps (g : Nat) (W W' : World) : Prop := Below g W W' ∧ ∀ i, i < W.heap.size → i ≠ g → W'.heap[i]? = W.heap[i]?
theorem size_set' (W : World) (p : Addr) (v : Value) : (W.setCell p v).heap.size = W.heap.size := by simp [World.setCell]
theorem reg_store {p g k h : Nat} {W : World} {V : Nat → Value} (H : RegAt p g k W V) (hh : h < k) (v0 v1 v2 v3 v4 v5 : Value) :
    ∃ W', (((((W.setCell ⟨g, h * 6, none⟩ v0).setCell ⟨g, h * 6 + 1, none⟩ v1).setCell ⟨g, h * 6 + 2, none⟩ v2).setCell ⟨g, h * 6 + 3, none⟩ v3).setCell ⟨g, h * 6 + 4, none⟩ v4).setCell ⟨g, h * 6 + 5, none⟩ v5 = W' ∧ RegAt p g k W' (putV V h #[v0, v1, v2, v3, v4, v5]) ∧ Keeps g W W' := by
  obtain ⟨h1, h2, h3, h4, h5, h6⟩ := H
  have hc : (((((W.setCell ⟨g, h * 6, none⟩ v0).setCell ⟨g, h * 6 + 1, none⟩ v1).setCell ⟨g, h * 6 + 2, none⟩ v2).setCell ⟨g, h * 6 + 3, none⟩ v3).setCell ⟨g, h * 6 + 4, none⟩ v4).setCell ⟨g, h * 6 + 5, none⟩ v5 = W.setCells g (h * 6) [v0, v1, v2, v3, v4, v5] := rfl
  refine ⟨_, rfl, ?_, ?_, ?_⟩
  · have hs : ((((((W.setCell ⟨g, h * 6, none⟩ v0).setCell ⟨g, h * 6 + 1, none⟩ v1).setCell ⟨g, h * 6 + 2, none⟩ v2).setCell ⟨g, h * 6 + 3, none⟩ v3).setCell ⟨g, h * 6 + 4, none⟩ v4).setCell ⟨g, h * 6 + 5, none⟩ v5).heap.size = W.heap.size := by simp only [size_set']
    refine ⟨by rw [hs]; exact h1, by rw [hs]; exact h2, h3, h4, ?_, fun i hi => ⟨?_, ?_⟩⟩
    · rw [hc, World.cell?_setCells_out g _ _ W ⟨p, 0, none⟩ (fun hb _ => absurd hb h3)]
      exact h5
    · rw [hc]
      by_cases e : i / 6 = h
      · have hi2 : i = h * 6 + i % 6 := by omega
        have hm : i % 6 < 6 := Nat.mod_lt _ (by decide)
        have hin := World.cell?_setCells_in g [v0, v1, v2, v3, v4, v5] (h * 6) W (fun j hj => by rw [(h6 (h * 6 + j) (by simp at hj; omega)).1]; rfl) (i % 6) (by simpa using hm)
        rw [← hi2] at hin
        rw [hin]
        unfold putV
        rw [if_pos e]
        have hr : i % 6 = 0 ∨ i % 6 = 1 ∨ i % 6 = 2 ∨ i % 6 = 3 ∨ i % 6 = 4 ∨ i % 6 = 5 := by omega
        rcases hr with r | r | r | r | r | r <;> simp [r]
      · rw [World.cell?_setCells_out g _ _ W ⟨g, i, none⟩ (fun _ _ => by simp; omega)]
        unfold putV
        rw [if_neg e]
        exact (h6 i hi).1
    · rw [hc, World.frozen?_setCells]
      exact (h6 i hi).2
  · exact ((((((Below.refl _ _).setCell (Nat.le_refl g) _).setCell (Nat.le_refl g) _).setCell (Nat.le_refl g) _).setCell (Nat.le_refl g) _).setCell (Nat.le_refl g) _).setCell (Nat.le_refl g) _
  · intro i hi hn
    have hx : ∀ (W0 : World) (o : Nat) (v : Value), (W0.setCell ⟨g, o, none⟩ v).heap[i]? = W0.heap[i]? := fun W0 o v => Below.heap_setCell _ _ _ _ (by simpa using hn)
    simp only [hx]
set_option maxHeartbeats 800000 in
theorem rput_out (p g k : Nat) (h b l c q t : Int) (v : Bool) (W : World) (V : Nat → Value) (H : RegAt p g k W V) (hh : decide (0 ≤ h ∧ h < k) = false) :
    Calls Tryd.prog 22 #[.pointer (some ⟨p, 0, none⟩), .int .i64 h, .agg #[.int .i64 b, .int .i64 l, .int .i64 c, .int .i64 q, .int .i64 t, .bool v]] W fun e w' => e = .returned (.int .i64 15) ∧ Below W.heap.size W w' := by
  have HH := Lib.hid H
  have HR := Lib.hid hh
  clear H hh
  go_enter Tryd.func22, Tryd.ntmps22
  go_wp2_with fail
  refine (rthere_any p g k h _ V (HH.out.below (alc0 _ _)) false HR.out).mono ?_
  rintro e w' ⟨rfl, rfl⟩
  go_wp2
  go_ret
  exact ⟨rfl, alc0 _ _⟩
set_option maxHeartbeats 800000 in
theorem rput_bad (p g k h : Nat) (b l c q t : Int) (v : Bool) (W : World) (V : Nat → Value) (H : RegAt p g k W V) (hh : h < k) (hm : capMayB b l c q t v = false) :
    Calls Tryd.prog 22 #[.pointer (some ⟨p, 0, none⟩), .int .i64 (h : Nat), .agg #[.int .i64 b, .int .i64 l, .int .i64 c, .int .i64 q, .int .i64 t, .bool v]] W fun e w' => e = .returned (.int .i64 1) ∧ Below W.heap.size W w' := by
  have HH := Lib.hid H
  have HM := Lib.hid hm
  clear H hm
  go_enter Tryd.func22, Tryd.ntmps22
  go_wp2_with fail
  refine (rthere_any p g k h _ V (HH.out.below (alc0 _ _)) true (by simp; omega)).mono ?_
  rintro e w' ⟨rfl, rfl⟩
  go_wp2_with fail
  refine (capmay_is _ _ _ _ _ _ _ _ HM.out).mono ?_
  rintro e w' ⟨rfl, hb⟩
  go_wp2
  go_ret
  exact ⟨rfl, thn (alc0 _ _) hb⟩
set_option maxHeartbeats 1600000 in
theorem rput_in (p g k h : Nat) (b l c q t : Int) (v : Bool) (W : World) (V : Nat → Value) (H : RegAt p g k W V) (hh : h < k) (hm : capMayB b l c q t v = true) :
    Calls Tryd.prog 22 #[.pointer (some ⟨p, 0, none⟩), .int .i64 (h : Nat), .agg #[.int .i64 b, .int .i64 l, .int .i64 c, .int .i64 q, .int .i64 t, .bool v]] W fun e w' => e = .returned (.int .i64 0) ∧ RegAt p g k w' (putV V h #[.int .i64 b, .int .i64 l, .int .i64 c, .int .i64 q, .int .i64 t, .bool v]) ∧ Keeps g W w' := by
  have HH := Lib.hid H
  have HM := Lib.hid hm
  clear H hm
  go_enter Tryd.func22, Tryd.ntmps22
  go_upto_region 1 with (fail)
  obtain ⟨w2, hw⟩ : ∃ w2, W.alloc (.cells #[.int .i64 b, .int .i64 l, .int .i64 c, .int .i64 q, .int .i64 t, .bool v] 37) = w2 := ⟨_, rfl⟩
  have HX := Lib.hid (CapAt.new W b l c q t v 37)
  have HB := Lib.hid (alc0 W (.cells #[.int .i64 b, .int .i64 l, .int .i64 c, .int .i64 q, .int .i64 t, .bool v] 37))
  have H2 := Lib.hid (HH.out.below (alc0 W (.cells #[.int .i64 b, .int .i64 l, .int .i64 c, .int .i64 q, .int .i64 t, .bool v] 37)))
  rw [hw] at HX HB H2 ⊢
  clear hw
  go_wp2_with fail
  refine (rthere_any p g k h _ V H2.out true (by simp; omega)).mono ?_
  rintro e w' ⟨rfl, rfl⟩
  obtain ⟨_, z0, z1, z2, z3, z4, z5, zf⟩ := HX.out
  go_wp2_with fail
  refine (capmay_is _ _ _ _ _ _ _ _ HM.out).mono ?_
  rintro e w3 ⟨rfl, hb⟩
  have HX3 := Lib.hid (HX.out.below hb)
  have H3 := Lib.hid (H2.out.below hb)
  have HB3 := Lib.hid (thn HB.out hb)
  clear hb z0 z1 z2 z3 z4 z5 zf HX H2 HB
  obtain ⟨_, z0, z1, z2, z3, z4, z5, zf⟩ := HX3.out
  obtain ⟨h1, h2, h3, h4, h5, h6⟩ := H3.out
  obtain ⟨c0, f0⟩ := h6 (h * 6) (by omega)
  obtain ⟨c1, f1⟩ := h6 (h * 6 + 1) (by omega)
  obtain ⟨c2, f2⟩ := h6 (h * 6 + 2) (by omega)
  obtain ⟨c3, f3⟩ := h6 (h * 6 + 3) (by omega)
  obtain ⟨c4, f4⟩ := h6 (h * 6 + 4) (by omega)
  obtain ⟨c5, f5⟩ := h6 (h * 6 + 5) (by omega)
  have hhi : (h : Int) < k := by omega
  clear h6 zf
  obtain ⟨ws, hws, hreg, hkeep⟩ := reg_store H3.out hh (.int .i64 b) (.int .i64 l) (.int .i64 c) (.int .i64 q) (.int .i64 t) (.bool v)
  have HREG := Lib.hid hreg
  have HKP : Hid (Keeps g W ws) := Lib.hid ⟨(HB3.out.mono (Nat.le_of_lt HH.out.2.1)).trans hkeep.1, fun i hi hn => (hkeep.2 i (Nat.lt_of_lt_of_le hi HB3.out.size) hn).trans (HB3.out.block i hi)⟩
  clear hreg hkeep
  go_upto_region 5 with (fail)
  go_region
  all_goals
    go_wp2
    go_ret
    first
      | exact ⟨rfl, HREG.out, HKP.out⟩
      | exact ⟨rfl, HREG.out.below (Below.refl _ _).drew, ⟨HKP.out.1.drew, HKP.out.2⟩⟩
end Go.Proofs.YtljjcomedjdpaaaDoor

