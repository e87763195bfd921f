/- Contracts of package regs: Put. -/
import Derived.Test.YtpciigahikciiaaRegsB
import Derived.Deep.MidRow
import Derived.RegionTactic
import Derived.ChangeAlike
import Derived.BigRegion
namespace Go.Proofs.Ytpciigahikciiaa
open Go.RowKit
set_option linter.unusedVariables false
set_option linter.unusedSimpArgs false

def putV (V : Nat → Value) (h : Nat) (vs : Array Value) : Nat → Value := fun i => if i / 6 = h then vs[i % 6]! else V i
/-- Of the blocks that stood, only g is another one. -/
def Keeps (g : Nat) (W W' : World) : Prop := Below g W W' ∧ ∀ i, i < W.heap.size → i ≠ g → W'.heap[i]? = W.heap[i]?
theorem size_set' (W : World) (p : Addr) (v : Value) : (W.setCell p v).heap.size = W.heap.size := by simp [World.setCell]
theorem reg_store {p g k h : Nat} {W : World} {V : Nat → Value} (H : RegAt p g k W V) (hh : h < k) (v0 v1 v2 v3 v4 v5 : Value) :
    ∃ W', (((((W.setCell ⟨g, h * 6, none⟩ v0).setCell ⟨g, h * 6 + 1, none⟩ v1).setCell ⟨g, h * 6 + 2, none⟩ v2).setCell ⟨g, h * 6 + 3, none⟩ v3).setCell ⟨g, h * 6 + 4, none⟩ v4).setCell ⟨g, h * 6 + 5, none⟩ v5 = W' ∧ RegAt p g k W' (putV V h #[v0, v1, v2, v3, v4, v5]) ∧ Keeps g W W' := by
  obtain ⟨h1, h2, h3, h4, h5, h6⟩ := H
  have hc : (((((W.setCell ⟨g, h * 6, none⟩ v0).setCell ⟨g, h * 6 + 1, none⟩ v1).setCell ⟨g, h * 6 + 2, none⟩ v2).setCell ⟨g, h * 6 + 3, none⟩ v3).setCell ⟨g, h * 6 + 4, none⟩ v4).setCell ⟨g, h * 6 + 5, none⟩ v5 = W.setCells g (h * 6) [v0, v1, v2, v3, v4, v5] := rfl
  refine ⟨_, rfl, ?_, ?_, ?_⟩
  · have hs : ((((((W.setCell ⟨g, h * 6, none⟩ v0).setCell ⟨g, h * 6 + 1, none⟩ v1).setCell ⟨g, h * 6 + 2, none⟩ v2).setCell ⟨g, h * 6 + 3, none⟩ v3).setCell ⟨g, h * 6 + 4, none⟩ v4).setCell ⟨g, h * 6 + 5, none⟩ v5).heap.size = W.heap.size := by simp only [size_set']
    refine ⟨by rw [hs]; exact h1, by rw [hs]; exact h2, h3, h4, ?_, fun i hi => ⟨?_, ?_⟩⟩
    · rw [hc, World.cell?_setCells_out g _ _ W ⟨p, 0, none⟩ (fun hb _ => absurd hb h3)]
      exact h5
    · rw [hc]
      by_cases e : i / 6 = h
      · have hi2 : i = h * 6 + i % 6 := by omega
        have hm : i % 6 < 6 := Nat.mod_lt _ (by decide)
        have hin := World.cell?_setCells_in g [v0, v1, v2, v3, v4, v5] (h * 6) W (fun j hj => by rw [(h6 (h * 6 + j) (by simp at hj; omega)).1]; rfl) (i % 6) (by simpa using hm)
        rw [← hi2] at hin
        rw [hin]
        unfold putV
        rw [if_pos e]
        have hr : i % 6 = 0 ∨ i % 6 = 1 ∨ i % 6 = 2 ∨ i % 6 = 3 ∨ i % 6 = 4 ∨ i % 6 = 5 := by omega
        rcases hr with r | r | r | r | r | r <;> simp [r]
      · rw [World.cell?_setCells_out g _ _ W ⟨g, i, none⟩ (fun _ _ => by simp; omega)]
        unfold putV
        rw [if_neg e]
        exact (h6 i hi).1
    · rw [hc, World.frozen?_setCells]
      exact (h6 i hi).2
  · exact ((((((Below.refl _ _).setCell (Nat.le_refl g) _).setCell (Nat.le_refl g) _).setCell (Nat.le_refl g) _).setCell (Nat.le_refl g) _).setCell (Nat.le_refl g) _).setCell (Nat.le_refl g) _
  · intro i hi hn
    have hx : ∀ (W0 : World) (o : Nat) (v : Value), (W0.setCell ⟨g, o, none⟩ v).heap[i]? = W0.heap[i]? := fun W0 o v => Below.heap_setCell _ _ _ _ (by simpa using hn)
    simp only [hx]
set_option maxHeartbeats 800000 in
theorem rput_out (p g k : Nat) (h b l c q t : Int) (v : Bool) (W : World) (V : Nat → Value) (H : RegAt p g k W V) (hh : decide (0 ≤ h ∧ h < k) = false) :
    Calls Try.prog 9 #[.pointer (some ⟨p, 0, none⟩), .int .i64 h, .agg #[.int .i64 b, .int .i64 l, .int .i64 c, .int .i64 q, .int .i64 t, .bool v]] W fun e w' => e = .returned (.int .i64 15) ∧ Below W.heap.size W w' := by
  have HH := Lib.hid H
  have HR := Lib.hid hh
  clear H hh
  go_enter Try.func9, Try.ntmps9
  go_wp2_with fail
  refine (rthere_any p g k h _ V (HH.out.below (alc0 _ _)) false HR.out).mono ?_
  rintro e w' ⟨rfl, rfl⟩
  go_wp2
  go_ret
  exact ⟨rfl, alc0 _ _⟩
set_option maxHeartbeats 800000 in
theorem rput_bad (p g k h : Nat) (b l c q t : Int) (v : Bool) (W : World) (V : Nat → Value) (H : RegAt p g k W V) (hh : h < k) (hm : capMayB b l c q t v = false) :
    Calls Try.prog 9 #[.pointer (some ⟨p, 0, none⟩), .int .i64 (h : Nat), .agg #[.int .i64 b, .int .i64 l, .int .i64 c, .int .i64 q, .int .i64 t, .bool v]] W fun e w' => e = .returned (.int .i64 1) ∧ Below W.heap.size W w' := by
  have HH := Lib.hid H
  have HM := Lib.hid hm
  clear H hm
  go_enter Try.func9, Try.ntmps9
  go_wp2_with fail
  refine (rthere_any p g k h _ V (HH.out.below (alc0 _ _)) true (by simp; omega)).mono ?_
  rintro e w' ⟨rfl, rfl⟩
  go_wp2_with fail
  refine (capmay_is _ _ _ _ _ _ _ _ HM.out).mono ?_
  rintro e w' ⟨rfl, hb⟩
  go_wp2
  go_ret
  exact ⟨rfl, thn (alc0 _ _) hb⟩
set_option maxHeartbeats 1600000 in
theorem rput_in (p g k h : Nat) (b l c q t : Int) (v : Bool) (W : World) (V : Nat → Value) (H : RegAt p g k W V) (hh : h < k) (hm : capMayB b l c q t v = true) :
    Calls Try.prog 9 #[.pointer (some ⟨p, 0, none⟩), .int .i64 (h : Nat), .agg #[.int .i64 b, .int .i64 l, .int .i64 c, .int .i64 q, .int .i64 t, .bool v]] W fun e w' => e = .returned (.int .i64 0) ∧ RegAt p g k w' (putV V h #[.int .i64 b, .int .i64 l, .int .i64 c, .int .i64 q, .int .i64 t, .bool v]) ∧ Keeps g W w' := by
  have HH := Lib.hid H
  have HM := Lib.hid hm
  clear H hm
  go_enter Try.func9, Try.ntmps9
  go_upto_region 1 with (fail)
  obtain ⟨w2, hw⟩ : ∃ w2, W.alloc (.cells #[.int .i64 b, .int .i64 l, .int .i64 c, .int .i64 q, .int .i64 t, .bool v] 28) = w2 := ⟨_, rfl⟩
  have HX := Lib.hid (CapAt.new W b l c q t v 28)
  have HB := Lib.hid (alc0 W (.cells #[.int .i64 b, .int .i64 l, .int .i64 c, .int .i64 q, .int .i64 t, .bool v] 28))
  have H2 := Lib.hid (HH.out.below (alc0 W (.cells #[.int .i64 b, .int .i64 l, .int .i64 c, .int .i64 q, .int .i64 t, .bool v] 28)))
  rw [hw] at HX HB H2 ⊢
  clear hw
  go_wp2_with fail
  refine (rthere_any p g k h _ V H2.out true (by simp; omega)).mono ?_
  rintro e w' ⟨rfl, rfl⟩
  obtain ⟨_, z0, z1, z2, z3, z4, z5, zf⟩ := HX.out
  go_wp2_with fail
  refine (capmay_is _ _ _ _ _ _ _ _ HM.out).mono ?_
  rintro e w3 ⟨rfl, hb⟩
  have HX3 := Lib.hid (HX.out.below hb)
  have H3 := Lib.hid (H2.out.below hb)
  have HB3 := Lib.hid (thn HB.out hb)
  clear hb z0 z1 z2 z3 z4 z5 zf HX H2 HB
  obtain ⟨_, z0, z1, z2, z3, z4, z5, zf⟩ := HX3.out
  obtain ⟨h1, h2, h3, h4, h5, h6⟩ := H3.out
  obtain ⟨c0, f0⟩ := h6 (h * 6) (by omega)
  obtain ⟨c1, f1⟩ := h6 (h * 6 + 1) (by omega)
  obtain ⟨c2, f2⟩ := h6 (h * 6 + 2) (by omega)
  obtain ⟨c3, f3⟩ := h6 (h * 6 + 3) (by omega)
  obtain ⟨c4, f4⟩ := h6 (h * 6 + 4) (by omega)
  obtain ⟨c5, f5⟩ := h6 (h * 6 + 5) (by omega)
  have hhi : (h : Int) < k := by omega
  clear h6 zf
  obtain ⟨ws, hws, hreg, hkeep⟩ := reg_store H3.out hh (.int .i64 b) (.int .i64 l) (.int .i64 c) (.int .i64 q) (.int .i64 t) (.bool v)
  have HREG := Lib.hid hreg
  have HKP : Hid (Keeps g W ws) := Lib.hid ⟨(HB3.out.mono (Nat.le_of_lt HH.out.2.1)).trans hkeep.1, fun i hi hn => (hkeep.2 i (Nat.lt_of_lt_of_le hi HB3.out.size) hn).trans (HB3.out.block i hi)⟩
  clear hreg hkeep
  go_upto_region 5 with (fail)
  go_region
  all_goals
    go_wp2
    go_ret
    first
      | exact ⟨rfl, HREG.out, HKP.out⟩
      | exact ⟨rfl, HREG.out.below (Below.refl _ _).drew, ⟨HKP.out.1.drew, HKP.out.2⟩⟩
set_option maxHeartbeats 800000 in
theorem rclear_no (p g k h : Nat) (W : World) (V : Nat → Value) (H : RegAt p g k W V) (hh : h < k) (e5 : V (h * 6 + 5) = .bool false) :
    Calls Try.prog 6 #[.pointer (some ⟨p, 0, none⟩), .int .i64 (h : Nat)] W fun e w' => e = .returned (.bool false) ∧ W = w' := by
  have HH := Lib.hid H
  obtain ⟨h1, h2, h3, h4, h5, h6⟩ := H
  have c5 := (h6 (h * 6 + 5) (by omega)).1
  rw [e5] at c5
  have hhi : (h : Int) < k := by omega
  clear h6 e5
  go_enter Try.func6, Try.ntmps6
  go_wp2_with fail
  refine (rthere_any p g k h _ V HH.out true (by simp; omega)).mono ?_
  rintro e w' ⟨rfl, rfl⟩
  go_wp2
  go_ret
  exact ⟨rfl, rfl⟩
set_option maxHeartbeats 800000 in
theorem rclear_yes (p g k h : Nat) (W : World) (V : Nat → Value) (H : RegAt p g k W V) (hh : h < k) (e5 : V (h * 6 + 5) = .bool true) :
    Calls Try.prog 6 #[.pointer (some ⟨p, 0, none⟩), .int .i64 (h : Nat)] W fun e w' => e = .returned (.bool true) ∧ RegAt p g k w' (putV V h #[.int .i64 0, .int .i64 0, .int .i64 0, .int .i64 0, .int .i64 0, .bool false]) ∧ Keeps g W w' := by
  have HH := Lib.hid H
  obtain ⟨h1, h2, h3, h4, h5, h6⟩ := H
  obtain ⟨c0, f0⟩ := h6 (h * 6) (by omega)
  obtain ⟨c1, f1⟩ := h6 (h * 6 + 1) (by omega)
  obtain ⟨c2, f2⟩ := h6 (h * 6 + 2) (by omega)
  obtain ⟨c3, f3⟩ := h6 (h * 6 + 3) (by omega)
  obtain ⟨c4, f4⟩ := h6 (h * 6 + 4) (by omega)
  obtain ⟨c5, f5⟩ := h6 (h * 6 + 5) (by omega)
  rw [e5] at c5
  have hhi : (h : Int) < k := by omega
  obtain ⟨ws, hws, hreg, hkeep⟩ := reg_store HH.out hh (.int .i64 0) (.int .i64 0) (.int .i64 0) (.int .i64 0) (.int .i64 0) (.bool false)
  have HREG := Lib.hid hreg
  have HKP := Lib.hid hkeep
  clear h6 e5 hreg hkeep
  go_enter Try.func6, Try.ntmps6
  go_wp2_with fail
  refine (rthere_any p g k h _ V HH.out true (by simp; omega)).mono ?_
  rintro e w' ⟨rfl, rfl⟩
  go_wp2
  go_ret
  exact ⟨rfl, HREG.out, HKP.out⟩
end Go.Proofs.Ytpciigahikciiaa
