/- RegsPlays: its array; the state of its loop. -/
import Derived.Test.YtpciigahikciiaaRegR
import Derived.Deep.WholeRow
import Derived.Deep.DeepCutAuto
import Derived.Deep.CutBlock
namespace Go.Proofs.Ytpciigahikciiaa
open Go.RowKit
set_option linter.unusedVariables false
set_option linter.unusedSimpArgs false

def ZC : Array Value := Array.ofFn (n := 96) fun i => zeroV i
theorem infoZ : (Try.prog.info? 29).map (fun i => (i.zero, i.size)) = some (some (.agg ZC), 96) := by kernel_rfl
theorem zeroZ (W : World) : (zeroValue 29).run Try.prog W = .ok (.agg ZC) W := by
  cases hi : Try.prog.info? 29 with
  | none => have := infoZ; rw [hi] at this; cases this
  | some i0 =>
    have h := infoZ
    rw [hi] at h
    injection h with h
    injection h with hz0 h
    simp [zeroValue, typeInfo, hi, hz0]
theorem ZC_size : ZC.size = 96 := by simp [ZC]
theorem ZC_at (i : Nat) (hi : i < 96) : ZC[i]? = some (zeroV i) := by simp [ZC, hi]
theorem sizeZ : (Try.prog.info? 29).map (·.size) = some ZC.size := by
  have h := infoZ
  cases hi : Try.prog.info? 29 with
  | none => rw [hi] at h; cases h
  | some i0 =>
    rw [hi] at h
    injection h with h
    injection h with _ h
    simp [ZC_size, h]
theorem storeZ (W : World) : (storeCells ⟨W.heap.size, 0, none⟩ ZC.toList 0).run Try.prog (W.alloc (.cells ZC 29)) = .ok () (W.alloc (.cells ZC 29)) :=
  run_storeCells_new (P := Try.prog) W 29 ZC ZC sizeZ rfl (by rw [Array.all_eq_true]; intro i hi; rw [show ZC[i] = zeroV i from by simp [ZC]]; exact zeroV_one i)
theorem CB.new (W : World) (t : TypeId) : CB W.heap.size 16 (W.alloc (.cells ZC t)) (fun _ => cap0) :=
  ⟨by simp, fun i hi => ⟨by rw [World.cell?_alloc_mark, ZC_at i (by omega), CV_zero], by simp⟩⟩
theorem RegAt.keep {p g k : Nat} {W W' : World} {V : Nat → Value} (h : RegAt p g k W V) (hs : W.heap.size ≤ W'.heap.size) (ep : W'.heap[p]? = W.heap[p]?) (eg : W'.heap[g]? = W.heap[g]?) : RegAt p g k W' V := by
  obtain ⟨h1, h2, h3, h4, h5, h6⟩ := h
  exact ⟨Nat.lt_of_lt_of_le h1 hs, Nat.lt_of_lt_of_le h2 hs, h3, h4, (World.cell?_of_block ep).trans h5, fun i hi => ⟨(World.cell?_of_block eg).trans (h6 i hi).1, (World.frozen?_of_block eg).trans (h6 i hi).2⟩⟩
/-- Registers hold f, the array f'. -/
def RS (p g M k B : Nat) (W0 w : World) (f f' : Nat → CapV) : Prop :=
  RegAt p g k w (CV f) ∧ CB M 16 w f' ∧ (p ≠ M ∧ g ≠ M ∧ B ≤ p ∧ B ≤ g ∧ B ≤ M) ∧ Below B W0 w
theorem RS.below {p g M k B : Nat} {W0 w w' : World} {f f' : Nat → CapV} (h : RS p g M k B W0 w f f') (hb : Below w.heap.size w w') : RS p g M k B W0 w' f f' := by
  obtain ⟨h1, h2, h3, h4⟩ := h
  refine ⟨h1.below hb, h2.below hb, h3, h4.trans (hb.mono ?_)⟩
  have := h1.1; omega
theorem RS.put {p g M k B : Nat} {W0 w w' : World} {f f' f2 : Nat → CapV} (h : RS p g M k B W0 w f f') (h2 : RegAt p g k w' (CV f2)) (hk : Keeps g w w') : RS p g M k B W0 w' f2 f' := by
  obtain ⟨h1, hm, ⟨d1, d2, d3, d4, d5⟩, h4⟩ := h
  exact ⟨h2, hm.keep hk.1.size (hk.2 M hm.1 (Ne.symm d2)), ⟨d1, d2, d3, d4, d5⟩, h4.trans (hk.1.mono d4)⟩
theorem RS.st {p g M k B : Nat} {W0 w w' : World} {f f' f2 : Nat → CapV} (h : RS p g M k B W0 w f f') (h2 : CB M 16 w' f2) (hk : Keeps M w w') : RS p g M k B W0 w' f f2 := by
  obtain ⟨h1, hm, ⟨d1, d2, d3, d4, d5⟩, h4⟩ := h
  exact ⟨h1.keep hk.1.size (hk.2 p h1.1 d1) (hk.2 g h1.2.1 d2), h2, ⟨d1, d2, d3, d4, d5⟩, h4.trans (hk.1.mono d5)⟩
theorem RS.reg {p g M k B : Nat} {W0 w : World} {f f' : Nat → CapV} (h : RS p g M k B W0 w f f') : RegAt p g k w (CV f) := h.1
theorem RS.cb {p g M k B : Nat} {W0 w : World} {f f' : Nat → CapV} (h : RS p g M k B W0 w f f') : CB M 16 w f' := h.2.1
theorem RS.wb {p g M k B : Nat} {W0 w : World} {f f' : Nat → CapV} (h : RS p g M k B W0 w f f') : Below B W0 w := h.2.2.2
theorem RS.lt {p g M k B : Nat} {W0 w : World} {f f' : Nat → CapV} (h : RS p g M k B W0 w f f') : p < w.heap.size ∧ g < w.heap.size ∧ M < w.heap.size := ⟨h.1.1, h.1.2.1, h.2.1.1⟩
theorem RS.low {p g M k B z : Nat} {W0 w w' : World} {f f' : Nat → CapV} (h : RS p g M k B W0 w f f') (hp : p < z) (hg : g < z) (hM : M < z) (hb : Below z w w') : RS p g M k B W0 w' f f' := by
  obtain ⟨h1, hm, ⟨d1, d2, d3, d4, d5⟩, h4⟩ := h
  exact ⟨h1.keep hb.size (hb.block p hp) (hb.block g hg), hm.keep hb.size (hb.block M hM), ⟨d1, d2, d3, d4, d5⟩, h4.trans (hb.mono (by omega))⟩
theorem meet_get (f : Nat → CapV) (a n : Int) (h k : Nat) (hh : h < k) (hm : meetsC (f h) a n = true) : (meetL f a n h).length < (meetL f a n k).length ∧ (meetL f a n k).getD (meetL f a n h).length 0 = (h : Int) ∧ (meetL f a n (h + 1)).length = (meetL f a n h).length + 1 := by
  obtain ⟨r, hr⟩ := meetL_pre f a n k (h + 1) (by omega)
  have hs := meetL_succ f a n h
  rw [hm] at hs
  simp only [if_true] at hs
  rw [hr, hs]
  refine ⟨by simp <;> omega, ?_, by simp⟩
  simp [List.getD]
theorem meet_not (f : Nat → CapV) (a n : Int) (h : Nat) (hm : meetsC (f h) a n = false) : (meetL f a n (h + 1)).length = (meetL f a n h).length := by
  rw [meetL_succ, hm]
  simp
/-- What is none is nothing. -/
def NoV (f : Nat → CapV) : Prop := ∀ h, (f h).v = false → f h = cap0
theorem NoV.upd {f : Nat → CapV} (h : NoV f) (i : Nat) (x : CapV) (hx : x.v = false → x = cap0) : NoV (updC f i x) := fun j => by
  unfold updC
  split
  · exact hx
  · exact h j
theorem may_no {x : CapV} (h : capMayB x.b x.l x.c x.p x.t x.v = true) (hv : x.v = false) : x = cap0 := by
  obtain ⟨b, l, c, p, t, v⟩ := x
  obtain rfl : v = false := hv
  simp [capMayB] at h
  simp [cap0, h]
theorem upd_no {f : Nat → CapV} (h : NoV f) (i : Nat) (hv : (f i).v = false) : updC f i cap0 = f := by
  funext j
  unfold updC
  split
  · rename_i e; rw [e, h i hv]
  · rfl
theorem CapAt.keepM {x M : Nat} {W W' : World} {b l c p t : Int} {v : Bool} (h : CapAt x W b l c p t v) (hx : x ≠ M) (hk : Keeps M W W') : CapAt x W' b l c p t v := h.keep hk.1.size (hk.2 x h.1 hx)
set_option maxHeartbeats 800000 in
theorem rclear_out (p g k : Nat) (h : Int) (W : World) (V : Nat → Value) (H : RegAt p g k W V) (hh : decide (0 ≤ h ∧ h < k) = false) :
    Calls Try.prog 6 #[.pointer (some ⟨p, 0, none⟩), .int .i64 h] W fun e w' => e = .returned (.bool false) ∧ W = w' := by
  have HH := Lib.hid H
  have HR := Lib.hid hh
  clear H hh
  go_enter Try.func6, Try.ntmps6
  go_wp2_with fail
  refine (rthere_any p g k h _ V HH.out false HR.out).mono ?_
  rintro e w' ⟨rfl, rfl⟩
  go_wp2
  go_ret
  exact ⟨rfl, rfl⟩
theorem cclear_yes (p g k h : Nat) (W : World) (f : Nat → CapV) (H : RegAt p g k W (CV f)) (hh : h < k) (e5 : (f h).v = true) :
    Calls Try.prog 6 #[.pointer (some ⟨p, 0, none⟩), .int .i64 (h : Nat)] W fun e w' => e = .returned (.bool true) ∧ RegAt p g k w' (CV (updC f h cap0)) ∧ Keeps g W w' := by
  have h1 := rclear_yes p g k h W _ H hh (by rw [CV_5, e5])
  have e := CV_put f h cap0
  rw [show cap0.vs = #[.int .i64 0, .int .i64 0, .int .i64 0, .int .i64 0, .int .i64 0, .bool false] from rfl] at e
  rw [e] at h1
  exact h1
end Go.Proofs.Ytpciigahikciiaa
