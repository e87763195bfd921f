/- TagsS. -/
import Derived.Test.YtnfcpohbdkionaaGreatDoorZ16
namespace Go.Proofs.YtnfcpohbdkionaaGreatDoor
set_option maxRecDepth 100000
open Go.RowKit
set_option linter.unusedVariables false
set_option linter.unusedSimpArgs false
def setF (f : Nat → Nat) (g j v : Nat) : Nat → Nat := fun y => if g ≤ y ∧ y < g + j then v else f y
theorem setF_lt {f : Nat → Nat} {g j v : Nat} (h : ∀ y, f y < 16) (hv : v < 16) : ∀ y, setF f g j v y < 16 := by
  intro y; unfold setF; split; exact hv; exact h y
theorem n15 (a b : Nat) (ha : a < 16) (hb : b < 16) : bits .andNot .u8 ((a : Int) + 16 * b) 15 = 16 * b := by
  have all : ∀ a b : Fin 16, bits .andNot .u8 ((a.val : Int) + 16 * b.val) 15 = 16 * b.val := by decide +kernel
  exact all ⟨a, ha⟩ ⟨b, hb⟩
theorem n240 (a b : Nat) (ha : a < 16) (hb : b < 16) : bits .andNot .u8 ((a : Int) + 16 * b) 240 = a := by
  have all : ∀ a b : Fin 16, bits .andNot .u8 ((a.val : Int) + 16 * b.val) 240 = a.val := by decide +kernel
  exact all ⟨a, ha⟩ ⟨b, hb⟩
theorem o_lo (b v : Nat) (hb : b < 16) (hv : v < 16) : bits .or .u8 (16 * (b : Int)) v = v + 16 * b := by
  have all : ∀ b v : Fin 16, bits .or .u8 (16 * (b.val : Int)) v.val = v.val + 16 * b.val := by decide +kernel
  exact all ⟨b, hb⟩ ⟨v, hv⟩
theorem o_hi (a v : Nat) (ha : a < 16) (hv : v < 16) : bits .or .u8 (a : Int) (16 * (v : Int)) = a + 16 * v := by
  have all : ∀ a v : Fin 16, bits .or .u8 (a.val : Int) (16 * (v.val : Int)) = a.val + 16 * v.val := by decide +kernel
  exact all ⟨a, ha⟩ ⟨v, hv⟩
theorem o_hi2 (a v : Nat) (ha : a < 16) (hv : v < 16) : bits .or .u8 (a : Int) ((v : Int) * 16) = a + 16 * v := by
  rw [Int.mul_comm]; exact o_hi a v ha hv
theorem wv16 (v : Nat) (hv : v < 16) : IntKind.u8.wrap ((v : Int) * 16) = v * 16 := by rw [IntKind.wrap_u8]; omega
theorem TagIs.step {p x h : Nat} {W : World} {f : Nat → Nat} {v g j : Nat} (H : TagIs p W (setF f g j v)) (hf : ∀ y, f y < 16) (hv : v < 16) (hx : x = g + j) (hxh : x = 2 * h ∨ x = 2 * h + 1) (hh : h < 8192) (u : Int) (hu : u = ((setF f g (j + 1) v (2 * h) + 16 * setF f g (j + 1) v (2 * h + 1) : Nat) : Int)) : TagIs p (W.setCell ⟨p, h, none⟩ (.int .u8 u)) (setF f g (j + 1) v) := by
  obtain ⟨h1, h2, h3⟩ := H
  refine ⟨by simp [World.setCell]; exact h1, setF_lt hf hv, fun i hi => ?_⟩
  obtain ⟨a, b⟩ := h3 i hi
  refine ⟨?_, by simp [b]⟩
  by_cases e : h = i
  · subst e
    rw [World.cell?_setCell_same _ _ _ a, hu]
  · rw [World.cell?_setCell_other _ _ _ _ (by intro q; injection q with _ q; exact e q), a]
    have e1 : setF f g (j + 1) v (2 * i) = setF f g j v (2 * i) := by unfold setF; split <;> split <;> first | rfl | omega
    have e2 : setF f g (j + 1) v (2 * i + 1) = setF f g j v (2 * i + 1) := by unfold setF; split <;> split <;> first | rfl | omega
    rw [e1, e2]
theorem heap_far (W : World) (p h : Nat) (v : Value) (i : Nat) (hi : i ≠ p) : (W.setCell ⟨p, h, none⟩ v).heap[i]? = W.heap[i]? := Below.heap_setCell W ⟨p, h, none⟩ v i hi
theorem tail_set {p h : Nat} {W wr : World} {v : Value} (hb : Below p W wr ∧ wr.heap.size = W.heap.size ∧ ∀ i, p < i → wr.heap[i]? = W.heap[i]?) : Below p W (wr.setCell ⟨p, h, none⟩ v).drew ∧ (wr.setCell ⟨p, h, none⟩ v).drew.heap.size = W.heap.size ∧ ∀ i, p < i → (wr.setCell ⟨p, h, none⟩ v).drew.heap[i]? = W.heap[i]? :=
  ⟨(hb.1.setCell (Nat.le_refl _) v).drew, by show (wr.setCell ⟨p, h, none⟩ v).heap.size = _; simp [World.setCell]; exact hb.2.1, fun i hi => (heap_far wr p h v i (by omega)).trans (hb.2.2 i hi)⟩
def TSetPost (p : Nat) (W : World) (f : Nat → Nat) (g n v : Nat) (e : Ending) (w' : World) : Prop :=
  e = .returned (.bool true) ∧ TagIs p w' (setF f g n v) ∧ Below p W w' ∧ w'.heap.size = W.heap.size ∧ ∀ i, p < i → w'.heap[i]? = W.heap[i]?
set_option maxRecDepth 30000 in
set_option maxHeartbeats 4000000 in
theorem tset_yes (p g n v : Nat) (f : Nat → Nat) (W : World) (H : TagIs p W f) (hg : g + n ≤ 16384) (hn : 1 ≤ n) (hv : v < 16) :
    Calls Tryz.prog 51 #[.pointer (some ⟨p, 0, none⟩), .int .i64 g, .int .i64 n, .int .i64 v] W (TSetPost p W f g n v) := by
  have hf := H.2.1
  have HF := Lib.hid hf; clear hf
  have HT : Hid (thereT g n) := Lib.hid (by unfold thereT; omega)
  have HH := Lib.hid H; clear H
  have v0 : ¬ (v : Int) < 0 := by omega
  have v1 : ¬ (15 : Int) < (v : Int) := by omega
  go_enter Tryz.func51, Tryz.ntmps51
  go_wp2_with fail
  refine (tthere_is true _ _ _ (decide_eq_true HT.out)).mono ?_
  rintro e w' ⟨rfl, rfl⟩
  go_wp2_with fail
  have hz : setF f g 0 v = f := by funext y; unfold setF; rw [if_neg (by omega)]
  go_loopw [9] (fun v9 wr => ∃ j : Nat, j ≤ n ∧ v9 = .int .i64 ((g : Int) + j) ∧ Hid (TagIs p wr (setF f g j v)) ∧ Hid (Below p W wr ∧ wr.heap.size = W.heap.size ∧ ∀ i, p < i → wr.heap[i]? = W.heap[i]?)) (fun v9 _ => ((g : Int) + n - intOf v9).toNat)
  case atStart => exact ⟨0, by omega, congrArg (Value.int .i64) (by omega), by rw [hz]; exact HH, Lib.hid ⟨Below.refl _ _, rfl, fun _ _ => rfl⟩⟩
  case round =>
    clear hz HH
    obtain ⟨j, hj, rfl, HR, HB⟩ := hrel
    by_cases hlt : j < n
    · obtain ⟨x, hx⟩ : ∃ x, g + j = x := ⟨_, rfl⟩
      have hx2 : x < 16384 := by omega
      have hcx : (g : Int) + j = (x : Int) := by omega
      rw [hcx]
      have l1 : (x : Int) < (g : Int) + n := by omega
      clear hcx
      obtain ⟨h, hh⟩ : ∃ h, x / 2 = h := ⟨_, rfl⟩
      have hh2 : h < 8192 := by omega
      have hxh : x = 2 * h ∨ x = 2 * h + 1 := by omega
      have HXH := Lib.hid hxh
      obtain ⟨k1, k2⟩ := HR.out.2.2 h hh2
      have ha := HR.out.2.1 (2 * h)
      have hb := HR.out.2.1 (2 * h + 1)
      have HU : Hid (setF f g (j + 1) v x = v ∧ ∀ y, y ≠ x → setF f g (j + 1) v y = setF f g j v y) := Lib.hid ⟨by unfold setF; rw [if_pos (by omega)], fun y hy => by unfold setF; split <;> split <;> first | rfl | omega⟩
      obtain ⟨a, hA⟩ : ∃ a, setF f g j v (2 * h) = a := ⟨_, rfl⟩
      obtain ⟨b, hB⟩ : ∃ b, setF f g j v (2 * h + 1) = b := ⟨_, rfl⟩
      rw [hA] at k1 ha
      rw [hB] at k1 hb
      have HA := Lib.hid hA; have HBB := Lib.hid hB
      have g1 : ((x : Int)).tdiv 2 = (h : Int) := by rw [Int.tdiv_eq_ediv_of_nonneg (by omega)]; omega
      have g2 : (x : Int) / 2 = (h : Int) := by omega
      have g3 : (0 : Int) ≤ (h : Int) := by omega
      have g4 : (h : Int) < 8192 := by omega
      have g5 : (h : Int).toNat = h := Int.toNat_natCast h
      have HX := Lib.hid hx
      clear hA hB hh hxh hx hj
      go_wp2_with fail
      have HX2 := Lib.hid hx2; have HH2 := Lib.hid hh2; have HG := Lib.hid hg; have HV := Lib.hid hv
      have HLT := Lib.hid hlt
      clear hx2 hh2 hg l1 hlt hv v0 v1
      rcases HXH.out with rfl | rfl
      · have HAB := Lib.hid (And.intro ha hb)
        have HS := Lib.hid (fun (W' : World) => tshift_is 0 (2 * h) W' HX2.out (by omega))
        have gw : IntKind.i64.wrap (h : Int) = h := IntWalk.i64_in _ (by omega)
        clear ha hb g1 g2
        go_region_with (go_at_call 85; refine (HS.out _).mono ?_; rintro e w' ⟨rfl, rfl⟩)
        all_goals go_wp2
        all_goals
          go_roundw
          case rel => exact ⟨j + 1, by have := HLT.out; omega, congrArg (Value.int .i64) (by have := HX.out; omega), Lib.hid (HR.out.step HF.out HV.out HX.out.symm (.inl rfl) HH2.out _ (by rw [n15 a b HAB.out.1 HAB.out.2, o_lo b v HAB.out.2 HV.out, HU.out.1, HU.out.2 _ (by omega), HBB.out]; omega)), Lib.hid (tail_set HB.out)⟩
          case measure => (have h1 := HX.out; have h2 := HLT.out; simp [intOf]; omega)
      · have HAB := Lib.hid (And.intro ha hb)
        have HS := Lib.hid (fun (W' : World) => tshift_is 4 (2 * h + 1) W' HX2.out (by omega))
        have gw : IntKind.i64.wrap (h : Int) = h := IntWalk.i64_in _ (by omega)
        have g6 : (2 * (h : Int) + 1).tdiv 2 = (h : Int) := by rw [Int.tdiv_eq_ediv_of_nonneg (by omega)]; omega
        have g7 : (2 * (h : Int) + 1) / 2 = (h : Int) := by omega
        clear ha hb g1 g2
        go_region_with (go_at_call 85; refine (HS.out _).mono ?_; rintro e w' ⟨rfl, rfl⟩)
        all_goals go_wp2
        all_goals
          go_roundw
          case rel => exact ⟨j + 1, by have := HLT.out; omega, congrArg (Value.int .i64) (by have := HX.out; omega), Lib.hid (HR.out.step HF.out HV.out HX.out.symm (.inr rfl) HH2.out _ (by rw [n240 a b HAB.out.1 HAB.out.2]; (try rw [wv16 v HV.out]); rw [o_hi2 a v HAB.out.1 HV.out, HU.out.1, HU.out.2 _ (by omega), HA.out]; omega)), Lib.hid (tail_set HB.out)⟩
          case measure => (have h1 := HX.out; have h2 := HLT.out; simp [intOf]; omega)
    · obtain rfl : j = n := by omega
      have l1 : ¬ (g : Int) + j < (g : Int) + j := by omega
      go_wp2_with fail
      go_ret
      exact ⟨rfl, HR.out, HB.out⟩
/-- Whether all of a stretch have a tag. -/
def allR (f : Nat → Nat) (g : Nat) (v : Int) : Nat → Bool
  | 0 => true
  | k + 1 => allR f g v k && decide ((f (g + k) : Int) = v)
theorem allR_false {f : Nat → Nat} {g : Nat} {v : Int} {k n : Nat} (h : allR f g v (k + 1) = false) (hk : k < n) : allR f g v n = false := by
  induction n with
  | zero => omega
  | succ n ih =>
    by_cases e : k = n
    · rw [← e]; exact h
    · rw [allR, ih (by omega)]; rfl
set_option maxHeartbeats 800000 in
theorem tall_in (p g n : Nat) (v : Int) (f : Nat → Nat) (W : World) (H : TagIs p W f) (hg : g + n ≤ 16384) (hn : 1 ≤ n) :
    Calls Tryz.prog 102 #[.pointer (some ⟨p, 0, none⟩), .int .i64 g, .int .i64 n, .int .i64 v] W fun e w' => e = .returned (.bool (allR f g v n)) ∧ ∃ q, w' = W.drewN q := by
  have HT : Hid (thereT g n) := Lib.hid (by unfold thereT; omega)
  have HH := Lib.hid H; clear H
  have hg1 : (g : Int) + n ≤ 16384 := by omega
  have HG := Lib.hid hg; clear hg
  go_enter Tryz.func102, Tryz.ntmps102
  go_wp2_with fail
  refine (tthere_is true _ _ _ (decide_eq_true HT.out)).mono ?_
  rintro e w' ⟨rfl, rfl⟩
  go_wp2_with fail
  go_loopw [9] (fun v9 wr => ∃ j q : Nat, j ≤ n ∧ v9 = .int .i64 ((g : Int) + j) ∧ Hid (allR f g v j = true) ∧ Hid (wr = W.drewN q)) (fun v9 _ => ((g : Int) + n - intOf v9).toNat)
  case atStart => exact ⟨0, 0, by omega, congrArg (Value.int .i64) (by omega), Lib.hid rfl, Lib.hid rfl⟩
  case round =>
    obtain ⟨j, q, hj, rfl, HJ, HW⟩ := hrel
    by_cases hlt : j < n
    · obtain ⟨x, hx⟩ : ∃ x, g + j = x := ⟨_, rfl⟩
      have hcx : (g : Int) + j = (x : Int) := by omega
      rw [hcx]
      have l1 : (x : Int) < (g : Int) + n := by omega
      have HX := Lib.hid hx
      have hx2 : x < 16384 := by have := HG.out; omega
      have HG2 := Lib.hid (fun wq (e : wq = W.drewN q) => tget_in p x (x / 2) f wq (by rw [e]; exact HH.out) hx2 (by omega))
      clear hx hcx hx2
      by_cases he : (f x : Int) = v
      · have he2 : ((f x : Int) == v) = true := by simpa using he
        have HE := Lib.hid he; clear he
        obtain ⟨fx, hfx⟩ : ∃ fx, f x = fx := ⟨_, rfl⟩
        have HFX := Lib.hid hfx
        rw [hfx] at he2 HG2
        clear hfx
        go_wp2_with fail
        refine (HG2.out _ HW.out).mono ?_
        rintro e w' ⟨rfl, q2, hw2⟩
        go_wp2_with fail
        go_roundw
        case rel => exact ⟨j + 1, q + q2, by omega, congrArg (Value.int .i64) (by have := HX.out; omega), Lib.hid (by rw [allR, HJ.out, HX.out]; simpa using HE.out), Lib.hid (by first | (rw [hw2, HW.out]; simp; done) | (rw [HW.out]; simp))⟩
        case measure => (have h1 := HX.out; simp [intOf]; omega)
      · have he2 : ((f x : Int) == v) = false := by simpa using he
        have HE := Lib.hid he; clear he
        obtain ⟨fx, hfx⟩ : ∃ fx, f x = fx := ⟨_, rfl⟩
        have HFX := Lib.hid hfx
        rw [hfx] at he2 HG2
        clear hfx
        go_wp2_with fail
        refine (HG2.out _ HW.out).mono ?_
        rintro e w' ⟨rfl, q2, hw2⟩
        go_wp2_with fail
        go_ret
        exact ⟨ret_bool (allR_false (k := j) (by rw [allR, HX.out, decide_eq_false HE.out, Bool.and_false]) hlt).symm, q + q2, by first | (rw [hw2, HW.out]; simp; done) | (rw [HW.out]; simp)⟩
    · obtain rfl : j = n := by omega
      have l1 : ¬ (g : Int) + j < (g : Int) + j := by omega
      go_wp2_with fail
      go_ret
      exact ⟨ret_bool HJ.out.symm, q, HW.out⟩
end Go.Proofs.YtnfcpohbdkionaaGreatDoor
