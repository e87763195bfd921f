/- Memory: the statements' own example. -/
import Derived.Test.YtjbddhjjhjkpiaaDoorRRRMmI
import Derived.Test.YtjbddhjjhjkpiaaDoorRRRMmN
import Derived.Test.YtjbddhjjhjkpiaaDoorRRRMmR
import Derived.Lib.SlBytesConst
namespace Go.Proofs.YtjbddhjjhjkpiaaDoorRRR
set_option maxRecDepth 100000
open Go.RowKit Go.ChangeMaps Go.MapKept
set_option linter.unusedVariables false
set_option linter.unusedSimpArgs false

theorem cntF_onK {kp : Nat → Bool} {x n : Nat} (hx : x < n) (h : kp x = false) : cntF (onK kp x) n = cntF kp n + 1 := by
  have key : ∀ m, cntF (onK kp x) m = cntF kp m + if x < m then 1 else 0 := fun m => by
    induction m with
    | zero => rfl
    | succ m ih =>
      rw [cntF, cntF, ih]
      by_cases e : x = m
      · subst e
        have h1 : onK kp x x = true := by unfold onK; rw [decide_eq_true rfl, Bool.or_true]
        rw [h1, h, if_neg (show ¬ x < x by omega), if_pos (show x < x + 1 by omega)]
        simp
      · have h1 : onK kp x m = kp m := by unfold onK; rw [decide_eq_false e, Bool.or_false]
        rw [h1]
        by_cases e2 : x < m
        · rw [if_pos e2, if_pos (show x < m + 1 by omega)]; omega
        · rw [if_neg e2, if_neg (show ¬ x < m + 1 by omega)]; omega
  rw [key, if_pos hx]
theorem offF_none {kp : Nat → Bool} {f n x : Nat} (h : kp x = false) : offF kp f n x = false := by unfold offF; rw [h]; rfl
def b16 (i : Nat) : Nat := [48, 49, 50, 51, 52, 53, 54, 55, 56, 57, 97, 98, 99, 100, 101, 102].getD i 0
set_option maxHeartbeats 3200000 in
theorem w08awake (w : World) (ht : TzTab w) :
    Calls Tryd.prog 10 #[] w fun e w' => e = .returned (.bool true) ∧ Below w.heap.size w w' := by
  have T := Lib.hid ht; clear ht
  go_enter Tryd.func10, Tryd.ntmps10
  go_wp2_with fail
  refine (mnew 4 4 _ T.out (by decide)).mono ?_
  rintro e v1 ⟨M, col, rfl, hm1, hb1⟩
  have HM1 := Lib.hid hm1
  have HB1 := Lib.hid hb1
  clear hm1 hb1
  have K1 := Lib.hid (mmap_free 0 1 HM1.out (by decide) (fun y _ _ => rfl))
  go_wp2_with fail
  refine K1.out.mono ?_
  rintro e v2 (⟨h, _⟩ | ⟨-, rfl, hs2, -⟩)
  · exfalso
    have : cntF (newS 4).pg 1024 = 0 := cntF_none 1024
    rw [this] at h
    revert h
    decide
  have HS2 := Lib.hid hs2
  obtain ⟨col2, hm2, -, -, hb2⟩ := hs2
  have HB2 : Hid (Below w.heap.size w v2) := Lib.hid (HB1.out.trans hb2)
  have HM2 := Lib.hid hm2
  clear hb2 hm2 HS2 K1
  have hcv := Lib.run_convert_bytes_const (P := Tryd.prog) v2 35 5 #[.int .u8 48, .int .u8 49, .int .u8 50, .int .u8 51, .int .u8 52, .int .u8 53, .int .u8 54, .int .u8 55, .int .u8 56, .int .u8 57, .int .u8 97, .int .u8 98, .int .u8 99, .int .u8 100, .int .u8 101, .int .u8 102] 16 16 Tryd.underlying35 Tryd.underlying5
  go_wp2_with fail
  refine (mkeep_ok 16 v2.heap.size 0 16 b16 (HM2.out.later (alc0 _ _)) (by decide) (by decide) (fun i hi => ?_) (HM2.out.old (Nat.le_refl _))).mono ?_
  · have h16 : i = 0 ∨ i = 1 ∨ i = 2 ∨ i = 3 ∨ i = 4 ∨ i = 5 ∨ i = 6 ∨ i = 7 ∨ i = 8 ∨ i = 9 ∨ i = 10 ∨ i = 11 ∨ i = 12 ∨ i = 13 ∨ i = 14 ∨ i = 15 := by omega
    rw [Nat.zero_add, World.cell?_alloc_mark]
    rcases h16 with rfl | rfl | rfl | rfl | rfl | rfl | rfl | rfl | rfl | rfl | rfl | rfl | rfl | rfl | rfl | rfl <;> rfl
  rintro e v3 ⟨rfl, col3, hm3, -, -, hb3⟩
  have HB3 : Hid (Below w.heap.size w v3) := Lib.hid ((HB2.out.alloc HB2.out.size _).trans hb3)
  have HM3 := Lib.hid hm3
  clear hb3 hm3
  go_wp2_with fail
  refine (mread_ok 16 2 HM3.out (by decide)).mono ?_
  rintro e v4 ⟨D, rfl, hD, hP, hb4⟩
  have c0 : v4.cell? ⟨D, 0, none⟩ = some (.int .u8 0) := hP.2.1 0 (by decide)
  have hDz := hP.1
  have HB4 : Hid (Below w.heap.size w v4) := Lib.hid (HB3.out.trans (hb4.mono HB3.out.size))
  have HM4 := Lib.hid (HM3.out.later hb4)
  clear hP hb4
  go_wp2_with fail
  refine (mkept_yes 1 HM4.out (by decide)).mono ?_
  rintro e v5 ⟨D2, cap, rfl, hD2, hcap, hP2, hb5⟩
  have e0 : v5.cell? ⟨D2, 0, none⟩ = some (.int .u8 48) := hP2.2.1 0 (by decide)
  have e1 : v5.cell? ⟨D, 0, none⟩ = some (.int .u8 0) := (hb5.cell (p := ⟨D, 0, none⟩) hDz).trans c0
  have HB5 : Hid (Below w.heap.size w v5) := Lib.hid (HB4.out.trans (hb5.mono HB4.out.size))
  have hcc : cntF (keepS { newS 4 with pg := onF (newS 4).pg 0 1, peak := max (newS 4).peak ((cntF (newS 4).pg 1024 : Nat) + 1) } 16 b16).kp 16384 = 1 := by
    show cntF (onK (fun _ => false) 1) 16384 = 1
    rw [cntF_onK (by decide) rfl, cntF_none]
  have hc := mcaps (HM4.out.later hb5)
  rw [hcc] at hc
  have HC := Lib.hid hc
  clear hP2 hb5 hc hcc c0
  go_wp2_with fail
  refine HC.out.mono ?_
  rintro e w' ⟨rfl, rfl⟩
  go_wp2
  go_ret
  exact ⟨rfl, HB5.out⟩
end Go.Proofs.YtjbddhjjhjkpiaaDoorRRR
