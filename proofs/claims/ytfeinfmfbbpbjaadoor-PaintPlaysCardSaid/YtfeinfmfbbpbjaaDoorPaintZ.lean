/- The methods of a nil paint; Twin. -/
import Derived.Test.YtfeinfmfbbpbjaaDoorPaint
import Derived.Test.YtfeinfmfbbpbjaaDoorSetV
import Derived.Test.YtfeinfmfbbpbjaaDoorSetZ
namespace Go.Proofs.YtfeinfmfbbpbjaaDoor
open Go.RowKit
set_option linter.unusedVariables false
set_option linter.unusedSimpArgs false

theorem nptset (W : World) :
    Calls Tryd.prog 28 #[.pointer none] W fun e w' => e = .returned (.pointer none) ∧ W = w' := by
  go_enter Tryd.func28, Tryd.ntmps28
  go_wp2
  go_ret
  exact ⟨rfl, rfl⟩
theorem nptcount (W : World) :
    Calls Tryd.prog 15 #[.pointer none] W fun e w' => e = .returned (.int .i64 0) ∧ W = w' := by
  go_enter Tryd.func15, Tryd.ntmps15
  go_wp2_with fail
  refine (nptset _).mono ?_
  rintro e w' ⟨rfl, rfl⟩
  go_wp2_with fail
  refine (zcount _).mono ?_
  rintro e w' ⟨rfl, rfl⟩
  go_wp2
  go_ret
  exact ⟨rfl, rfl⟩
theorem npttwin (W : World) :
    Calls Tryd.prog 11 #[.pointer none] W fun e w' => e = .returned (.pointer none) ∧ W = w' := by
  go_enter Tryd.func11, Tryd.ntmps11
  go_wp2
  go_ret
  exact ⟨rfl, rfl⟩
theorem nptput (b l : Int) (W : World) :
    Calls Tryd.prog 8 #[.pointer none, .agg #[.int .i64 b, .int .i64 l]] W fun e w' => e = .returned (.int .i64 0) ∧ Below W.heap.size W w' := by
  go_enter Tryd.func8, Tryd.ntmps8
  go_upto_region 1 with (fail)
  go_region_with (first | (go_at_call 28; refine (nptset _).mono ?_; rintro e w' ⟨rfl, rfl⟩) | (go_at_call 30; refine (granules_any b l _).mono ?_; rintro e w1 ⟨rfl, hb⟩; have hb1 : Below W.heap.size W w1 := thn (alc0 W (.cells #[.int .i64 b, .int .i64 l] 29)) (by first | exact hb | exact (Below.refl _ _).drew.trans hb)) | (go_at_call 29; refine (zputall _ _ _).mono ?_; rintro e w2 ⟨rfl, rfl⟩))
  all_goals go_wp2
  all_goals
    go_ret
    exact ⟨rfl, by first | exact hb1 | exact hb1.drew⟩
theorem nptclean (b l : Int) (W : World) :
    Calls Tryd.prog 9 #[.pointer none, .agg #[.int .i64 b, .int .i64 l]] W fun e w' => e = .returned (.int .i64 0) ∧ Below W.heap.size W w' := by
  go_enter Tryd.func9, Tryd.ntmps9
  go_upto_region 1 with (fail)
  go_region_with (first | (go_at_call 28; refine (nptset _).mono ?_; rintro e w' ⟨rfl, rfl⟩) | (go_at_call 30; refine (granules_any b l _).mono ?_; rintro e w1 ⟨rfl, hb⟩; have hb1 : Below W.heap.size W w1 := thn (alc0 W (.cells #[.int .i64 b, .int .i64 l] 29)) (by first | exact hb | exact (Below.refl _ _).drew.trans hb)) | (go_at_call 31; refine (zdropall _ _ _).mono ?_; rintro e w2 ⟨rfl, rfl⟩))
  all_goals go_wp2
  all_goals
    go_ret
    exact ⟨rfl, by first | exact hb1 | exact hb1.drew⟩
theorem nptsome (b l : Int) (W : World) :
    Calls Tryd.prog 13 #[.pointer none, .agg #[.int .i64 b, .int .i64 l]] W fun e w' => e = .returned (.bool false) ∧ Below W.heap.size W w' := by
  go_enter Tryd.func13, Tryd.ntmps13
  go_upto_region 1 with (fail)
  go_region_with (first | (go_at_call 28; refine (nptset _).mono ?_; rintro e w' ⟨rfl, rfl⟩) | (go_at_call 30; refine (granules_any b l _).mono ?_; rintro e w1 ⟨rfl, hb⟩; have hb1 : Below W.heap.size W w1 := thn (alc0 W (.cells #[.int .i64 b, .int .i64 l] 29)) (by first | exact hb | exact (Below.refl _ _).drew.trans hb)) | (go_at_call 33; refine (zsome _ _ _).mono ?_; rintro e w2 ⟨rfl, rfl⟩))
  all_goals go_wp2
  all_goals
    go_ret
    exact ⟨rfl, by first | exact hb1 | exact hb1.drew⟩
theorem npthas (x : Int) (W : World) :
    Calls Tryd.prog 10 #[.pointer none, .int .i64 x] W fun e w' => e = .returned (.bool false) ∧ Below W.heap.size W w' := by
  go_enter Tryd.func10, Tryd.ntmps10
  go_wp2_with fail
  refine (nptsome x 1 _).mono ?_
  rintro e w' ⟨rfl, hb⟩
  go_wp2
  go_ret
  exact ⟨rfl, hb⟩
set_option maxHeartbeats 3200000 in
theorem nptwhole_yes (b l : Int) (W : World) (hm : mayB b l = true) :
    Calls Tryd.prog 14 #[.pointer none, .agg #[.int .i64 b, .int .i64 l]] W fun e w' => e = .returned (.bool false) ∧ Below W.heap.size W w' := by
  have HM := Lib.hid hm
  clear hm
  go_enter Tryd.func14, Tryd.ntmps14
  go_upto_region 1 with (fail)
  go_region_with (first | (go_at_call 34; refine (may_is true _ _ _ HM.out).mono ?_; rintro e w0 ⟨rfl, hb⟩; have hb0 : Below W.heap.size W w0 := thn (alc0 W (.cells #[.int .i64 b, .int .i64 l] 29)) (by first | exact hb | exact (Below.refl _ _).drew.trans hb); obtain ⟨k0, k1⟩ := box_cells (W := W) (w0 := w0) (b := b) (l := l) (T := 29) (by first | exact hb | exact (Below.refl _ _).drew.trans hb)) | (go_at_call 28; refine (nptset _).mono ?_; rintro e w' ⟨rfl, rfl⟩) | (go_at_call 30; refine (granules_any b l _).mono ?_; rintro e w1 ⟨rfl, hbg⟩; have hb1 : Below W.heap.size W w1 := thn hb0 (by first | exact hbg | exact (Below.refl _ _).drew.trans hbg)) | (go_at_call 35; refine (zwhole _ _ _).mono ?_; rintro e w2 ⟨rfl, rfl⟩))
  all_goals go_wp2
  all_goals
    go_ret
    exact ⟨rfl, by first | exact hb1 | exact hb1.drew⟩
theorem nptwhole (b l : Int) (W : World) :
    Calls Tryd.prog 14 #[.pointer none, .agg #[.int .i64 b, .int .i64 l]] W fun e w' => e = .returned (.bool false) ∧ Below W.heap.size W w' := by
  cases hm : mayB b l
  · exact ptwhole_no b l none W hm
  · exact nptwhole_yes b l W hm

def PtTwinPost (W : World) (c : Int) (ws : List Nat) (e : Ending) (w' : World) : Prop :=
  ∃ g p, e = .returned (.pointer (some ⟨p, 0, none⟩)) ∧ PtIs W.heap.size p g p w' c ws ∧ Below W.heap.size W w'
theorem pttwin {lo hi g p : Nat} {W : World} {c : Int} {ws : List Nat} (h : PtIs lo hi g p W c ws) :
    Calls Tryd.prog 11 #[.pointer (some ⟨p, 0, none⟩)] W (PtTwinPost W c ws) := by
  obtain ⟨h1, ⟨h2, h3⟩, h4, h5⟩ := h
  have H := Lib.hid h1; clear h1
  go_enter Tryd.func11, Tryd.ntmps11
  go_wp2_with fail
  refine (stwin_any _ _ _ _ _ _ _ H.out).mono ?_
  rintro e v1 ⟨g2, rfl, hs, hb1⟩
  have HS := Lib.hid hs; clear hs
  go_wp2_with fail
  go_ret
  exact ⟨g2, v1.heap.size, rfl, ⟨HS.out.keep (by simp) (fun i _ hi => heap_old _ _ _ hi), ⟨Nat.le_refl _, by simp⟩, h4, by simp⟩, alc hb1 _⟩
end Go.Proofs.YtfeinfmfbbpbjaaDoor
