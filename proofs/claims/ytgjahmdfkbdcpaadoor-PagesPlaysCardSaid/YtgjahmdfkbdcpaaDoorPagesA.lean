/- Package pages: the methods of none; the statements' own example. -/
import Derived.Test.YtgjahmdfkbdcpaaDoorPages
namespace Go.Proofs.YtgjahmdfkbdcpaaDoor
open Go.RowKit
set_option linter.unusedVariables false
set_option linter.unusedSimpArgs false

theorem npmap (W : World) : Calls Tryd.prog 21 #[.pointer none, .int .i64 0, .int .i64 1] W fun e w' => e = .returned (.int .i64 1) ∧ W = w' := by
  go_enter Tryd.func21, Tryd.ntmps21
  go_wp2
  go_ret
  exact ⟨rfl, rfl⟩
theorem npunmap (W : World) : Calls Tryd.prog 22 #[.pointer none, .int .i64 0, .int .i64 1] W fun e w' => e = .returned (.int .i64 1) ∧ W = w' := by
  go_enter Tryd.func22, Tryd.ntmps22
  go_wp2
  go_ret
  exact ⟨rfl, rfl⟩
theorem npused (W : World) : Calls Tryd.prog 23 #[.pointer none] W fun e w' => e = .returned (.int .i64 0) ∧ W = w' := by
  go_enter Tryd.func23, Tryd.ntmps23
  go_wp2
  go_ret
  exact ⟨rfl, rfl⟩
theorem npmost (W : World) : Calls Tryd.prog 25 #[.pointer none] W fun e w' => e = .returned (.int .i64 0) ∧ W = w' := by
  go_enter Tryd.func25, Tryd.ntmps25
  go_wp2
  go_ret
  exact ⟨rfl, rfl⟩
theorem nppeak (W : World) : Calls Tryd.prog 24 #[.pointer none] W fun e w' => e = .returned (.int .i64 0) ∧ W = w' := by
  go_enter Tryd.func24, Tryd.ntmps24
  go_wp2
  go_ret
  exact ⟨rfl, rfl⟩
theorem nplist (W : World) : Calls Tryd.prog 27 #[.pointer none] W fun e w' => e = .returned (.slice none 0 0) ∧ W = w' := by
  go_enter Tryd.func27, Tryd.ntmps27
  go_wp2
  go_ret
  exact ⟨rfl, rfl⟩
theorem npnext (W : World) : Calls Tryd.prog 29 #[.pointer none, .int .i64 0] W fun e w' => e = .returned (.int .i64 (-1)) ∧ W = w' := by
  go_enter Tryd.func29, Tryd.ntmps29
  go_wp2
  go_ret
  exact ⟨rfl, rfl⟩
theorem nphas (W : World) : Calls Tryd.prog 28 #[.pointer none, .int .i64 0] W fun e w' => e = .returned (.bool false) ∧ W = w' := by
  go_enter Tryd.func28, Tryd.ntmps28
  go_wp2
  go_ret
  exact ⟨rfl, rfl⟩
theorem npwhole (W : World) : Calls Tryd.prog 26 #[.pointer none, .int .i64 0, .int .i64 1] W fun e w' => e = .returned (.bool false) ∧ W = w' := by
  go_enter Tryd.func26, Tryd.ntmps26
  go_wp2
  go_ret
  exact ⟨rfl, rfl⟩

theorem put_zero_bits (f n y : Nat) (h : f + n ≤ 1024) : bitB (putN (List.replicate 16 0) f n).1 y = decide (f ≤ y ∧ y < f + n) := by
  rw [putN_bits _ _ _ _ (by simp; omega), bitB_none, Bool.false_or]

set_option maxHeartbeats 1600000 in
theorem s04awake_any (w : World) (ht : TzTab w) :
    Calls Tryd.prog 30 #[] w fun e w' => e = .returned (.bool true) ∧ Below w.heap.size w w' := by
  have T := Lib.hid ht; clear ht
  go_enter Tryd.func30, Tryd.ntmps30
  go_wp2_with fail
  refine (pnew_any 2 2 _ (by decide)).mono ?_
  rintro e v1 ⟨g, p, rfl, hp, hb1⟩
  have HP := Lib.hid hp; clear hp
  go_wp2_with fail
  refine (pmap_free 0 3 HP.out (by decide) (fun y _ _ => bitB_none 16 y) (T.out.later hb1)).mono ?_
  rintro e v2 (⟨_, rfl, q2, hw2⟩ | ⟨h, _⟩)
  · have HP2 : Hid (PgIs w.heap.size p g p v2 0 2 0 (List.replicate 16 0)) := Lib.hid (by rw [hw2]; exact HP.out)
    have hb2 : Below w.heap.size w v2 := by rw [hw2]; exact below_drewN hb1 q2
    clear hw2 HP
    go_wp2_with fail
    refine (pmap_free 0 2 HP2.out (by decide) (fun y _ _ => bitB_none 16 y) (T.out.later hb2)).mono ?_
    rintro e v3 (⟨h, _⟩ | ⟨_, rfl, hp3, ho3⟩)
    · omega
    · have hbits := fun y => put_zero_bits (0 : Int).toNat (2 : Int).toNat y (by decide)
      have hlen := putN_len (List.replicate 16 0) (0 : Int).toNat (2 : Int).toNat
      generalize (putN (List.replicate 16 0) (0 : Int).toNat (2 : Int).toNat).1 = ws at *
      have HP3 := Lib.hid hp3; have HB := Lib.hid hbits; have HL := Lib.hid hlen
      have hb3 := below_only hb2 ho3 (Nat.le_refl _)
      clear hp3 hbits hlen
      go_wp2_with fail
      refine (pmap_mapped 1 1 HP3.out (by decide) ⟨1, by decide, by decide, by rw [HB.out]; decide⟩ (T.out.later hb3)).mono ?_
      rintro e v4 ⟨rfl, rfl⟩
      go_wp2_with fail
      refine (pused HP3.out).mono ?_
      rintro e v4 ⟨rfl, rfl⟩
      go_wp2_with fail
      refine (pnext 1 HP3.out (T.out.later hb3)).mono ?_
      rintro e v4 ⟨rfl, r, rfl, _, hr⟩
      obtain rfl : r = 1 := by
        have hb1 : bitB ws 1 = true := by rw [HB.out]; decide
        have hl : ws.length = 16 := by rw [HL.out]; simp
        rcases hr (by decide) with ⟨_, h⟩ | ⟨y, e, y1, _, y3, y4⟩
        · rw [h 1 (by decide) (by rw [hl]; decide)] at hb1; cases hb1
        · by_cases hy : y = 1
          · subst hy; exact e
          · rw [y4 1 (by decide) (by have : (1 : Int).toNat = max (1 : Int).toNat 0 := rfl; simp at y1; omega)] at hb1; cases hb1
      clear hr
      go_wp2
      go_ret
      exact ⟨rfl, hb3⟩
  · omega
end Go.Proofs.YtgjahmdfkbdcpaaDoor
