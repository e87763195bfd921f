/- Contracts of package gaps: what Take and Give refuse; Most, Twin. -/
import Derived.Test.YtjblgamngnnccaaDoorGapC
namespace Go.Proofs.YtjblgamngnnccaaDoor
open Go.RowKit
set_option linter.unusedVariables false
set_option linter.unusedSimpArgs false

theorem gmost (lo hi s g : Nat) (W : World) (F P c : Int) (ws : List Nat) (h : GpAt lo hi s g W F P c ws) :
    Calls Tryd.prog 26 #[.pointer (some ⟨g, 0, none⟩)] W fun e w' => e = .returned (.int .i64 P) ∧ W = w' := by
  obtain ⟨h1, h2, h3, h4, h5, h6, h7, h8⟩ := h
  clear h6
  go_enter Tryd.func26, Tryd.ntmps26
  go_wp2
  go_ret
  exact ⟨rfl, rfl⟩
set_option maxHeartbeats 1600000 in
theorem gtake_twice (lo hi s g : Nat) (W : World) (F P c f n : Int) (ws : List Nat) (h : GpAt lo hi s g W F P c ws) (hn : InG F P f n) (hwh : wholeB ws (f - F).toNat n.toNat = false) :
    Calls Tryd.prog 19 #[.pointer (some ⟨g, 0, none⟩), .int .i64 f, .int .i64 n] W fun e w' => e = .returned (.int .i64 3) ∧ ∃ q, w' = W.drewN q := by
  have H := Lib.hid h
  have HI := Lib.hid hn
  obtain ⟨i1, i2, i3, i4⟩ := hn
  obtain ⟨h1, h2, h3, h4, h5, h6, ⟨h7, h8, h9⟩, h10, h11⟩ := h
  have hw : IntKind.i64.wrap (f - F) = f - F := by rw [IntKind.wrap_i64]; omega
  obtain ⟨x, hx⟩ : ∃ x, f - F = x := ⟨_, rfl⟩
  rw [hx] at hwh hw
  have HR : Hid ((decide (0 ≤ x ∧ 0 ≤ n ∧ n ≤ P ∧ x ≤ P - n) && wholeB ws x.toNat n.toNat) = false) := Lib.hid (by rw [hwh]; simp)
  clear h6 hwh
  go_enter Tryd.func19, Tryd.ntmps19
  go_wp2_with fail
  refine (gthere true lo hi s g _ F P c f n ws H.out (decide_eq_true HI.out)).mono ?_
  rintro e w' ⟨rfl, q, rfl⟩
  obtain ⟨W5, hW5⟩ : ∃ W5, W.drewN q = W5 := ⟨_, rfl⟩
  have HW5 := Lib.hid hW5
  have H5 : Hid (GpAt lo hi s g W5 F P c ws) := Lib.hid (by rw [← hW5]; exact H.out.drw q)
  rw [hW5]
  obtain ⟨_, _, g3, g4, g5, g6, _⟩ := H5.out
  have HS5 := Lib.hid g6
  have HWh := Lib.hid (fun k => swhole_is false lo hi s (W5.drewN k) P c x n ws (HS5.out.keep (Nat.le_refl _) (fun _ _ _ => rfl)) HR.out)
  clear hW5 h1 h2 h3 h4 h5 g6
  go_wp2_with fail
  go_quiet (exact Calls.quiet_of_same ((HWh.out _).mono fun _ _ ⟨he, hm⟩ => ⟨he, hm.symm⟩))
  go_wp2
  go_ret
  exact ⟨rfl, by rw [← HW5.out]; exact ⟨_, World.drewN_drewN ..⟩⟩
set_option maxHeartbeats 1600000 in
theorem ggive_none (lo hi s g : Nat) (W : World) (F P c f n : Int) (ws : List Nat) (h : GpAt lo hi s g W F P c ws) (hn : InG F P f n) (ht : TzTab W) (y : Nat) (y0 : f - F ≤ y) (y1 : (y : Int) < f - F + n) (y2 : bitB ws y = true) :
    Calls Tryd.prog 20 #[.pointer (some ⟨g, 0, none⟩), .int .i64 f, .int .i64 n] W fun e w' => e = .returned (.int .i64 2) ∧ ∃ q, w' = W.drewN q := by
  have H := Lib.hid h
  have HI := Lib.hid hn
  obtain ⟨i1, i2, i3, i4⟩ := hn
  obtain ⟨h1, h2, h3, h4, h5, h6, ⟨h7, h8, h9⟩, h10, h11⟩ := h
  have hw : IntKind.i64.wrap (f - F) = f - F := by rw [IntKind.wrap_i64]; omega
  obtain ⟨x, hx⟩ : ∃ x, f - F = x := ⟨_, rfl⟩
  rw [hx] at y0 y1 hw
  have HR : Hid (0 ≤ x ∧ ∃ y : Nat, x ≤ y ∧ (y : Int) < sendI P x n ∧ bitB ws y = true) := Lib.hid (by
    have : sendI P x n = x + n := by unfold sendI; rw [if_pos ⟨by omega, by omega, i3⟩]; omega
    exact ⟨by omega, y, y0, by rw [this]; exact y1, y2⟩)
  have T := Lib.hid ht
  clear h6 y0 y1 y2 ht
  go_enter Tryd.func20, Tryd.ntmps20
  go_wp2_with fail
  refine (gthere true lo hi s g _ F P c f n ws H.out (decide_eq_true HI.out)).mono ?_
  rintro e w' ⟨rfl, q, rfl⟩
  obtain ⟨W5, hW5⟩ : ∃ W5, W.drewN q = W5 := ⟨_, rfl⟩
  have HW5 := Lib.hid hW5
  have H5 : Hid (GpAt lo hi s g W5 F P c ws) := Lib.hid (by rw [← hW5]; exact H.out.drw q)
  have T5 : Hid (TzTab W5) := Lib.hid (T.out.later (by rw [← hW5]; exact below_drewN (Below.refl _ _) q))
  rw [hW5]
  obtain ⟨_, _, g3, g4, g5, g6, _⟩ := H5.out
  have HS5 := Lib.hid g6
  have HWh : Hid (∀ k, Calls Tryd.prog 34 #[.pointer (some ⟨s, 0, none⟩), .int .i64 x, .int .i64 n] (W5.drewN k) fun e w' => e = .returned (.bool true) ∧ W5.drewN k = w') := Lib.hid (fun k => (ssome_any lo hi s (W5.drewN k) P c x n ws (HS5.out.keep (Nat.le_refl _) (fun _ _ _ => rfl)) (T5.out.later (below_drewN (Below.refl _ _) k))).mono (fun e w' => by
    rintro ⟨hww, r, rfl, hr⟩
    have : r = true := hr.2 HR.out
    subst this
    exact ⟨rfl, hww⟩))
  clear hW5 h1 h2 h3 h4 h5 g6
  go_wp2_with fail
  go_quiet (exact Calls.quiet_of_same ((HWh.out _).mono fun _ _ ⟨he, hm⟩ => ⟨he, hm.symm⟩))
  go_wp2
  go_ret
  exact ⟨rfl, by rw [← HW5.out]; exact ⟨_, World.drewN_drewN ..⟩⟩
end Go.Proofs.YtjblgamngnnccaaDoor
