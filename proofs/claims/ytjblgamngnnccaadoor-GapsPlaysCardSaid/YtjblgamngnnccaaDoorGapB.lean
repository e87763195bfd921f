/- Contracts of package gaps: New, Take, Give. -/
import Derived.Test.YtjblgamngnnccaaDoorGapA
import Derived.Deep.DeepCutAuto
namespace Go.Proofs.YtjblgamngnnccaaDoor
open Go.RowKit
set_option linter.unusedVariables false
set_option linter.unusedSimpArgs false

def MayG (a b : Int) : Prop := 0 ≤ a ∧ a < 1024 ∧ 1 ≤ b ∧ b ≤ 1024 - a
theorem gnew_no (a b : Int) (W : World) (h : ¬ MayG a b) :
    Calls Tryd.prog 17 #[.agg #[.int .i64 a, .int .i64 b]] W fun e w' => e = .returned (.pointer none) ∧ Below W.heap.size W w' := by
  by_cases c1 : a < 0
  · go_enter Tryd.func17, Tryd.ntmps17
    go_wp2
    go_ret
    exact ⟨rfl, alc0 _ _⟩
  · by_cases c2 : 1024 ≤ a
    · go_enter Tryd.func17, Tryd.ntmps17
      go_wp2
      go_ret
      exact ⟨rfl, alc0 _ _⟩
    · by_cases c3 : b < 1
      · go_enter Tryd.func17, Tryd.ntmps17
        go_wp2
        go_ret
        exact ⟨rfl, alc0 _ _⟩
      · have c4 : 1024 - a < b := by
          have : ¬ (b ≤ 1024 - a) := fun h' => h ⟨by omega, by omega, by omega, h'⟩
          omega
        have hw : IntKind.i64.wrap (1024 - a) = 1024 - a := by rw [IntKind.wrap_i64]; omega
        go_enter Tryd.func17, Tryd.ntmps17
        go_wp2
        go_ret
        exact ⟨rfl, alc0 _ _⟩
/-- What New hands back: all pages are nobody's. -/
def GNew (a b : Int) (W : World) (e : Ending) (w' : World) : Prop :=
  ∃ lo hi s g ws, e = .returned (.pointer (some ⟨g, 0, none⟩)) ∧ GpAt lo hi s g w' a b b ws ∧ (∀ y, bitB ws y = decide (y < b.toNat)) ∧ Below W.heap.size W w' ∧ W.heap.size ≤ lo ∧ W.heap.size ≤ g
set_option maxHeartbeats 1600000 in
theorem gnew_yes (a b : Int) (W : World) (h : MayG a b) :
    Calls Tryd.prog 17 #[.agg #[.int .i64 a, .int .i64 b]] W (GNew a b W) := by
  obtain ⟨h1, h2, h3, h4⟩ := h
  have hw : IntKind.i64.wrap (1024 - a) = 1024 - a := by rw [IntKind.wrap_i64]; omega
  have n1 : ¬ a < 0 := by omega
  have n2 : ¬ 1024 ≤ a := by omega
  have n3 : ¬ b < 1 := by omega
  have n4 : ¬ 1024 - a < b := by omega
  have hmin : min (max b 0) 65536 = b := by omega
  have HM := Lib.hid hmin
  clear hmin
  obtain ⟨W1, hW1⟩ : ∃ W1, W.alloc (.cells #[.int .i64 a, .int .i64 b] 40) = W1 := ⟨_, rfl⟩
  have HW1 := Lib.hid hW1
  have HB1 : Hid (Below W.heap.size W W1) := Lib.hid (by rw [← hW1]; exact alc0 _ _)
  have k0 : W1.cell? ⟨W.heap.size, 0, none⟩ = some (.int .i64 a) := by rw [← hW1]; simp
  have k1 : W1.cell? ⟨W.heap.size, 1, none⟩ = some (.int .i64 b) := by rw [← hW1]; simp
  have hs1 : W.heap.size < W1.heap.size := by rw [← hW1]; simp
  clear hW1
  obtain ⟨X, hX⟩ : ∃ X, W.heap.size = X := ⟨_, rfl⟩
  go_enter Tryd.func17, Tryd.ntmps17
  go_wp2_with fail
  rw [HW1.out]
  try rw [hX]
  rw [hX] at k0 k1 hs1
  clear HW1
  go_cut [3] (fun v3 wx => ∃ lo hi s g, v3 = .pointer (some ⟨g, 0, none⟩) ∧ Hid (GpAt lo hi s g wx a b 0 (List.replicate ((b + 63) / 64).toNat 0)) ∧ Hid (Below X W wx) ∧ X ≤ lo ∧ X < g ∧ hi ≤ g ∧ wx.cell? ⟨X, 0, none⟩ = some (.int .i64 a) ∧ wx.cell? ⟨X, 1, none⟩ = some (.int .i64 b) ∧ X < wx.heap.size)
  case first =>
    go_region_with (go_at_call 29; refine (snew_any b b _ HM.out).mono ?_; rintro e w1 ⟨s, rfl, hs, hb⟩; have hb1 : Below W1.heap.size W1 w1 := (by first | exact hb | exact (Below.refl _ _).drew.trans hb); have m0 := (hb1.cell (p := ⟨X, 0, none⟩) hs1).trans k0; have m1 := (hb1.cell (p := ⟨X, 1, none⟩) hs1).trans k1; have hX1 : X < w1.heap.size := Nat.lt_of_lt_of_le hs1 hb1.size)
    all_goals
      have hlo : X ≤ W1.heap.size := Nat.le_of_lt hs1
      have HSn := hs.keep (W' := w1.alloc (.cells #[.int .i64 a, .int .i64 b, .pointer (some ⟨s, 0, none⟩)] 60)) (by simp) (fun i _ hi => Below.heap_alloc w1 _ i hi)
      have HGn : Hid (GpAt W1.heap.size w1.heap.size s w1.heap.size (w1.alloc (.cells #[.int .i64 a, .int .i64 b, .pointer (some ⟨s, 0, none⟩)] 60)) a b 0 (List.replicate ((b + 63) / 64).toNat 0)) := Lib.hid ⟨by simp, .inr (Nat.le_refl _), by simp, by simp, by simp, HSn, ⟨by omega, by omega, by omega⟩, by omega, by omega⟩
      have HBn : Hid (Below X W (w1.alloc (.cells #[.int .i64 a, .int .i64 b, .pointer (some ⟨s, 0, none⟩)] 60))) := Lib.hid ((show Below X W w1 from (by have h9 := HB1.out; rw [hX] at h9; exact h9.trans (hb1.mono hlo))).alloc (Nat.le_of_lt hX1) _)
      have p0 := (World.cell?_alloc_lt w1 (.cells #[.int .i64 a, .int .i64 b, .pointer (some ⟨s, 0, none⟩)] 60) ⟨X, 0, none⟩ (by exact hX1)).trans m0
      have p1 := (World.cell?_alloc_lt w1 (.cells #[.int .i64 a, .int .i64 b, .pointer (some ⟨s, 0, none⟩)] 60) ⟨X, 1, none⟩ (by exact hX1)).trans m1
      have hsz : X < (w1.alloc (.cells #[.int .i64 a, .int .i64 b, .pointer (some ⟨s, 0, none⟩)] 60)).heap.size := by simp; omega
      clear HSn hs hb hb1 m0 m1
      go_wp2_with fail
      go_meet
      exact ⟨W1.heap.size, w1.heap.size, s, w1.heap.size, rfl, HGn, HBn, hlo, hX1, Nat.le_refl _, p0, p1, hsz⟩
  case rest =>
    obtain ⟨lo, hi, s, g, rfl, HG, HB, hl1, hl2, hl3, p0, p1, hsz⟩ := hcut
    obtain ⟨g1, _, g3, g4, g5, g6, _⟩ := HG.out
    have HS5 := Lib.hid g6
    have HJ : Hid (sJ b 0 b = b.toNat) := Lib.hid (by unfold sJ sendI; rw [if_pos ⟨by omega, by omega, h3⟩]; omega)
    have hbits : ∀ y, bitB (putN (List.replicate ((b + 63) / 64).toNat 0) 0 b.toNat).1 y = decide (y < b.toNat) := fun y => by
      rw [putN_bits _ _ _ _ (by rw [List.length_replicate]; omega), bitB_none]
      simp
    have HBT := Lib.hid hbits
    have HCN : Hid ((putN (List.replicate ((b + 63) / 64).toNat 0) 0 b.toNat).2 = b) := Lib.hid (by
      rw [putN_count _ _ _ (by rw [List.length_replicate]; omega) (fun y _ _ => bitB_none _ y)]
      omega)
    clear g6 hbits HB1 k0 k1 hs1 HM
    go_wp2_with fail
    go_region_with (go_at_call 30; refine (sputall lo hi s _ b 0 0 b _ (by exact HS5.out.keep (Nat.le_refl _) (fun _ _ _ => rfl)) (by decide)).mono ?_; rintro e w2 ⟨rfl, hs2, ho2⟩)
    all_goals
      rw [HJ.out, show (0 : Int).toNat = 0 from rfl, HCN.out, Int.zero_add] at hs2
      have HO : Hid (Only lo hi wc w2) := Lib.hid ((show Only lo hi wc _ from ⟨below_drewN (Below.refl _ _) 1, rfl, fun _ _ => rfl⟩).trans ho2)
      have HG2 : Hid (GpAt lo hi s g w2 a b b (putN (List.replicate ((b + 63) / 64).toNat 0) 0 b.toNat).1) := Lib.hid (HG.out.only HO.out hs2 (by omega))
      have HB2 : Hid (Below X W w2) := Lib.hid (HB.out.trans (HO.out.1.mono hl1))
      clear hs2 ho2
      go_wp2
      go_ret
      exact ⟨lo, hi, s, g, _, rfl, HG2.out, HBT.out, by rw [hX]; exact HB2.out, by omega, by omega⟩
end Go.Proofs.YtjblgamngnnccaaDoor
