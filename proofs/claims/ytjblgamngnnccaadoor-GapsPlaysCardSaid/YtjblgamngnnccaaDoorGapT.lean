/- Contracts of package gaps: Twin. -/
import Derived.Test.YtjblgamngnnccaaDoorGapB
namespace Go.Proofs.YtjblgamngnnccaaDoor
open Go.RowKit
set_option linter.unusedVariables false
set_option linter.unusedSimpArgs false

def GTwin (F P c : Int) (ws : List Nat) (W : World) (e : Ending) (w' : World) : Prop :=
  ∃ lo hi s g, e = .returned (.pointer (some ⟨g, 0, none⟩)) ∧ GpAt lo hi s g w' F P c ws ∧ Below W.heap.size W w' ∧ W.heap.size ≤ lo ∧ W.heap.size ≤ g
set_option maxHeartbeats 3200000 in
theorem gtwin (lo hi s g : Nat) (W : World) (F P c : Int) (ws : List Nat) (h : GpAt lo hi s g W F P c ws) :
    Calls Tryd.prog 21 #[.pointer (some ⟨g, 0, none⟩)] W (GTwin F P c ws W) := by
  obtain ⟨h1, h2, h3, h4, h5, h6, h7, h8⟩ := h
  have HS := Lib.hid h6
  have H7 := Lib.hid h7
  have H8 := Lib.hid h8
  clear h6 h7 h8
  go_enter Tryd.func21, Tryd.ntmps21
  go_wp2_with fail
  go_region_with (go_at_call 35; refine (stwin_any lo hi s _ P c ws (by exact HS.out.keep (Nat.le_refl _) (fun _ _ _ => rfl))).mono ?_; rintro e w1 ⟨s2, rfl, hs, hb⟩; have hb1 : Below W.heap.size W w1 := (by first | exact hb | exact (Below.refl _ _).drew.trans hb); have m0 := (hb1.cell (p := ⟨g, 0, none⟩) h1).trans h3; have m1 := (hb1.cell (p := ⟨g, 1, none⟩) h1).trans h4; have m2 := (hb1.cell (p := ⟨g, 2, none⟩) h1).trans h5; have hg1 : g < w1.heap.size := Nat.lt_of_lt_of_le h1 hb1.size)
  all_goals
    have hlo : W.heap.size ≤ w1.heap.size := hb1.size
    have HSn := hs.keep (W' := w1.alloc (.cells #[.int .i64 F, .int .i64 P, .pointer (some ⟨s2, 0, none⟩)] 60)) (by simp) (fun i _ hi => Below.heap_alloc w1 _ i hi)
    have HGn : Hid (GpAt W.heap.size w1.heap.size s2 w1.heap.size (w1.alloc (.cells #[.int .i64 F, .int .i64 P, .pointer (some ⟨s2, 0, none⟩)] 60)) F P c ws) := Lib.hid ⟨by simp, .inr (Nat.le_refl _), by simp, by simp, by simp, HSn, H7.out, H8.out⟩
    have HBn : Hid (Below W.heap.size W (w1.alloc (.cells #[.int .i64 F, .int .i64 P, .pointer (some ⟨s2, 0, none⟩)] 60))) := Lib.hid (hb1.alloc hlo _)
    clear HSn hs hb hb1 m0 m1 m2
    go_wp2
    go_ret
    exact ⟨_, _, s2, _, rfl, HGn.out, HBn.out, Nat.le_refl _, hlo⟩
end Go.Proofs.YtjblgamngnnccaaDoor
