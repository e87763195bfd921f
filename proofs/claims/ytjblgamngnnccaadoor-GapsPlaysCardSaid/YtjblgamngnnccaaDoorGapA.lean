/- Contracts of package gaps: what gaps are; there, Free, Most, New, Take, Give. -/
import Derived.Test.YtjblgamngnnccaaDoorVy
import Derived.Test.YtjblgamngnnccaaDoorSetL
import Derived.Test.YtjblgamngnnccaaDoorSetV
import Derived.Test.YtjblgamngnnccaaDoorSetB
import Derived.Deep.RegionWith
import Derived.BigQuiet
import Derived.WalkSmall
namespace Go.Proofs.YtjblgamngnnccaaDoor
open Go.RowKit
set_option linter.unusedVariables false
set_option linter.unusedSimpArgs false

abbrev Ar := Int × Int
def enc2 (p : Ar) : List Value := [.int .i64 p.1, .int .i64 p.2]
theorem enc2_len (p : Ar) : (enc2 p).length = 2 := rfl
theorem enc2_one (ms : List Ar) : ∀ u ∈ ms.flatMap enc2, u.oneCell' = true := by
  intro u hu
  obtain ⟨p, _, h⟩ := List.mem_flatMap.1 hu
  simp only [enc2, List.mem_cons, List.not_mem_nil, or_false] at h
  rcases h with rfl | rfl <;> rfl
theorem tyArea : TyOK 40 48 2 16 (.agg #[.int .i64 0, .int .i64 0]) := ⟨Tryd.underlying48, by kernel_rfl, rfl, by decide, by decide⟩
/-- A slice of areas. -/
abbrev VA (b : Nat) (W : World) (v : Value) (ms : List Ar) : Prop := VZ 2 b W v ms.length (ms.flatMap enc2)
theorem va_open {b : Nat} {W : World} {v : Value} {ms : List Ar} (h : VA b W v ms) :
    (v = .slice none 0 0 ∧ ms = []) ∨ ∃ off c, v = .slice (some ⟨b, off, none⟩) ms.length c ∧ b < W.heap.size ∧ ms.length ≤ c ∧ c ≤ 9223372036854775807 ∧ ∀ i p, ms[i]? = some p → W.cell? ⟨b, off + i * 2, none⟩ = some (.int .i64 p.1) ∧ W.cell? ⟨b, off + i * 2 + 1, none⟩ = some (.int .i64 p.2) := by
  obtain ⟨A, c, rfl, h1, h2, h3, h4, ⟨rfl, h5, rfl⟩ | ⟨off, rfl, hl, hc, hsp⟩⟩ := h
  · obtain rfl := List.length_eq_zero_iff.1 h5
    exact .inl ⟨rfl, rfl⟩
  · refine .inr ⟨off, c, rfl, hl, h2, h3, fun i p hp => ⟨?_, ?_⟩⟩
    · have := hc (i * 2 + 0) (.int .i64 p.1) (by rw [flat_get enc2 2 enc2_len ms i 0 (by decide) p hp]; rfl)
      simpa using this
    · have := hc (i * 2 + 1) (.int .i64 p.2) (by rw [flat_get enc2 2 enc2_len ms i 1 (by decide) p hp]; rfl)
      rwa [← Nat.add_assoc] at this

/-- Gaps at block g: P pages from page F on; the set of those that nobody has is at block s, c of them. -/
def GpAt (lo hi s g : Nat) (W : World) (F P c : Int) (ws : List Nat) : Prop :=
  g < W.heap.size ∧ (g < lo ∨ hi ≤ g) ∧ W.cell? ⟨g, 0, none⟩ = some (.int .i64 F) ∧ W.cell? ⟨g, 1, none⟩ = some (.int .i64 P) ∧ W.cell? ⟨g, 2, none⟩ = some (.pointer (some ⟨s, 0, none⟩)) ∧
  SetIs lo hi s W P c ws ∧ (0 ≤ F ∧ 1 ≤ P ∧ F + P ≤ 1024) ∧ (0 ≤ c ∧ c ≤ 1024)
theorem GpAt.only {lo hi s g : Nat} {W w' : World} {F P c c' : Int} {ws ws' : List Nat} (h : GpAt lo hi s g W F P c ws) (ho : Only lo hi W w') (hs : SetIs lo hi s w' P c' ws') (hc : 0 ≤ c' ∧ c' ≤ 1024) : GpAt lo hi s g w' F P c' ws' := by
  obtain ⟨h1, h2, h3, h4, h5, h6, h7, h8⟩ := h
  have hg : w'.heap[g]? = W.heap[g]? := by
    rcases h2 with h | h
    · exact ho.1.block g h
    · exact ho.2.2 g h
  exact ⟨by rw [ho.2.1]; exact h1, h2, (World.cell?_of_block hg).trans h3, (World.cell?_of_block hg).trans h4, (World.cell?_of_block hg).trans h5, hs, h7, hc⟩
theorem GpAt.below {lo hi s g : Nat} {W w' : World} {F P c : Int} {ws : List Nat} (h : GpAt lo hi s g W F P c ws) (hb : Below W.heap.size W w') : GpAt lo hi s g w' F P c ws := by
  obtain ⟨h1, h2, h3, h4, h5, h6, h7, h8⟩ := h
  have hg := hb.block g h1
  exact ⟨Nat.lt_of_lt_of_le h1 hb.size, h2, (World.cell?_of_block hg).trans h3, (World.cell?_of_block hg).trans h4, (World.cell?_of_block hg).trans h5, h6.keep hb.size (fun i _ hi => hb.block i (by have := h6.1.2.2; omega)), h7, h8⟩
theorem GpAt.drw {lo hi s g : Nat} {W : World} {F P c : Int} {ws : List Nat} (h : GpAt lo hi s g W F P c ws) (q : Nat) : GpAt lo hi s g (W.drewN q) F P c ws := h.below (below_drewN (Below.refl _ _) q)
theorem only_drw (lo hi : Nat) (W : World) (q : Nat) : Only lo hi W (W.drewN q) := ⟨below_drewN (Below.refl _ _) q, rfl, fun _ _ => rfl⟩
theorem gfree (lo hi s g : Nat) (W : World) (F P c : Int) (ws : List Nat) (h : GpAt lo hi s g W F P c ws) :
    Calls Tryd.prog 25 #[.pointer (some ⟨g, 0, none⟩)] W fun e w' => e = .returned (.int .i64 c) ∧ W = w' := by
  obtain ⟨h1, h2, h3, h4, h5, h6, h7, h8⟩ := h
  have H := Lib.hid h6
  clear h6
  go_enter Tryd.func25, Tryd.ntmps25
  go_wp2_with fail
  refine (scount_any _ _ _ _ _ _ _ H.out).mono ?_
  rintro e w' ⟨rfl, rfl⟩
  go_wp2
  go_ret
  exact ⟨rfl, rfl⟩
theorem ngfree (W : World) : Calls Tryd.prog 25 #[.pointer none] W fun e w' => e = .returned (.int .i64 0) ∧ W = w' := by
  go_enter Tryd.func25, Tryd.ntmps25
  go_wp2
  go_ret
  exact ⟨rfl, rfl⟩
theorem ngmost (W : World) : Calls Tryd.prog 26 #[.pointer none] W fun e w' => e = .returned (.int .i64 0) ∧ W = w' := by
  go_enter Tryd.func26, Tryd.ntmps26
  go_wp2
  go_ret
  exact ⟨rfl, rfl⟩
theorem ngtwin (W : World) : Calls Tryd.prog 21 #[.pointer none] W fun e w' => e = .returned (.pointer none) ∧ W = w' := by
  go_enter Tryd.func21, Tryd.ntmps21
  go_wp2
  go_ret
  exact ⟨rfl, rfl⟩
theorem nglist (W : World) : Calls Tryd.prog 22 #[.pointer none] W fun e w' => e = .returned (.slice none 0 0) ∧ W = w' := by
  go_enter Tryd.func22, Tryd.ntmps22
  go_wp2
  go_ret
  exact ⟨rfl, rfl⟩
theorem ngthere (f n : Int) (W : World) : Calls Tryd.prog 31 #[.pointer none, .int .i64 f, .int .i64 n] W fun e w' => e = .returned (.bool false) ∧ ∃ q, w' = W.drewN q := by
  go_enter Tryd.func31, Tryd.ntmps31
  go_wp2_with fail
  go_quiet (fail)
  go_wp2
  go_ret
  exact ⟨rfl, _, rfl⟩
def InG (F P f n : Int) : Prop := F ≤ f ∧ f < F + P ∧ 1 ≤ n ∧ n ≤ F + P - f
instance (F P f n : Int) : Decidable (InG F P f n) := by unfold InG; infer_instance
theorem gthere (r : Bool) (lo hi s g : Nat) (W : World) (F P c f n : Int) (ws : List Nat) (h : GpAt lo hi s g W F P c ws) (hr : decide (InG F P f n) = r) :
    Calls Tryd.prog 31 #[.pointer (some ⟨g, 0, none⟩), .int .i64 f, .int .i64 n] W fun e w' => e = .returned (.bool r) ∧ ∃ q, w' = W.drewN q := by
  obtain ⟨h1, h2, h3, h4, h5, h6, ⟨h7, h8, h9⟩, _⟩ := h
  clear h6
  have hw1 : IntKind.i64.wrap (F + P) = F + P := by rw [IntKind.wrap_i64]; omega
  by_cases c1 : F ≤ f
  · by_cases c2 : f < F + P
    · by_cases c3 : 1 ≤ n
      · have hw2 : IntKind.i64.wrap (F + P - f) = F + P - f := by rw [IntKind.wrap_i64]; omega
        by_cases c4 : n ≤ F + P - f
        · have hr2 : r = true := by rw [← hr]; exact decide_eq_true (show InG F P f n from ⟨c1, c2, c3, c4⟩)
          subst hr2
          clear hr
          have d1 : decide (F ≤ f) = true := by simpa using c1
          have d2 : decide (f < F + P) = true := by simpa using c2
          have d3 : decide (1 ≤ n) = true := by simpa using c3
          have d4 : decide (n ≤ F + P - f) = true := by simpa using c4
          go_enter Tryd.func31, Tryd.ntmps31
          go_wp2_with fail
          go_quiet (fail)
          go_wp2
          go_ret
          exact ⟨rfl, _, rfl⟩
        · have hr2 : r = false := by rw [← hr]; simp [InG, c4]
          subst hr2
          clear hr
          have d1 : decide (F ≤ f) = true := by simpa using c1
          have d2 : decide (f < F + P) = true := by simpa using c2
          have d3 : decide (1 ≤ n) = true := by simpa using c3
          have d4 : decide (n ≤ F + P - f) = false := by simpa using c4
          go_enter Tryd.func31, Tryd.ntmps31
          go_wp2_with fail
          go_quiet (fail)
          go_wp2
          go_ret
          exact ⟨rfl, _, rfl⟩
      · have hr2 : r = false := by rw [← hr]; simp [InG, c3]
        subst hr2
        clear hr
        have d1 : decide (F ≤ f) = true := by simpa using c1
        have d2 : decide (f < F + P) = true := by simpa using c2
        have d3 : decide (1 ≤ n) = false := by simpa using c3
        go_enter Tryd.func31, Tryd.ntmps31
        go_wp2_with fail
        go_quiet (fail)
        go_wp2
        go_ret
        exact ⟨rfl, _, rfl⟩
    · have hr2 : r = false := by rw [← hr]; simp [InG, c2]
      subst hr2
      clear hr
      have d1 : decide (F ≤ f) = true := by simpa using c1
      have d2 : decide (f < F + P) = false := by simpa using c2
      go_enter Tryd.func31, Tryd.ntmps31
      go_wp2_with fail
      go_quiet (fail)
      go_wp2
      go_ret
      exact ⟨rfl, _, rfl⟩
  · have hr2 : r = false := by rw [← hr]; simp [InG, c1]
    subst hr2
    clear hr
    have d1 : decide (F ≤ f) = false := by simpa using c1
    go_enter Tryd.func31, Tryd.ntmps31
    go_wp2_with fail
    go_quiet (fail)
    go_wp2
    go_ret
    exact ⟨rfl, _, rfl⟩
end Go.Proofs.YtjblgamngnnccaaDoor
