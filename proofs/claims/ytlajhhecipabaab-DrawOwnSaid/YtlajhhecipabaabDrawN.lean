/- Contracts of package draw: New, Left. -/
import Derived.Test.YtlajhhecipabaabDraw
namespace Go.Proofs.Ytlajhhecipabaab
open Go.RowKit
set_option linter.unusedVariables false
set_option linter.unusedSimpArgs false

def ClonePost (w : World) (n : Nat) (zs : List Int) (e : Ending) (w' : World) : Prop :=
  ∃ A c, e = .returned (.slice A n c) ∧ n ≤ c ∧ c ≤ 9223372036854775807 ∧ (n = 0 ∨ ∃ b, A = some ⟨b, 0, none⟩ ∧ w.heap.size ≤ b ∧ b < w'.heap.size ∧ ∀ i, i < n → w'.cell? ⟨b, 0 + i, none⟩ = some (.int .i64 (zs.getD i 0))) ∧ Below w.heap.size w w'

theorem row_post {w w' : World} {v' : Value} {n : Nat} {zs : List Int} (hl : zs.length = n) (h : w'.ownsRow w.heap.size 3 1 v' n (zs.map (Value.int .i64))) (hb : Below w.heap.size w w') : ClonePost w n zs (.returned v') w' := by
  rcases h.2 with ⟨rfl, rfl⟩ | ⟨g, cap, cur, rfl, hg, _, hc, hm, _⟩
  · exact ⟨none, 0, rfl, Nat.le_refl _, by omega, .inl rfl, hb⟩
  · refine ⟨_, cap, rfl, hc, by unfold maxLen at hm; omega, ?_, hb⟩
    by_cases h0 : n = 0
    · exact .inl h0
    · refine .inr ⟨g, rfl, hg, (h.lt g rfl).2, fun i hi => ?_⟩
      have := h.cells (g := g) rfl i (.int .i64 (zs.getD i 0)) (by simp [List.getD, List.getElem?_eq_getElem (show i < zs.length by omega)])
      rw [addp] at this
      exact this

theorem clone_any (a : Option Addr) (n c : Nat) (zs : List Int) (w : World) (h : Ints .i64 w a n zs) (hn : n ≤ 1000) :
    Calls Try.prog 19 #[.slice a n c] w (ClonePost w n zs) := by
  obtain ⟨hl, h⟩ := h
  rcases h with rfl | ⟨b, off, rfl, _, _, hc⟩
  · obtain rfl : zs = [] := List.length_eq_zero_iff.1 hl
    cases a with
    | none =>
      refine (Try.slices_Clone_int_nil 0 c w).mono ?_
      rintro e w' ⟨rfl, rfl⟩
      exact ⟨none, 0, rfl, Nat.le_refl _, by omega, .inl rfl, Below.refl _ _⟩
    | some a =>
      refine (Try.slices_Clone_int_zero a c w).mono ?_
      rintro e w' ⟨v', rfl, hr, _, hb⟩
      exact row_post rfl hr hb
  · refine (Try.slices_Clone_int b off n c zs w (by omega) (by omega) (fun j hj => hc j (by omega))).mono ?_
    rintro e w' ⟨v', rfl, hr, _, hb⟩
    rw [List.take_of_length_le (by omega)] at hr
    exact row_post hl hr hb

def NewPost (w : World) (zs : List Int) (e : Ending) (w' : World) : Prop :=
  ∃ g, e = .returned (.pointer (some ⟨g, 0, none⟩)) ∧ DrIs w.heap.size w'.heap.size g w' zs 0 ∧ Below w.heap.size w w'
theorem dnew_any (a : Option Addr) (n c : Nat) (zs : List Int) (w : World) (h : Ints .i64 w a n zs) (hn : n ≤ 1000) :
    Calls Try.prog 11 #[.slice a n c] w (NewPost w zs) := by
  have hl : zs.length = n := h.1
  have HL := Lib.hid hl; clear hl
  have HI := Lib.hid h; clear h
  go_enter Try.func11, Try.ntmps11
  go_wp2_with fail
  refine (clone_any _ _ _ _ _ HI.out hn).mono ?_
  rintro e w1 ⟨A, c2, rfl, hc1, hc2, hz, hb⟩
  have HZ := Lib.hid hz; clear hz
  go_wp2_with fail
  go_ret
  have hs := hb.size
  refine ⟨w1.heap.size, rfl, ⟨⟨hs, by simp, Nat.le_refl _⟩, by simp, by simp, by simp, A, n, c2, by simp, HL.out, hc1, hc2, ?_⟩, alc hb _⟩
  rcases HZ.out with h0 | ⟨b, rfl, b1, b2, hcell⟩
  · exact .inl h0
  · refine .inr ⟨b, 0, rfl, b1, by simp; omega, by omega, fun i hi => ?_⟩
    rw [World.cell?_alloc_lt _ _ _ (by exact b2)]
    exact hcell i hi

theorem dleft_any (lo hi g : Nat) (zs : List Int) (k : Int) (W : World) (h : DrIs lo hi g W zs k) :
    Calls Try.prog 14 #[.pointer (some ⟨g, 0, none⟩)] W fun e w' => e = .returned (.int .i64 zs.length) ∧ W = w' := by
  obtain ⟨⟨h1, h2, h3⟩, f0, f1, c1, A, n, c, c0, hl, hn, hc, hz⟩ := h
  subst hl
  clear hz
  go_enter Try.func14, Try.ntmps14
  go_wp2
  go_ret
  exact ⟨rfl, rfl⟩

theorem dnext_any (lo hi g : Nat) (zs : List Int) (k m : Int) (W : World) (h : DrIs lo hi g W zs k) (hm : 1 ≤ m) (hm2 : m ≤ 9223372036854775807) (hk : 0 ≤ k ∧ k ≤ 1000) (hx : ∀ x ∈ zs, -9223372036854775808 ≤ x ∧ x ≤ 9223372036854775807) :
    Calls Try.prog 13 #[.pointer (some ⟨g, 0, none⟩), .int .i64 m] W (NxPost lo hi g W zs k m) := by
  cases zs with
  | nil => exact dnext_nil lo hi g k m W h hm hm2 hk
  | cons x zs => exact dnext_cons lo hi g x zs k m W h hm hm2 (hx x (by simp))
theorem nxV_bd (zs : List Int) (k m : Int) (hm : 1 ≤ m) : 0 ≤ nxV zs k m ∧ nxV zs k m < m := by
  unfold nxV
  split
  · exact ⟨Int.emod_nonneg _ (by omega), Int.emod_lt_of_pos _ (by omega)⟩
  · exact ⟨Int.emod_nonneg _ (by omega), Int.emod_lt_of_pos _ (by omega)⟩

theorem ints_one (w : World) (x : Int) (t : TypeId) : Ints .i64 (w.alloc (.cells #[.int .i64 x] t)) (some ⟨w.heap.size, 0, none⟩) 1 [x] := by
  refine ⟨rfl, .inr ⟨w.heap.size, 0, rfl, by simp, by omega, fun i hi => ?_⟩⟩
  obtain rfl : i = 0 := by omega
  simp

theorem set_below {a b : World} {B g o : Nat} {v : Value} (h : Below B a b) (hg : B ≤ g) : Below B a (b.setCell ⟨g, o, none⟩ v) := h.setCell hg v

theorem d22awake_any (w : World) :
    Calls Try.prog 16 #[] w fun e w' => e = .returned (.bool true) ∧ Below w.heap.size w w' := by
  go_enter Try.func16, Try.ntmps16
  go_wp2_with fail
  refine (dnew_any _ _ _ _ _ (ints_one w (-1) 3) (by omega)).mono ?_
  rintro e w1 ⟨g, rfl, hd, hb1⟩
  have hdg := hd.1
  have HD := Lib.hid hd; clear hd
  go_wp2_with fail
  refine (dnext_any _ _ _ _ _ _ _ HD.out (by omega) (by omega) (by omega) (by simp)).mono ?_
  rintro e w2 ⟨rfl, _, o, u, rfl⟩
  have h2 : nxV [-1] 0 3 = 2 := by decide
  rw [h2]
  have hB2 : Below w.heap.size w (w1.setCell ⟨g, o, none⟩ u) := set_below ((alc0 _ _).trans (hb1.mono (by simp))) (by have := hdg.1; simp at this; omega)
  generalize w1.setCell ⟨g, o, none⟩ u = w2 at *
  go_wp2_with fail
  refine (dnew_any _ _ _ _ _ (ints_one w2 4 3) (by omega)).mono ?_
  rintro e w3 ⟨g3, rfl, hd3, hb3⟩
  have HD3 := Lib.hid hd3; clear hd3
  go_wp2_with fail
  refine (dleft_any _ _ _ _ _ _ HD3.out).mono ?_
  rintro e w4 ⟨rfl, rfl⟩
  go_wp2
  go_ret
  exact ⟨rfl, (alc hB2 _).trans (hb3.mono (by have := hB2.size; simp; omega))⟩
end Go.Proofs.Ytlajhhecipabaab
