/- The document's own memory: are all pages of a stretch mapped? -/
import Derived.Test.YtgidnmjeifgciaaDoorMrA
import Derived.Test.YtgidnmjeifgciaaDoorMmC
namespace Go.Proofs.YtgidnmjeifgciaaDoor
set_option maxRecDepth 100000
open Go.RowKit Go.ChangeMaps Go.MapKept
set_option linter.unusedVariables false
set_option linter.unusedSimpArgs false

def openR (o : Nat → Bool) (a n : Int) : Bool := decide (0 ≤ a ∧ 1 ≤ n ∧ a ≤ 2048 - n) && wholeF o (a / 256).toNat ((a + n - 1) / 256 - a / 256 + 1).toNat
theorem wholeF_cut {o : Nat → Bool} {f j n : Nat} (h : o (f + j) = false) (hj : j < n) : wholeF o f n = false := by
  rw [← Bool.not_eq_true, wholeF_iff]
  intro h2
  have := h2 (f + j) (by omega) (by omega)
  rw [h] at this; cases this
theorem open_same {pg o : Nat → Bool} (h1 : ∀ y, y < 8 → pg y = o y) (h2 : ∀ y, 8 ≤ y → pg y = false) (a n : Int) : openB pg a n = openR o a n := by
  unfold openB openR
  cases hm : mayB a n with
  | false =>
    have := mayB_false.1 hm
    rw [Bool.false_and, decide_eq_false (by omega), Bool.false_and]
  | true =>
    obtain ⟨k1, k2, k3, k4⟩ := mayB_iff.1 hm
    rw [Bool.true_and]
    by_cases h : a ≤ 2048 - n
    · rw [decide_eq_true (by omega), Bool.true_and, Bool.eq_iff_iff, wholeF_iff, wholeF_iff]
      exact ⟨fun q y b c => by rw [← h1 y (by omega)]; exact q y b c, fun q y b c => by rw [h1 y (by omega)]; exact q y b c⟩
    · rw [decide_eq_false (by omega), Bool.false_and]
      obtain ⟨y, hy⟩ : ∃ y : Nat, (a + n - 1) / 256 = y := ⟨((a + n - 1) / 256).toNat, by omega⟩
      exact wholeF_cut (j := y - (a / 256).toNat) (h2 _ (by omega)) (by omega)
set_option maxHeartbeats 1600000 in
theorem ropen (r : RS) (res : Bool) (hr : r.One) (a n : Int) (hn : n ≤ 9223372036854775807) (W : World) (hres : openR r.o a n = res) :
    Calls Tryd.prog 25 #[.agg r.l.toArray, .int .i64 a, .int .i64 n] W fun e w' => e = .returned (.bool res) ∧ Below W.heap.size W w' := by
  have HR1 := fun W => RAt.new W r 34
  have hLs : r.l.toArray.size = 3080 := by rw [List.size_toArray, RS.len]
  have hL1 := RS.one hr
  clear hr
  generalize r.l.toArray = L at *
  have HRES := Lib.hid hres
  clear hres
  by_cases h1 : a < 0
  · obtain rfl : res = false := by rw [← HRES.out, openR, decide_eq_false (by omega)]; rfl
    clear HR1
    go_enter Tryd.func25, Tryd.ntmps25
    go_wp2
    go_ret
    exact ⟨rfl, alc0 _ _⟩
  · by_cases h2 : n < 1
    · obtain rfl : res = false := by rw [← HRES.out, openR, decide_eq_false (by omega)]; rfl
      clear HR1
      go_enter Tryd.func25, Tryd.ntmps25
      go_wp2
      go_ret
      exact ⟨rfl, alc0 _ _⟩
    · by_cases h3 : 2048 - n < a
      · obtain rfl : res = false := by rw [← HRES.out, openR, decide_eq_false (by omega)]; rfl
        clear HR1
        go_enter Tryd.func25, Tryd.ntmps25
        go_wp2
        go_ret
        exact ⟨rfl, alc0 _ _⟩
      · have hres2 : wholeF r.o (a / 256).toNat ((a + n - 1) / 256 - a / 256 + 1).toNat = res := by
          have := HRES.out
          rwa [openR, decide_eq_true (by omega), Bool.true_and] at this
        obtain ⟨F, hF⟩ : ∃ F : Nat, a / 256 = F := ⟨(a / 256).toNat, by omega⟩
        obtain ⟨E, hE⟩ : ∃ E : Nat, (a + n - 1) / 256 = E := ⟨((a + n - 1) / 256).toNat, by omega⟩
        have hE8 : E < 8 := by omega
        have hFE : F ≤ E := by omega
        rw [hF, hE, Int.toNat_natCast, show ((E : Int) - F + 1).toNat = E - F + 1 by omega] at hres2
        have HRS := Lib.hid hres2
        have g1 : a.tdiv 256 = (F : Int) := by rw [Int.tdiv_eq_ediv_of_nonneg (by omega)]; exact hF
        have g2 : (a + n - 1).tdiv 256 = (E : Int) := by rw [Int.tdiv_eq_ediv_of_nonneg (by omega)]; exact hE
        have HRA := Lib.hid (HR1 W)
        have h4 : a ≤ 2048 := by omega
        have h5 : n ≤ 2048 := by omega
        clear hres2 HRES HR1
        go_enter Tryd.func25, Tryd.ntmps25
        go_wp2_with fail
        go_loop [7] (fun v7 => ∃ j : Nat, j ≤ E - F + 1 ∧ v7 = .int .i64 ((F + j : Nat) : Int) ∧ Hid (wholeF r.o F j = true)) (fun v7 => E + 1 - (intOf v7).toNat)
        case atStart => exact ⟨0, by omega, rfl, Lib.hid rfl⟩
        case round =>
          obtain ⟨j, hj, rfl, HJ⟩ := hrel
          obtain ⟨x, hx⟩ : ∃ x, F + j = x := ⟨_, rfl⟩
          rw [hx]
          have HX := Lib.hid hx
          by_cases hlt : x ≤ E
          · have l1 : (x : Int) ≤ (E : Int) := by omega
            have q0 : (0 : Int) ≤ (x : Int) := by omega
            have q1 : (x : Int) < 8 := by omega
            have q2 : (x : Int).toNat = x := Int.toNat_natCast x
            have k1 := (HRA.out.2 x (by omega)).1
            rw [RS.co _ (by omega)] at k1
            have HB := Lib.hid (And.intro hj (And.intro hlt hFE))
            cases hb : r.o x with
            | true =>
              rw [hb] at k1
              have HBB := Lib.hid hb
              clear hb hx hlt hj
              go_wp2_with fail
              go_roundw
              case rel => exact ⟨j + 1, by have := HB.out; have := HX.out; omega, congrArg (Value.int .i64) (by have := HX.out; omega), Lib.hid (by rw [wholeF, HJ.out, HX.out, HBB.out]; rfl)⟩
              case measure => (have := HB.out; simp [intOf]; omega)
            | false =>
              rw [hb] at k1
              obtain rfl : res = false := by
                rw [← HRS.out]
                exact wholeF_cut (j := j) (by rw [hx]; exact hb) (by omega)
              clear hb hx hlt hj
              go_wp2_with fail
              go_ret
              exact ⟨rfl, alc0 _ _⟩
          · have l1 : ¬ (x : Int) ≤ (E : Int) := by omega
            obtain rfl : res = true := by
              rw [← HRS.out]
              have := HJ.out
              rwa [show j = E - F + 1 by omega] at this
            clear hx hlt hj
            go_wp2_with fail
            go_ret
            exact ⟨rfl, alc0 _ _⟩
end Go.Proofs.YtgidnmjeifgciaaDoor
