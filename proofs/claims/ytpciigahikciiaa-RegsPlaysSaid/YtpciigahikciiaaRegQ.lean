/- Contracts of package regs: Count, Meets; of capa: Meets. -/
import Derived.Test.YtpciigahikciiaaRegP
import Derived.Test.YtpciigahikciiaaSpanB
import Derived.Deep.RegionHeld3
namespace Go.Proofs.Ytpciigahikciiaa
open Go.RowKit
set_option linter.unusedVariables false
set_option linter.unusedSimpArgs false

theorem meets_is (x : Bool) (a b c d : Int) (w : World) (h : meetsB a b c d = x) :
    Calls Try.prog 20 #[.agg #[.int .i64 a, .int .i64 b], .agg #[.int .i64 c, .int .i64 d]] w fun e w' => e = .returned (.bool x) ∧ Below w.heap.size w w' := by
  subst h
  by_cases h1 : mayB a b = true
  · by_cases h2 : mayB c d = true
    · by_cases h3 : a < c + d
      · exact meets_d a b c d w (Lib.hid h1) (Lib.hid h2) h3
      · exact meets_c a b c d w (Lib.hid h1) (Lib.hid h2) (by simpa using h3)
    · exact meets_b a b c d w (Lib.hid h1) (Lib.hid (by simpa using h2))
  · exact meets_a a b c d w (Lib.hid (by simpa using h1))
/-- Is it for some byte of a stretch? -/
def meetsC (x : CapV) (a b : Int) : Bool := x.v && meetsB x.b x.l a b
set_option maxHeartbeats 1600000 in
theorem cmeets (X : Bool) (b l c p t : Int) (v : Bool) (a n : Int) (w : World) (h : (v && meetsB b l a n) = X) :
    Calls Try.prog 14 #[.agg #[.int .i64 b, .int .i64 l, .int .i64 c, .int .i64 p, .int .i64 t, .bool v], .agg #[.int .i64 a, .int .i64 n]] w fun e w' => e = .returned (.bool X) ∧ Below w.heap.size w w' := by
  have HX := Lib.hid h
  clear h
  cases v with
  | false =>
    obtain rfl : false = X := by simpa using HX.out
    go_enter Try.func14, Try.ntmps14
    go_upto_region 1 with (fail)
    go_quiet (fail)
    go_wp2
    go_ret
    exact ⟨rfl, by first | exact alc (alc0 _ _) _ | exact below_drewN (alc (alc0 _ _) _) _⟩
  | true =>
    have HM : Hid (meetsB b l a n = X) := Lib.hid (by simpa using HX.out)
    clear HX
    go_enter Try.func14, Try.ntmps14
    go_upto_region 1 with (fail)
    obtain ⟨w1, hw⟩ : ∃ w1, (w.alloc (.cells #[.int .i64 b, .int .i64 l, .int .i64 c, .int .i64 p, .int .i64 t, .bool true] 28)).alloc (.cells #[.int .i64 a, .int .i64 n] 24) = w1 := ⟨_, rfl⟩
    obtain ⟨z, hz⟩ : ∃ z, w.heap.size = z := ⟨_, rfl⟩
    have c0 : w1.cell? ⟨z, 0, none⟩ = some (.int .i64 b) := by rw [← hw, ← hz]; simp
    have c1 : w1.cell? ⟨z, 1, none⟩ = some (.int .i64 l) := by rw [← hw, ← hz]; simp
    have c2 : w1.cell? ⟨z, 2, none⟩ = some (.int .i64 c) := by rw [← hw, ← hz]; simp
    have c3 : w1.cell? ⟨z, 3, none⟩ = some (.int .i64 p) := by rw [← hw, ← hz]; simp
    have c4 : w1.cell? ⟨z, 4, none⟩ = some (.int .i64 t) := by rw [← hw, ← hz]; simp
    have c5 : w1.cell? ⟨z, 5, none⟩ = some (.bool true) := by rw [← hw, ← hz]; simp
    have d0 : w1.cell? ⟨z + 1, 0, none⟩ = some (.int .i64 a) := by rw [← hw, ← hz]; simp
    have d1 : w1.cell? ⟨z + 1, 1, none⟩ = some (.int .i64 n) := by rw [← hw, ← hz]; simp
    have HB : Hid (Below w.heap.size w w1) := Lib.hid (by rw [← hw]; exact alc (alc0 _ _) _)
    have hz1 : z + 1 < w1.heap.size := by rw [← hw, ← hz]; simp
    rw [hw]
    try rw [hz]
    try simp only [hz]
    clear hw
    have HZ := Lib.hid hz
    clear hz
    refine wp_region_held_drew (S := fun w' => (w'.cell? ⟨z, 0, none⟩ = some (.int .i64 b) ∧ w'.cell? ⟨z, 1, none⟩ = some (.int .i64 l) ∧ w'.cell? ⟨z, 2, none⟩ = some (.int .i64 c) ∧ w'.cell? ⟨z, 3, none⟩ = some (.int .i64 p) ∧ w'.cell? ⟨z, 4, none⟩ = some (.int .i64 t) ∧ w'.cell? ⟨z, 5, none⟩ = some (.bool true) ∧ w'.cell? ⟨z + 1, 0, none⟩ = some (.int .i64 a) ∧ w'.cell? ⟨z + 1, 1, none⟩ = some (.int .i64 n)) ∧ Hid (Below w.heap.size w w' ∧ z + 1 < w'.heap.size)) (by kernel_rfl) ?_ (fun hHeld => ?_)
    · exact ⟨⟨c0, c1, c2, c3, c4, c5, d0, d1⟩, Lib.hid ⟨HB.out.drew, hz1⟩⟩
    clear c0 c1 c2 c3 c4 c5 d0 d1 HB hz1
    refine wpAnyH_take (i := 0) (v := ?_) rfl (by kernel_rfl) (by kernel_rfl) (by kernel_rfl) (fun _ _ _ h => h) (Or.inl ⟨by kernel_rfl, ?_⟩) (by assumption) ?_
    rotate_left
    · (intro w hSw; (try dsimp only at hSw); go_simp)
      try (with_reducible rfl)
    rotate_left
    try simp (maxSteps := 4000000) only [Act.put, List.setIfInBounds_toArray, List.set_cons_zero, List.set_cons_succ, List.getElem_toArray, List.getElem_cons_zero, List.getElem_cons_succ]
    refine wpAnyH_take (i := 1) (v := ?_) rfl (by kernel_rfl) (by kernel_rfl) (by kernel_rfl) (fun _ _ _ h => h) (Or.inl ⟨by kernel_rfl, ?_⟩) (by assumption) ?_
    rotate_left
    · (intro w hSw; (try dsimp only at hSw); go_simp)
      try (with_reducible rfl)
    rotate_left
    try simp (maxSteps := 4000000) only [Act.put, List.setIfInBounds_toArray, List.set_cons_zero, List.set_cons_succ, List.getElem_toArray, List.getElem_cons_zero, List.getElem_cons_succ]
    refine wpAnyH_take (i := 2) (v := ?_) rfl (by kernel_rfl) (by kernel_rfl) (by kernel_rfl) (fun _ _ _ h => h) (Or.inl ⟨by kernel_rfl, ?_⟩) (by assumption) ?_
    rotate_left
    · (intro w hSw; (try dsimp only at hSw); go_simp)
      try (with_reducible rfl)
    rotate_left
    try simp (maxSteps := 4000000) only [Act.put, List.setIfInBounds_toArray, List.set_cons_zero, List.set_cons_succ, List.getElem_toArray, List.getElem_cons_zero, List.getElem_cons_succ]
    refine wpAnyH_take (i := 3) (v := ?_) rfl (by kernel_rfl) (by kernel_rfl) (by kernel_rfl) (fun _ _ _ h => h) (Or.inl ⟨by kernel_rfl, ?_⟩) (by assumption) ?_
    rotate_left
    · (intro w hSw; (try dsimp only at hSw); go_simp)
      try (with_reducible rfl)
    rotate_left
    try simp (maxSteps := 4000000) only [Act.put, List.setIfInBounds_toArray, List.set_cons_zero, List.set_cons_succ, List.getElem_toArray, List.getElem_cons_zero, List.getElem_cons_succ]
    refine wpAnyH_take (i := 5) (v := ?_) rfl (by kernel_rfl) (by kernel_rfl) (by kernel_rfl) (fun _ _ _ h => h) (Or.inl ⟨by kernel_rfl, ?_⟩) (by assumption) ?_
    rotate_left
    · (intro w hSw; (try dsimp only at hSw); go_simp)
      try (with_reducible rfl)
    rotate_left
    try simp (maxSteps := 4000000) only [Act.put, List.setIfInBounds_toArray, List.set_cons_zero, List.set_cons_succ, List.getElem_toArray, List.getElem_cons_zero, List.getElem_cons_succ]
    refine wpAnyH_ready (rs := [4]) (by kernel_rfl) (by simp) ?_
    refine AllReadyH.cons rfl (fun K2 hK2 => ?_) AllReadyH.nil
    go_simp
    with_reducible refine Calls.mono (capspan_any _ _ _ _ _ _ _) ?_
    rintro e w2 ⟨rfl, hb⟩
    refine hK2.out _ _ ?_ (fun hHeld2 => ?_)
    · obtain ⟨⟨c0, c1, c2, c3, c4, c5, d0, d1⟩, ⟨hB, hz⟩⟩ := hHeld
      exact ⟨⟨(hb.cell (p := ⟨z, 0, none⟩) (by show z < _; omega)).trans c0, (hb.cell (p := ⟨z, 1, none⟩) (by show z < _; omega)).trans c1, (hb.cell (p := ⟨z, 2, none⟩) (by show z < _; omega)).trans c2, (hb.cell (p := ⟨z, 3, none⟩) (by show z < _; omega)).trans c3, (hb.cell (p := ⟨z, 4, none⟩) (by show z < _; omega)).trans c4, (hb.cell (p := ⟨z, 5, none⟩) (by show z < _; omega)).trans c5, (hb.cell (p := ⟨z + 1, 0, none⟩) (by show z + 1 < _; omega)).trans d0, (hb.cell (p := ⟨z + 1, 1, none⟩) (by show z + 1 < _; omega)).trans d1⟩, Lib.hid ⟨thn hB hb, Nat.lt_of_lt_of_le hz hb.size⟩⟩
    clear hb
    clear hK2 K2 hHeld
    have hHeld := hHeld2
    clear hHeld2
    try simp (maxSteps := 4000000) only [Act.put, List.setIfInBounds_toArray, List.set_cons_zero, List.set_cons_succ]
    refine wpAnyH_ready (rs := [6]) (by kernel_rfl) (by simp) ?_
    refine AllReadyH.cons rfl (fun K2 hK2 => ?_) AllReadyH.nil
    go_simp
    with_reducible refine Calls.mono (meets_is X _ _ _ _ _ HM.out) ?_
    rintro e w3 ⟨rfl, hb⟩
    refine hK2.out _ _ ?_ (fun hHeld2 => ?_)
    · obtain ⟨⟨c0, c1, c2, c3, c4, c5, d0, d1⟩, ⟨hB, hz⟩⟩ := hHeld
      exact ⟨⟨(hb.cell (p := ⟨z, 0, none⟩) (by show z < _; omega)).trans c0, (hb.cell (p := ⟨z, 1, none⟩) (by show z < _; omega)).trans c1, (hb.cell (p := ⟨z, 2, none⟩) (by show z < _; omega)).trans c2, (hb.cell (p := ⟨z, 3, none⟩) (by show z < _; omega)).trans c3, (hb.cell (p := ⟨z, 4, none⟩) (by show z < _; omega)).trans c4, (hb.cell (p := ⟨z, 5, none⟩) (by show z < _; omega)).trans c5, (hb.cell (p := ⟨z + 1, 0, none⟩) (by show z + 1 < _; omega)).trans d0, (hb.cell (p := ⟨z + 1, 1, none⟩) (by show z + 1 < _; omega)).trans d1⟩, Lib.hid ⟨thn hB hb, Nat.lt_of_lt_of_le hz hb.size⟩⟩
    clear hb
    clear hK2 K2 hHeld
    have hHeld := hHeld2
    clear hHeld2
    try simp (maxSteps := 4000000) only [Act.put, List.setIfInBounds_toArray, List.set_cons_zero, List.set_cons_succ]
    refine wpAnyH_take (i := 7) (v := ?_) rfl (by kernel_rfl) (by kernel_rfl) (by kernel_rfl) (fun _ _ _ h => h) (Or.inl ⟨by kernel_rfl, ?_⟩) (by assumption) ?_
    rotate_left
    · (intro w hSw; (try dsimp only at hSw); go_simp)
      try (with_reducible rfl)
    rotate_left
    try simp (maxSteps := 4000000) only [Act.put, List.setIfInBounds_toArray, List.set_cons_zero, List.set_cons_succ, List.getElem_toArray, List.getElem_cons_zero, List.getElem_cons_succ]
    refine wpAnyH_take (i := 8) (v := ?_) rfl (by kernel_rfl) (by kernel_rfl) (by kernel_rfl) (fun _ _ _ h => h) (Or.inl ⟨by kernel_rfl, ?_⟩) (by assumption) ?_
    rotate_left
    · (intro w hSw; (try dsimp only at hSw); go_simp)
      try (with_reducible rfl)
    rotate_left
    try simp (maxSteps := 4000000) only [Act.put, List.setIfInBounds_toArray, List.set_cons_zero, List.set_cons_succ, List.getElem_toArray, List.getElem_cons_zero, List.getElem_cons_succ]
    refine wpAnyH_done (by kernel_rfl) ?_ _
    go_wp2
    go_ret
    exact ⟨rfl, hHeld.2.out.1⟩
/-- How many of the first i are some. -/
def cntC (f : Nat → CapV) (i : Nat) : Nat := ((List.range i).filter fun h => (f h).v).length
theorem cntC_le (f : Nat → CapV) (i : Nat) : cntC f i ≤ i := by
  unfold cntC
  have := List.length_filter_le (fun h => (f h).v) (List.range i)
  simpa using this
theorem cntC_succ (f : Nat → CapV) (i : Nat) : cntC f (i + 1) = cntC f i + if (f i).v then 1 else 0 := by
  unfold cntC
  rw [List.range_succ, List.filter_append, List.length_append]
  by_cases h : (f i).v <;> simp [h]
set_option maxHeartbeats 1600000 in
theorem ccount (p g k : Nat) (W : World) (f : Nat → CapV) (H : RegAt p g k W (CV f)) :
    Calls Try.prog 16 #[.pointer (some ⟨p, 0, none⟩)] W fun e w' => e = .returned (.int .i64 (cntC f k : Nat)) ∧ Below W.heap.size W w' := by
  have HH := Lib.hid H
  have hk64 : k ≤ 64 := H.2.2.2.1
  clear H
  go_enter Try.func16, Try.ntmps16
  go_wp2_with fail
  refine (rlist p g k _ _ HH.out (CV_one f)).mono ?_
  rintro e w1 ⟨g2, cap, rfl, hc, hk, hb⟩
  have HC := Lib.hid hc
  have HB := Lib.hid hb
  clear hc hb
  go_wp2_with fail
  go_loopw [3, 9] (fun v3 v9 wr => ∃ i : Nat, i ≤ k ∧ v9 = .int .i64 i ∧ v3 = .int .i64 (cntC f i : Nat) ∧ Hid (Below w1.heap.size w1 wr)) (fun _ v9 _ => k - (intOf v9).toNat)
  case atStart => exact ⟨0, by omega, rfl, rfl, Lib.hid (Below.refl _ _)⟩
  case round =>
    obtain ⟨i, hi, rfl, rfl, HR⟩ := hrel
    have hle := cntC_le f i
    by_cases hik : i < k
    · have hikI : (i : Int) < (k : Int) := by omega
      have hg2 : g2 < w1.heap.size := World.block_lt_of_cell? w1 _ (HC.out 0 (by omega))
      have rr : ∀ j, j < 6 → wr.cell? ⟨g2, i * 6 + j, none⟩ = some ((f i).vs[j]!) := fun j hj => (HR.out.cell (p := ⟨g2, i * 6 + j, none⟩) hg2).trans ((HC.out (i * 6 + j) (by omega)).trans (by rw [CV_at f i j hj]))
      have c0 : wr.cell? ⟨g2, i * 6, none⟩ = some (.int .i64 (f i).b) := rr 0 (by decide)
      have c1 : wr.cell? ⟨g2, i * 6 + 1, none⟩ = some (.int .i64 (f i).l) := rr 1 (by decide)
      have c2 : wr.cell? ⟨g2, i * 6 + 2, none⟩ = some (.int .i64 (f i).c) := rr 2 (by decide)
      have c3 : wr.cell? ⟨g2, i * 6 + 3, none⟩ = some (.int .i64 (f i).p) := rr 3 (by decide)
      have c4 : wr.cell? ⟨g2, i * 6 + 4, none⟩ = some (.int .i64 (f i).t) := rr 4 (by decide)
      have c5 : wr.cell? ⟨g2, i * 6 + 5, none⟩ = some (.bool (f i).v) := rr 5 (by decide)
      have hg2r : g2 < wr.heap.size := Nat.lt_of_lt_of_le hg2 HR.out.size
      obtain ⟨X, hX⟩ : ∃ X, (f i).v = X := ⟨_, rfl⟩
      rw [hX] at c5
      have HS : Hid (cntC f (i + 1) = cntC f i + if X then 1 else 0) := Lib.hid (by rw [cntC_succ, hX])
      obtain ⟨n, hn⟩ : ∃ n, cntC f i = n := ⟨_, rfl⟩
      rw [hn] at HS hle ⊢
      clear rr hX hn
      cases X with
      | true =>
        go_wp2_with fail
        go_roundw
        case rel => exact ⟨i + 1, by omega, by go_num, by rw [HS.out]; rfl, Lib.hid (alc HR.out _)⟩
        case measure => simp [intOf] <;> omega
      | false =>
        go_wp2_with fail
        go_roundw
        case rel => exact ⟨i + 1, by omega, by go_num, by rw [HS.out]; rfl, Lib.hid (alc HR.out _)⟩
        case measure => simp [intOf] <;> omega
    · obtain rfl : i = k := by omega
      go_wp2
      go_ret
      exact ⟨rfl, thn HB.out HR.out⟩
end Go.Proofs.Ytpciigahikciiaa
