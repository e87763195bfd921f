/- The store: through a stretch, page by page. -/
import Derived.Test.YtgidnmjeifgciaaDoorSoC
import Derived.Deep.LoopGhost
namespace Go.Proofs.YtgidnmjeifgciaaDoor
set_option maxRecDepth 100000
open Go.RowKit Go.ChangeMaps Go.MapKept
open Go.Maps (Keyed)
set_option linter.unusedVariables false
set_option linter.unusedSimpArgs false

set_option maxRecDepth 100000 in
set_option maxHeartbeats 3200000 in
theorem eachR (c1 c2 : Value) (base len : Nat) (hl : 0 < len) (hb : base + len ≤ 262144) (W : World) (I : Nat → World → Prop)
    (hI : ∀ at_ w w', I at_ w → Below w.heap.size w w' → I at_ w')
    (hstep : ∀ at_ w, base ≤ at_ → at_ < base + len → W.heap.size < w.heap.size → I at_ w → Calls Tryd.prog 123 #[.int .i64 ((at_ / 256 : Nat) : Int), .int .i64 ((at_ % 256 : Nat) : Int), .int .i64 ((min 256 (at_ % 256 + (base + len - at_)) : Nat) : Int), .int .i64 ((at_ - base : Nat) : Int), c1, c2] w fun e w' => e = .returned (.tuple #[]) ∧ I (at_ + (min 256 (at_ % 256 + (base + len - at_)) - at_ % 256)) w' ∧ w.heap.size ≤ w'.heap.size ∧ w'.heap[W.heap.size]? = w.heap[W.heap.size]?)
    (h0 : ∀ w1, Below W.heap.size W w1 → I base w1) :
    Calls Tryd.prog 110 #[.agg #[.int .i64 (base : Int), .int .i64 (len : Int)], .func (.func 123) #[] #[c1, c2]] W fun e w' => e = .returned (.tuple #[]) ∧ I (base + len) w' := by
  obtain ⟨N, hN⟩ : ∃ N, base + len = N := ⟨_, rfl⟩
  rw [hN] at hstep hb ⊢
  have HI := Lib.hid hI
  have HS := Lib.hid hstep
  have H0 := Lib.hid h0
  have hend : endI (base : Int) (len : Int) = (N : Int) := by
    rw [endI_yes (mayB_iff.2 (by omega))]
    omega
  have HE := Lib.hid hend
  have hNl : base ≤ N ∧ base < N := by omega
  obtain ⟨hN1, hN2⟩ := hNl
  have hN9 : N ≤ 262144 := hb
  have HNN := Lib.hid hN
  clear hI hstep h0 hend hb hN
  go_enter Tryd.func110, Tryd.ntmps110
  go_wp2_with fail
  obtain ⟨w1, hw1⟩ : ∃ w1, W.alloc (.cells #[.int .i64 (base : Int), .int .i64 (len : Int)] 47) = w1 := ⟨_, rfl⟩
  obtain ⟨X, hX⟩ : ∃ X, W.heap.size = X := ⟨_, rfl⟩
  have HX := Lib.hid hX
  have HX1 : Hid (w1.heap[X]? = some (.cells #[.int .i64 (base : Int), .int .i64 (len : Int)] 47) ∧ X < w1.heap.size) := Lib.hid (by
    rw [← hw1, ← hX]
    exact ⟨by show (W.heap.push _)[W.heap.size]? = _; simp, by simp⟩)
  have HI1 : Hid (I base w1) := Lib.hid (H0.out w1 (by rw [← hw1]; exact alc0 _ _))
  rw [hw1]
  try rw [hX]
  clear hw1 hX
  go_loopw [4] (fun v4 wr => ∃ a : Nat, base ≤ a ∧ a ≤ N ∧ v4 = .int .i64 a ∧ Hid (I a wr) ∧ Hid (wr.heap[X]? = some (.cells #[.int .i64 (base : Int), .int .i64 (len : Int)] 47) ∧ X < wr.heap.size)) (fun v4 _ => N - (intOf v4).toNat)
  case atStart => exact ⟨base, by omega, by omega, rfl, HI1, HX1⟩
  case round =>
    clear HI1 HX1
    obtain ⟨a, ha, hae, rfl, HIa, HXa⟩ := hrel
    have hc0 : wr.cell? ⟨X, 0, none⟩ = some (.int .i64 (base : Int)) := cell_of_row _ _ 0 _ _ _ HXa.out.1
    have hc1 : wr.cell? ⟨X, 1, none⟩ = some (.int .i64 (len : Int)) := cell_of_row _ _ 1 _ _ _ HXa.out.1
    have hXz := HXa.out.2
    go_wp2_with fail
    with_reducible refine Calls.mono (end_any _ _ wr) ?_
    rintro e w2 ⟨rfl, hb2⟩
    rw [HE.out]
    have HB2 := Lib.hid hb2
    have hd0 := (hb2.cell (p := ⟨X, 0, none⟩) hXz).trans hc0
    have hd1 := (hb2.cell (p := ⟨X, 1, none⟩) hXz).trans hc1
    clear hb2 hc0 hc1
    by_cases hlt : a < N
    · have i1 : (a : Int) < (N : Int) := by omega
      obtain ⟨P, hP⟩ : ∃ P, a / 256 = P := ⟨_, rfl⟩
      obtain ⟨R, hR⟩ : ∃ R, a % 256 = R := ⟨_, rfl⟩
      obtain ⟨T, hT⟩ : ∃ T, min 256 (R + (N - a)) = T := ⟨_, rfl⟩
      have q1 : (a : Int).tdiv 256 = (P : Int) := by rw [Int.tdiv_eq_ediv_of_nonneg (by omega)]; omega
      have q1' : (a : Int) / 256 = (P : Int) := by omega
      have q2 : (a : Int).tmod 256 = (R : Int) := by rw [Int.tmod_eq_emod_of_nonneg (by omega)]; omega
      have q2' : (a : Int) % 256 = (R : Int) := by omega
      have hR9 : R < 256 := by omega
      have hPn := Lib.hid hP
      have hRn := Lib.hid hR
      have hTn := Lib.hid hT
      have hT1 : R < T := by omega
      have hT2 : T ≤ 256 := by omega
      have hT3 : a + (T - R) ≤ N := by omega
      obtain ⟨RN, hRN⟩ : ∃ RN, R + N = RN := ⟨_, rfl⟩
      have q3 : IntKind.i64.wrap ((R : Int) + (N : Int)) = (RN : Int) := by rw [IntKind.wrap_i64]; omega
      have q4 : IntKind.i64.wrap ((RN : Int) - (a : Int)) = ((R + (N - a) : Nat) : Int) := by rw [IntKind.wrap_i64]; omega
      have q5 : IntKind.i64.wrap ((a : Int) - (base : Int)) = ((a - base : Nat) : Int) := by rw [IntKind.wrap_i64]; omega
      have q6 : IntKind.i64.wrap ((T : Int) - (R : Int)) = ((T - R : Nat) : Int) := by rw [IntKind.wrap_i64]; omega
      have q7 : IntKind.i64.wrap ((a : Int) + ((T - R : Nat) : Int)) = ((a + (T - R) : Nat) : Int) := by rw [IntKind.wrap_i64]; omega
      clear hP hR hT hRN
      go_wp2_with fail
      with_reducible refine Calls.mono (end_any _ _ w2) ?_
      rintro e w3 ⟨rfl, hb3⟩
      rw [HE.out]
      have HB3 : Hid (Below wr.heap.size wr w3) := Lib.hid (thn HB2.out hb3)
      have he0 := (hb3.cell (p := ⟨X, 0, none⟩) (Nat.lt_of_lt_of_le hXz HB2.out.size)).trans hd0
      have he1 := (hb3.cell (p := ⟨X, 1, none⟩) (Nat.lt_of_lt_of_le hXz HB2.out.size)).trans hd1
      clear hb3 hd0 hd1 hXz
      obtain ⟨E, hE⟩ : ∃ E : Nat, R + (N - a) = E := ⟨_, rfl⟩
      rw [hE] at q4
      have hEn := Lib.hid hE
      have hPlus : a - base = a - base := rfl
      have hstep := HS.out a w3 ha hlt (by rw [HX.out]; have := HXa.out.2; have := HB3.out.size; omega) (HI.out a wr w3 HIa.out HB3.out)
      rw [hPn.out, hRn.out, hEn.out] at hstep
      have hTE : min 256 E = T := by rw [← hEn.out]; exact hTn.out
      rw [hTE] at hstep
      have HST := Lib.hid hstep
      have hX3 : Hid (w3.heap[X]? = some (.cells #[.int .i64 (base : Int), .int .i64 (len : Int)] 47) ∧ X < w3.heap.size) := Lib.hid ⟨(HB3.out.block X HXa.out.2).trans HXa.out.1, by have := HXa.out.2; have := HB3.out.size; omega⟩
      have hNeg : base ≤ a + (T - R) := by omega
      have hlt2 : N - (a + (T - R)) < N - a := by omega
      clear hPlus hstep hTE
      rcases (show (E < 256 ∧ T = E) ∨ (256 ≤ E ∧ T = 256) by have := hTn.out; rw [hEn.out] at this; omega) with ⟨hm1, hm2⟩ | ⟨hm1, hm2⟩
      · subst hm2
        have j1 : (T : Int) < 256 := by omega
        clear hm1
        go_wp2_with fail
        with_reducible refine Calls.mono HST.out ?_
        rintro e w4 ⟨rfl, hI4, hs4, hx4⟩
        rw [HX.out] at hx4
        have HI4 := Lib.hid hI4
        have HX4 : Hid (w4.heap[X]? = some (.cells #[.int .i64 (base : Int), .int .i64 (len : Int)] 47) ∧ X < w4.heap.size) := Lib.hid ⟨hx4.trans hX3.out.1, by have := hX3.out.2; omega⟩
        clear hI4 hs4 hx4 he0 he1
        go_wp2_with fail
        go_roundw
        case rel => exact ⟨a + (T - R), hNeg, hT3, by first | rfl | go_num, HI4, HX4⟩
        case measure => (simp [intOf] <;> omega)
      · subst hm2
        have j1 : ¬ (E : Int) < 256 := by omega
        clear hm1
        go_wp2_with fail
        with_reducible refine Calls.mono HST.out ?_
        rintro e w4 ⟨rfl, hI4, hs4, hx4⟩
        rw [HX.out] at hx4
        have HI4 := Lib.hid hI4
        have HX4 : Hid (w4.heap[X]? = some (.cells #[.int .i64 (base : Int), .int .i64 (len : Int)] 47) ∧ X < w4.heap.size) := Lib.hid ⟨hx4.trans hX3.out.1, by have := hX3.out.2; omega⟩
        clear hI4 hs4 hx4 he0 he1
        go_wp2_with fail
        go_roundw
        case rel => exact ⟨a + (256 - R), hNeg, hT3, by first | rfl | go_num, HI4, HX4⟩
        case measure => (simp [intOf] <;> omega)
    · obtain rfl : a = N := by omega
      have i1 : ¬ (a : Int) < (a : Int) := by omega
      go_wp2
      exact bodyPost_end (v := .tuple #[]) (by simp [results, Tryd.results110, go_sem]) rfl ⟨rfl, HI.out a wr w2 HIa.out HB2.out⟩
set_option maxRecDepth 100000 in
set_option maxHeartbeats 3200000 in
theorem eachW (c1 c2 : Value) (base len : Nat) (hl : 0 < len) (hb : base + len ≤ 262144) (W : World) (I : Nat → World → Prop)
    (hI : ∀ at_ w w', I at_ w → Below w.heap.size w w' → I at_ w')
    (hstep : ∀ at_ w, base ≤ at_ → at_ < base + len → W.heap.size < w.heap.size → I at_ w → Calls Tryd.prog 111 #[.int .i64 ((at_ / 256 : Nat) : Int), .int .i64 ((at_ % 256 : Nat) : Int), .int .i64 ((min 256 (at_ % 256 + (base + len - at_)) : Nat) : Int), .int .i64 ((at_ - base : Nat) : Int), c1, c2] w fun e w' => e = .returned (.tuple #[]) ∧ I (at_ + (min 256 (at_ % 256 + (base + len - at_)) - at_ % 256)) w' ∧ w.heap.size ≤ w'.heap.size ∧ w'.heap[W.heap.size]? = w.heap[W.heap.size]?)
    (h0 : ∀ w1, Below W.heap.size W w1 → I base w1) :
    Calls Tryd.prog 110 #[.agg #[.int .i64 (base : Int), .int .i64 (len : Int)], .func (.func 111) #[] #[c1, c2]] W fun e w' => e = .returned (.tuple #[]) ∧ I (base + len) w' := by
  obtain ⟨N, hN⟩ : ∃ N, base + len = N := ⟨_, rfl⟩
  rw [hN] at hstep hb ⊢
  have HI := Lib.hid hI
  have HS := Lib.hid hstep
  have H0 := Lib.hid h0
  have hend : endI (base : Int) (len : Int) = (N : Int) := by
    rw [endI_yes (mayB_iff.2 (by omega))]
    omega
  have HE := Lib.hid hend
  have hNl : base ≤ N ∧ base < N := by omega
  obtain ⟨hN1, hN2⟩ := hNl
  have hN9 : N ≤ 262144 := hb
  have HNN := Lib.hid hN
  clear hI hstep h0 hend hb hN
  go_enter Tryd.func110, Tryd.ntmps110
  go_wp2_with fail
  obtain ⟨w1, hw1⟩ : ∃ w1, W.alloc (.cells #[.int .i64 (base : Int), .int .i64 (len : Int)] 47) = w1 := ⟨_, rfl⟩
  obtain ⟨X, hX⟩ : ∃ X, W.heap.size = X := ⟨_, rfl⟩
  have HX := Lib.hid hX
  have HX1 : Hid (w1.heap[X]? = some (.cells #[.int .i64 (base : Int), .int .i64 (len : Int)] 47) ∧ X < w1.heap.size) := Lib.hid (by
    rw [← hw1, ← hX]
    exact ⟨by show (W.heap.push _)[W.heap.size]? = _; simp, by simp⟩)
  have HI1 : Hid (I base w1) := Lib.hid (H0.out w1 (by rw [← hw1]; exact alc0 _ _))
  rw [hw1]
  try rw [hX]
  clear hw1 hX
  go_loopw [4] (fun v4 wr => ∃ a : Nat, base ≤ a ∧ a ≤ N ∧ v4 = .int .i64 a ∧ Hid (I a wr) ∧ Hid (wr.heap[X]? = some (.cells #[.int .i64 (base : Int), .int .i64 (len : Int)] 47) ∧ X < wr.heap.size)) (fun v4 _ => N - (intOf v4).toNat)
  case atStart => exact ⟨base, by omega, by omega, rfl, HI1, HX1⟩
  case round =>
    clear HI1 HX1
    obtain ⟨a, ha, hae, rfl, HIa, HXa⟩ := hrel
    have hc0 : wr.cell? ⟨X, 0, none⟩ = some (.int .i64 (base : Int)) := cell_of_row _ _ 0 _ _ _ HXa.out.1
    have hc1 : wr.cell? ⟨X, 1, none⟩ = some (.int .i64 (len : Int)) := cell_of_row _ _ 1 _ _ _ HXa.out.1
    have hXz := HXa.out.2
    go_wp2_with fail
    with_reducible refine Calls.mono (end_any _ _ wr) ?_
    rintro e w2 ⟨rfl, hb2⟩
    rw [HE.out]
    have HB2 := Lib.hid hb2
    have hd0 := (hb2.cell (p := ⟨X, 0, none⟩) hXz).trans hc0
    have hd1 := (hb2.cell (p := ⟨X, 1, none⟩) hXz).trans hc1
    clear hb2 hc0 hc1
    by_cases hlt : a < N
    · have i1 : (a : Int) < (N : Int) := by omega
      obtain ⟨P, hP⟩ : ∃ P, a / 256 = P := ⟨_, rfl⟩
      obtain ⟨R, hR⟩ : ∃ R, a % 256 = R := ⟨_, rfl⟩
      obtain ⟨T, hT⟩ : ∃ T, min 256 (R + (N - a)) = T := ⟨_, rfl⟩
      have q1 : (a : Int).tdiv 256 = (P : Int) := by rw [Int.tdiv_eq_ediv_of_nonneg (by omega)]; omega
      have q1' : (a : Int) / 256 = (P : Int) := by omega
      have q2 : (a : Int).tmod 256 = (R : Int) := by rw [Int.tmod_eq_emod_of_nonneg (by omega)]; omega
      have q2' : (a : Int) % 256 = (R : Int) := by omega
      have hR9 : R < 256 := by omega
      have hPn := Lib.hid hP
      have hRn := Lib.hid hR
      have hTn := Lib.hid hT
      have hT1 : R < T := by omega
      have hT2 : T ≤ 256 := by omega
      have hT3 : a + (T - R) ≤ N := by omega
      obtain ⟨RN, hRN⟩ : ∃ RN, R + N = RN := ⟨_, rfl⟩
      have q3 : IntKind.i64.wrap ((R : Int) + (N : Int)) = (RN : Int) := by rw [IntKind.wrap_i64]; omega
      have q4 : IntKind.i64.wrap ((RN : Int) - (a : Int)) = ((R + (N - a) : Nat) : Int) := by rw [IntKind.wrap_i64]; omega
      have q5 : IntKind.i64.wrap ((a : Int) - (base : Int)) = ((a - base : Nat) : Int) := by rw [IntKind.wrap_i64]; omega
      have q6 : IntKind.i64.wrap ((T : Int) - (R : Int)) = ((T - R : Nat) : Int) := by rw [IntKind.wrap_i64]; omega
      have q7 : IntKind.i64.wrap ((a : Int) + ((T - R : Nat) : Int)) = ((a + (T - R) : Nat) : Int) := by rw [IntKind.wrap_i64]; omega
      clear hP hR hT hRN
      go_wp2_with fail
      with_reducible refine Calls.mono (end_any _ _ w2) ?_
      rintro e w3 ⟨rfl, hb3⟩
      rw [HE.out]
      have HB3 : Hid (Below wr.heap.size wr w3) := Lib.hid (thn HB2.out hb3)
      have he0 := (hb3.cell (p := ⟨X, 0, none⟩) (Nat.lt_of_lt_of_le hXz HB2.out.size)).trans hd0
      have he1 := (hb3.cell (p := ⟨X, 1, none⟩) (Nat.lt_of_lt_of_le hXz HB2.out.size)).trans hd1
      clear hb3 hd0 hd1 hXz
      obtain ⟨E, hE⟩ : ∃ E : Nat, R + (N - a) = E := ⟨_, rfl⟩
      rw [hE] at q4
      have hEn := Lib.hid hE
      have hPlus : a - base = a - base := rfl
      have hstep := HS.out a w3 ha hlt (by rw [HX.out]; have := HXa.out.2; have := HB3.out.size; omega) (HI.out a wr w3 HIa.out HB3.out)
      rw [hPn.out, hRn.out, hEn.out] at hstep
      have hTE : min 256 E = T := by rw [← hEn.out]; exact hTn.out
      rw [hTE] at hstep
      have HST := Lib.hid hstep
      have hX3 : Hid (w3.heap[X]? = some (.cells #[.int .i64 (base : Int), .int .i64 (len : Int)] 47) ∧ X < w3.heap.size) := Lib.hid ⟨(HB3.out.block X HXa.out.2).trans HXa.out.1, by have := HXa.out.2; have := HB3.out.size; omega⟩
      have hNeg : base ≤ a + (T - R) := by omega
      have hlt2 : N - (a + (T - R)) < N - a := by omega
      clear hPlus hstep hTE
      rcases (show (E < 256 ∧ T = E) ∨ (256 ≤ E ∧ T = 256) by have := hTn.out; rw [hEn.out] at this; omega) with ⟨hm1, hm2⟩ | ⟨hm1, hm2⟩
      · subst hm2
        have j1 : (T : Int) < 256 := by omega
        clear hm1
        go_wp2_with fail
        with_reducible refine Calls.mono HST.out ?_
        rintro e w4 ⟨rfl, hI4, hs4, hx4⟩
        rw [HX.out] at hx4
        have HI4 := Lib.hid hI4
        have HX4 : Hid (w4.heap[X]? = some (.cells #[.int .i64 (base : Int), .int .i64 (len : Int)] 47) ∧ X < w4.heap.size) := Lib.hid ⟨hx4.trans hX3.out.1, by have := hX3.out.2; omega⟩
        clear hI4 hs4 hx4 he0 he1
        go_wp2_with fail
        go_roundw
        case rel => exact ⟨a + (T - R), hNeg, hT3, by first | rfl | go_num, HI4, HX4⟩
        case measure => (simp [intOf] <;> omega)
      · subst hm2
        have j1 : ¬ (E : Int) < 256 := by omega
        clear hm1
        go_wp2_with fail
        with_reducible refine Calls.mono HST.out ?_
        rintro e w4 ⟨rfl, hI4, hs4, hx4⟩
        rw [HX.out] at hx4
        have HI4 := Lib.hid hI4
        have HX4 : Hid (w4.heap[X]? = some (.cells #[.int .i64 (base : Int), .int .i64 (len : Int)] 47) ∧ X < w4.heap.size) := Lib.hid ⟨hx4.trans hX3.out.1, by have := hX3.out.2; omega⟩
        clear hI4 hs4 hx4 he0 he1
        go_wp2_with fail
        go_roundw
        case rel => exact ⟨a + (256 - R), hNeg, hT3, by first | rfl | go_num, HI4, HX4⟩
        case measure => (simp [intOf] <;> omega)
    · obtain rfl : a = N := by omega
      have i1 : ¬ (a : Int) < (a : Int) := by omega
      go_wp2
      exact bodyPost_end (v := .tuple #[]) (by simp [results, Tryd.results110, go_sem]) rfl ⟨rfl, HI.out a wr w2 HIa.out HB2.out⟩
set_option maxRecDepth 100000 in
set_option maxHeartbeats 3200000 in
theorem eachF (c1 c2 : Value) (base len : Nat) (hl : 0 < len) (hb : base + len ≤ 262144) (W : World) (I : Nat → World → Prop)
    (hI : ∀ at_ w w', I at_ w → Below w.heap.size w w' → I at_ w')
    (hstep : ∀ at_ w, base ≤ at_ → at_ < base + len → W.heap.size < w.heap.size → I at_ w → Calls Tryd.prog 113 #[.int .i64 ((at_ / 256 : Nat) : Int), .int .i64 ((at_ % 256 : Nat) : Int), .int .i64 ((min 256 (at_ % 256 + (base + len - at_)) : Nat) : Int), .int .i64 ((at_ - base : Nat) : Int), c1, c2] w fun e w' => e = .returned (.tuple #[]) ∧ I (at_ + (min 256 (at_ % 256 + (base + len - at_)) - at_ % 256)) w' ∧ w.heap.size ≤ w'.heap.size ∧ w'.heap[W.heap.size]? = w.heap[W.heap.size]?)
    (h0 : ∀ w1, Below W.heap.size W w1 → I base w1) :
    Calls Tryd.prog 110 #[.agg #[.int .i64 (base : Int), .int .i64 (len : Int)], .func (.func 113) #[] #[c1, c2]] W fun e w' => e = .returned (.tuple #[]) ∧ I (base + len) w' := by
  obtain ⟨N, hN⟩ : ∃ N, base + len = N := ⟨_, rfl⟩
  rw [hN] at hstep hb ⊢
  have HI := Lib.hid hI
  have HS := Lib.hid hstep
  have H0 := Lib.hid h0
  have hend : endI (base : Int) (len : Int) = (N : Int) := by
    rw [endI_yes (mayB_iff.2 (by omega))]
    omega
  have HE := Lib.hid hend
  have hNl : base ≤ N ∧ base < N := by omega
  obtain ⟨hN1, hN2⟩ := hNl
  have hN9 : N ≤ 262144 := hb
  have HNN := Lib.hid hN
  clear hI hstep h0 hend hb hN
  go_enter Tryd.func110, Tryd.ntmps110
  go_wp2_with fail
  obtain ⟨w1, hw1⟩ : ∃ w1, W.alloc (.cells #[.int .i64 (base : Int), .int .i64 (len : Int)] 47) = w1 := ⟨_, rfl⟩
  obtain ⟨X, hX⟩ : ∃ X, W.heap.size = X := ⟨_, rfl⟩
  have HX := Lib.hid hX
  have HX1 : Hid (w1.heap[X]? = some (.cells #[.int .i64 (base : Int), .int .i64 (len : Int)] 47) ∧ X < w1.heap.size) := Lib.hid (by
    rw [← hw1, ← hX]
    exact ⟨by show (W.heap.push _)[W.heap.size]? = _; simp, by simp⟩)
  have HI1 : Hid (I base w1) := Lib.hid (H0.out w1 (by rw [← hw1]; exact alc0 _ _))
  rw [hw1]
  try rw [hX]
  clear hw1 hX
  go_loopw [4] (fun v4 wr => ∃ a : Nat, base ≤ a ∧ a ≤ N ∧ v4 = .int .i64 a ∧ Hid (I a wr) ∧ Hid (wr.heap[X]? = some (.cells #[.int .i64 (base : Int), .int .i64 (len : Int)] 47) ∧ X < wr.heap.size)) (fun v4 _ => N - (intOf v4).toNat)
  case atStart => exact ⟨base, by omega, by omega, rfl, HI1, HX1⟩
  case round =>
    clear HI1 HX1
    obtain ⟨a, ha, hae, rfl, HIa, HXa⟩ := hrel
    have hc0 : wr.cell? ⟨X, 0, none⟩ = some (.int .i64 (base : Int)) := cell_of_row _ _ 0 _ _ _ HXa.out.1
    have hc1 : wr.cell? ⟨X, 1, none⟩ = some (.int .i64 (len : Int)) := cell_of_row _ _ 1 _ _ _ HXa.out.1
    have hXz := HXa.out.2
    go_wp2_with fail
    with_reducible refine Calls.mono (end_any _ _ wr) ?_
    rintro e w2 ⟨rfl, hb2⟩
    rw [HE.out]
    have HB2 := Lib.hid hb2
    have hd0 := (hb2.cell (p := ⟨X, 0, none⟩) hXz).trans hc0
    have hd1 := (hb2.cell (p := ⟨X, 1, none⟩) hXz).trans hc1
    clear hb2 hc0 hc1
    by_cases hlt : a < N
    · have i1 : (a : Int) < (N : Int) := by omega
      obtain ⟨P, hP⟩ : ∃ P, a / 256 = P := ⟨_, rfl⟩
      obtain ⟨R, hR⟩ : ∃ R, a % 256 = R := ⟨_, rfl⟩
      obtain ⟨T, hT⟩ : ∃ T, min 256 (R + (N - a)) = T := ⟨_, rfl⟩
      have q1 : (a : Int).tdiv 256 = (P : Int) := by rw [Int.tdiv_eq_ediv_of_nonneg (by omega)]; omega
      have q1' : (a : Int) / 256 = (P : Int) := by omega
      have q2 : (a : Int).tmod 256 = (R : Int) := by rw [Int.tmod_eq_emod_of_nonneg (by omega)]; omega
      have q2' : (a : Int) % 256 = (R : Int) := by omega
      have hR9 : R < 256 := by omega
      have hPn := Lib.hid hP
      have hRn := Lib.hid hR
      have hTn := Lib.hid hT
      have hT1 : R < T := by omega
      have hT2 : T ≤ 256 := by omega
      have hT3 : a + (T - R) ≤ N := by omega
      obtain ⟨RN, hRN⟩ : ∃ RN, R + N = RN := ⟨_, rfl⟩
      have q3 : IntKind.i64.wrap ((R : Int) + (N : Int)) = (RN : Int) := by rw [IntKind.wrap_i64]; omega
      have q4 : IntKind.i64.wrap ((RN : Int) - (a : Int)) = ((R + (N - a) : Nat) : Int) := by rw [IntKind.wrap_i64]; omega
      have q5 : IntKind.i64.wrap ((a : Int) - (base : Int)) = ((a - base : Nat) : Int) := by rw [IntKind.wrap_i64]; omega
      have q6 : IntKind.i64.wrap ((T : Int) - (R : Int)) = ((T - R : Nat) : Int) := by rw [IntKind.wrap_i64]; omega
      have q7 : IntKind.i64.wrap ((a : Int) + ((T - R : Nat) : Int)) = ((a + (T - R) : Nat) : Int) := by rw [IntKind.wrap_i64]; omega
      clear hP hR hT hRN
      go_wp2_with fail
      with_reducible refine Calls.mono (end_any _ _ w2) ?_
      rintro e w3 ⟨rfl, hb3⟩
      rw [HE.out]
      have HB3 : Hid (Below wr.heap.size wr w3) := Lib.hid (thn HB2.out hb3)
      have he0 := (hb3.cell (p := ⟨X, 0, none⟩) (Nat.lt_of_lt_of_le hXz HB2.out.size)).trans hd0
      have he1 := (hb3.cell (p := ⟨X, 1, none⟩) (Nat.lt_of_lt_of_le hXz HB2.out.size)).trans hd1
      clear hb3 hd0 hd1 hXz
      obtain ⟨E, hE⟩ : ∃ E : Nat, R + (N - a) = E := ⟨_, rfl⟩
      rw [hE] at q4
      have hEn := Lib.hid hE
      have hPlus : a - base = a - base := rfl
      have hstep := HS.out a w3 ha hlt (by rw [HX.out]; have := HXa.out.2; have := HB3.out.size; omega) (HI.out a wr w3 HIa.out HB3.out)
      rw [hPn.out, hRn.out, hEn.out] at hstep
      have hTE : min 256 E = T := by rw [← hEn.out]; exact hTn.out
      rw [hTE] at hstep
      have HST := Lib.hid hstep
      have hX3 : Hid (w3.heap[X]? = some (.cells #[.int .i64 (base : Int), .int .i64 (len : Int)] 47) ∧ X < w3.heap.size) := Lib.hid ⟨(HB3.out.block X HXa.out.2).trans HXa.out.1, by have := HXa.out.2; have := HB3.out.size; omega⟩
      have hNeg : base ≤ a + (T - R) := by omega
      have hlt2 : N - (a + (T - R)) < N - a := by omega
      clear hPlus hstep hTE
      rcases (show (E < 256 ∧ T = E) ∨ (256 ≤ E ∧ T = 256) by have := hTn.out; rw [hEn.out] at this; omega) with ⟨hm1, hm2⟩ | ⟨hm1, hm2⟩
      · subst hm2
        have j1 : (T : Int) < 256 := by omega
        clear hm1
        go_wp2_with fail
        with_reducible refine Calls.mono HST.out ?_
        rintro e w4 ⟨rfl, hI4, hs4, hx4⟩
        rw [HX.out] at hx4
        have HI4 := Lib.hid hI4
        have HX4 : Hid (w4.heap[X]? = some (.cells #[.int .i64 (base : Int), .int .i64 (len : Int)] 47) ∧ X < w4.heap.size) := Lib.hid ⟨hx4.trans hX3.out.1, by have := hX3.out.2; omega⟩
        clear hI4 hs4 hx4 he0 he1
        go_wp2_with fail
        go_roundw
        case rel => exact ⟨a + (T - R), hNeg, hT3, by first | rfl | go_num, HI4, HX4⟩
        case measure => (simp [intOf] <;> omega)
      · subst hm2
        have j1 : ¬ (E : Int) < 256 := by omega
        clear hm1
        go_wp2_with fail
        with_reducible refine Calls.mono HST.out ?_
        rintro e w4 ⟨rfl, hI4, hs4, hx4⟩
        rw [HX.out] at hx4
        have HI4 := Lib.hid hI4
        have HX4 : Hid (w4.heap[X]? = some (.cells #[.int .i64 (base : Int), .int .i64 (len : Int)] 47) ∧ X < w4.heap.size) := Lib.hid ⟨hx4.trans hX3.out.1, by have := hX3.out.2; omega⟩
        clear hI4 hs4 hx4 he0 he1
        go_wp2_with fail
        go_roundw
        case rel => exact ⟨a + (256 - R), hNeg, hT3, by first | rfl | go_num, HI4, HX4⟩
        case measure => (simp [intOf] <;> omega)
    · obtain rfl : a = N := by omega
      have i1 : ¬ (a : Int) < (a : Int) := by omega
      go_wp2
      exact bodyPost_end (v := .tuple #[]) (by simp [results, Tryd.results110, go_sem]) rfl ⟨rfl, HI.out a wr w2 HIa.out HB2.out⟩
end Go.Proofs.YtgidnmjeifgciaaDoor
