/- trace.Same: slices.EqualFunc with its closure. -/
import Derived.Test.YtahggokeelgjdaaTrS
namespace Go.Proofs.Ytahggokeelgjdaa
open Go.RowKit
set_option linter.unusedVariables false
set_option linter.unusedSimpArgs false

set_option maxHeartbeats 6400000 in
theorem trSame1 (o o' : Op7) (dv dv' : Value) (d d' : List Nat) (W : World) (B : Bool) (h : RD W dv d) (h' : RD W dv' d') (hx : ∀ x ∈ d, x < 256) (hx' : ∀ x ∈ d', x < 256) (hB : B = true ↔ (o = o' ∧ d = d')) :
    Calls Try.prog 29 #[.agg #[.int .i64 o.k, .int .i64 o.t, .int .i64 o.a, .int .i64 o.b, .int .i64 o.v, .int .i64 o.n, .int .i64 o.m, dv], .agg #[.int .i64 o'.k, .int .i64 o'.t, .int .i64 o'.a, .int .i64 o'.b, .int .i64 o'.v, .int .i64 o'.n, .int .i64 o'.m, dv']] W fun e w' => e = .returned (.bool B) ∧ Below W.heap.size W w' := by
  obtain ⟨k, t, a, b, v, n, m⟩ := o
  obtain ⟨k', t', a', b', v', n', m'⟩ := o'
  have hsh := h
  have hsh' := h'
  obtain ⟨A, c, rfl, _, _⟩ := hsh
  obtain ⟨A', c', rfl, _, _⟩ := hsh'
  have HD := Lib.hid h
  have HD' := Lib.hid h'
  have HX := Lib.hid hx
  have HX' := Lib.hid hx'
  have HB := Lib.hid hB
  clear h h' hx hx' hB
  go_enter Try.func29, Try.ntmps29
  go_upto_region 1 with (fail)
  obtain ⟨W1, hW1⟩ : ∃ W1, (W.alloc (.cells #[.int .i64 k, .int .i64 t, .int .i64 a, .int .i64 b, .int .i64 v, .int .i64 n, .int .i64 m, .slice A d.length c] 25)).alloc (.cells #[.int .i64 k', .int .i64 t', .int .i64 a', .int .i64 b', .int .i64 v', .int .i64 n', .int .i64 m', .slice A' d'.length c'] 25) = W1 := ⟨_, rfl⟩
  obtain ⟨X, hX⟩ : ∃ X, W.heap.size = X := ⟨_, rfl⟩
  have cc : (W1.cell? ⟨X, 0, none⟩ = some (.int .i64 k) ∧ W1.cell? ⟨X, 1, none⟩ = some (.int .i64 t) ∧ W1.cell? ⟨X, 2, none⟩ = some (.int .i64 a) ∧ W1.cell? ⟨X, 3, none⟩ = some (.int .i64 b) ∧ W1.cell? ⟨X, 4, none⟩ = some (.int .i64 v) ∧ W1.cell? ⟨X, 5, none⟩ = some (.int .i64 n) ∧ W1.cell? ⟨X, 6, none⟩ = some (.int .i64 m) ∧ W1.cell? ⟨X, 7, none⟩ = some (.slice A d.length c)) := by rw [← hW1, ← hX]; refine ⟨?_, ?_, ?_, ?_, ?_, ?_, ?_, ?_⟩ <;> simp
  have cd : (W1.cell? ⟨X + 1, 0, none⟩ = some (.int .i64 k') ∧ W1.cell? ⟨X + 1, 1, none⟩ = some (.int .i64 t') ∧ W1.cell? ⟨X + 1, 2, none⟩ = some (.int .i64 a') ∧ W1.cell? ⟨X + 1, 3, none⟩ = some (.int .i64 b') ∧ W1.cell? ⟨X + 1, 4, none⟩ = some (.int .i64 v') ∧ W1.cell? ⟨X + 1, 5, none⟩ = some (.int .i64 n') ∧ W1.cell? ⟨X + 1, 6, none⟩ = some (.int .i64 m') ∧ W1.cell? ⟨X + 1, 7, none⟩ = some (.slice A' d'.length c')) := by rw [← hW1, ← hX]; refine ⟨?_, ?_, ?_, ?_, ?_, ?_, ?_, ?_⟩ <;> simp
  have HB1 : Hid (Below W.heap.size W W1) := Lib.hid (by rw [← hW1]; exact alc (alc0 _ _) _)
  rw [hW1]
  clear hW1
  try rw [hX]
  clear hX
  obtain ⟨q0, q1, q2, q3, q4, q5, q6, q7⟩ := cc
  obtain ⟨p0, p1, p2, p3, p4, p5, p6, p7⟩ := cd
  by_cases h0 : k = k'
  · subst h0
    by_cases h1 : t = t'
    · subst h1
      by_cases h2 : a = a'
      · subst h2
        by_cases h3 : b = b'
        · subst h3
          by_cases h4 : v = v'
          · subst h4
            by_cases h5 : n = n'
            · subst h5
              by_cases h6 : m = m'
              · subst h6
                go_wp2_with fail
                with_reducible refine Calls.mono (beq_bytes _ _ d d' W1 (HD.out.keep HB1.out) (HD'.out.keep HB1.out) HX.out HX'.out) ?_
                rintro e w2 ⟨rfl, rfl⟩
                obtain rfl : decide (d = d') = B := by
                  cases B with
                  | false => exact decide_eq_false (fun h => by have := HB.out.2 (by simp [h]); simp at this)
                  | true => exact decide_eq_true (HB.out.1 rfl).2
                obtain ⟨T, hT⟩ : ∃ T, decide (d = d') = T := ⟨_, rfl⟩
                rw [hT]
                have HT := Lib.hid hT
                clear hT
                go_wp2
                go_ret
                exact ⟨by rw [HT.out]; rfl, by first | exact HB1.out | exact below_drewN HB1.out _⟩
              · have i1 : (m == m') = false := beq_eq_false_iff_ne.2 h6
                have i2 : decide (m = m') = false := decide_eq_false h6
                obtain rfl : false = B := by
                  cases B with
                  | false => rfl
                  | true => have := HB.out.1 rfl; simp only [Op7.mk.injEq] at this; exact absurd this.1.2.2.2.2.2.2 h6
                go_wp2
                go_ret
                exact ⟨rfl, by first | exact HB1.out | exact below_drewN HB1.out _⟩
            · have i1 : (n == n') = false := beq_eq_false_iff_ne.2 h5
              have i2 : decide (n = n') = false := decide_eq_false h5
              obtain rfl : false = B := by
                cases B with
                | false => rfl
                | true => have := HB.out.1 rfl; simp only [Op7.mk.injEq] at this; exact absurd this.1.2.2.2.2.2.1 h5
              go_wp2
              go_ret
              exact ⟨rfl, by first | exact HB1.out | exact below_drewN HB1.out _⟩
          · have i1 : (v == v') = false := beq_eq_false_iff_ne.2 h4
            have i2 : decide (v = v') = false := decide_eq_false h4
            obtain rfl : false = B := by
              cases B with
              | false => rfl
              | true => have := HB.out.1 rfl; simp only [Op7.mk.injEq] at this; exact absurd this.1.2.2.2.2.1 h4
            go_wp2
            go_ret
            exact ⟨rfl, by first | exact HB1.out | exact below_drewN HB1.out _⟩
        · have i1 : (b == b') = false := beq_eq_false_iff_ne.2 h3
          have i2 : decide (b = b') = false := decide_eq_false h3
          obtain rfl : false = B := by
            cases B with
            | false => rfl
            | true => have := HB.out.1 rfl; simp only [Op7.mk.injEq] at this; exact absurd this.1.2.2.2.1 h3
          go_wp2
          go_ret
          exact ⟨rfl, by first | exact HB1.out | exact below_drewN HB1.out _⟩
      · have i1 : (a == a') = false := beq_eq_false_iff_ne.2 h2
        have i2 : decide (a = a') = false := decide_eq_false h2
        obtain rfl : false = B := by
          cases B with
          | false => rfl
          | true => have := HB.out.1 rfl; simp only [Op7.mk.injEq] at this; exact absurd this.1.2.2.1 h2
        go_wp2
        go_ret
        exact ⟨rfl, by first | exact HB1.out | exact below_drewN HB1.out _⟩
    · have i1 : (t == t') = false := beq_eq_false_iff_ne.2 h1
      have i2 : decide (t = t') = false := decide_eq_false h1
      obtain rfl : false = B := by
        cases B with
        | false => rfl
        | true => have := HB.out.1 rfl; simp only [Op7.mk.injEq] at this; exact absurd this.1.2.1 h1
      go_wp2
      go_ret
      exact ⟨rfl, by first | exact HB1.out | exact below_drewN HB1.out _⟩
  · have i1 : (k == k') = false := beq_eq_false_iff_ne.2 h0
    have i2 : decide (k = k') = false := decide_eq_false h0
    obtain rfl : false = B := by
      cases B with
      | false => rfl
      | true => have := HB.out.1 rfl; simp only [Op7.mk.injEq] at this; exact absurd this.1.1 h0
    go_wp2
    go_ret
    exact ⟨rfl, by first | exact HB1.out | exact below_drewN HB1.out _⟩
/-- The cells of thing i of a list. -/
theorem OPS.cell {W : World} {v : Value} {l : List OV} (h : OPS W v l) (i : Nat) (p : OV) (hp : l[i]? = some p) : ∃ b off c, v = .slice (some ⟨b, off, none⟩) l.length c ∧ b < W.heap.size ∧ OvAt W b (off + i * 8) p := by
  obtain ⟨A, c, e, _, rfl | ⟨b, off, rfl, hb, hc⟩⟩ := h
  · simp at hp
  · exact ⟨b, off, c, e, hb, hc i p hp⟩
set_option maxHeartbeats 6400000 in
theorem eqFunc (v1 v2 : Value) (l1 l2 : List OV) (W : World) (B : Bool) (h1 : OPS W v1 l1) (h2 : OPS W v2 l2) (x1 : ∀ p ∈ l1, ∀ x ∈ p.d, x < 256) (x2 : ∀ p ∈ l2, ∀ x ∈ p.d, x < 256) (hB : B = true ↔ odOf l1 = odOf l2) :
    Calls Try.prog 28 #[v1, v2, .func (.func 29) #[] #[]] W fun e w' => e = .returned (.bool B) ∧ Below W.heap.size W w' := by
  have H1 := Lib.hid h1
  have H2 := Lib.hid h2
  have X1 := Lib.hid x1
  have X2 := Lib.hid x2
  have HB := Lib.hid hB
  obtain ⟨A1, c1, rfl, _, _⟩ := h1
  obtain ⟨A2, c2, rfl, _, _⟩ := h2
  clear x1 x2 hB
  go_enter Try.func28, Try.ntmps28
  by_cases hne : l1.length = l2.length
  rotate_left
  · have i1 : ¬ (l1.length : Int) = l2.length := by omega
    obtain rfl : false = B := by
      cases B with
      | false => rfl
      | true => have := congrArg List.length (HB.out.1 rfl); simp [odOf] at this; exact absurd this hne
    go_wp2
    go_ret
    exact ⟨rfl, by first | exact Below.refl _ _ | exact below_drewN (Below.refl _ _) _⟩
  · obtain ⟨n, hn⟩ : ∃ n, l1.length = n := ⟨_, rfl⟩
    have HN1 := Lib.hid hn
    have HN2 : Hid (l2.length = n) := Lib.hid (by omega)
    have hn9 : n ≤ 9223372036854775807 := by omega
    rw [← hne, hn]
    clear hn hne
    go_wp2_with fail
    go_loopw [17] (fun v17 wr => ∃ i : Nat, i ≤ n ∧ v17 = .int .i64 i ∧ Hid (Below W.heap.size W wr) ∧ Hid (odOf (l1.take i) = odOf (l2.take i))) (fun v17 _ => n - (intOf v17).toNat)
    case atStart => exact ⟨0, by omega, rfl, Lib.hid (by first | exact Below.refl _ _ | exact below_drewN (Below.refl _ _) _), Lib.hid rfl⟩
    case round =>
      obtain ⟨i, hi, rfl, HBl, HE⟩ := hrel
      by_cases hlt : i < n
      · obtain ⟨p1, hp1⟩ : ∃ p, l1[i]? = some p := ⟨_, List.getElem?_eq_getElem (by rw [HN1.out]; exact hlt)⟩
        obtain ⟨p2, hp2⟩ : ∃ p, l2[i]? = some p := ⟨_, List.getElem?_eq_getElem (by rw [HN2.out]; exact hlt)⟩
        obtain ⟨xb, xo, xc, ex, hxz, hxc, hxr, hxk⟩ := (H1.out.keep HBl.out).cell i p1 hp1
        obtain ⟨yb, yo, yc, ey, hyz, hyc, hyr, hyk⟩ := (H2.out.keep HBl.out).cell i p2 hp2
        injection ey with ey _ ec2
        injection ex with ex _ ec1
        subst ey
        subst ex
        subst ec1
        subst ec2
        have HP1 := Lib.hid hp1
        have HP2 := Lib.hid hp2
        obtain ⟨A3, c3, e3, _⟩ := rd_len hxr
        obtain ⟨A4, c4, e4, _⟩ := rd_len hyr
        rw [e3] at hxr
        rw [e4] at hyr
        have HXR := Lib.hid hxr
        have HYR := Lib.hid hyr
        have HXD : Hid (∀ x ∈ p1.d, x < 256) := Lib.hid (X1.out p1 (List.mem_of_getElem? hp1))
        have HYD : Hid (∀ x ∈ p2.d, x < 256) := Lib.hid (X2.out p2 (List.mem_of_getElem? hp2))
        have i1 : (i : Int) < n := by omega
        obtain ⟨y0, y1, y2, y3, y4, y5, y6, y7⟩ := hyc
        obtain ⟨x0, x1, x2, x3, x4, x5, x6, x7⟩ := hxc
        rw [e3] at x7
        rw [e4] at y7
        clear e3 e4
        clear hp1 hp2 hxr hyr hxk hyk
        obtain ⟨T, hT⟩ : ∃ T : Bool, T = true ↔ (p1.o = p2.o ∧ p1.d = p2.d) := by
          by_cases h : p1.o = p2.o ∧ p1.d = p2.d
          · exact ⟨true, by simp [h]⟩
          · exact ⟨false, by simp; intro h1 h2; exact h ⟨h1, h2⟩⟩
        have HT := Lib.hid hT
        clear hT
        have hyw : yb ≠ wr.heap.size := by omega
        have hxw : xb ≠ wr.heap.size := by omega
        have hyw' : yb ≠ wr.heap.size + 1 := by omega
        go_wp2_with fail
        with_reducible refine Calls.mono (trSame1 p1.o p2.o _ _ p1.d p2.d _ T (HXR.out.keep (alc (alc0 _ _) _)) (HYR.out.keep (alc (alc0 _ _) _)) HXD.out HYD.out HT.out) ?_
        rintro e w4 ⟨rfl, hB4⟩
        have HB4 : Hid (Below W.heap.size W w4) := Lib.hid (HBl.out.trans ((thn (alc (alc0 _ _) _) hB4).mono HBl.out.size))
        clear hB4 x0 x1 x2 x3 x4 x5 x6 x7 y0 y1 y2 y3 y4 y5 y6 y7
        cases T with
        | true =>
          have HE2 : Hid (odOf (l1.take (i + 1)) = odOf (l2.take (i + 1))) := Lib.hid (by
            have h := HT.out.1 rfl
            rw [List.take_add_one, List.take_add_one, HP1.out, HP2.out]
            have h3 := HE.out
            simp only [odOf, List.map_append, Option.toList_some, List.map_cons, List.map_nil] at h3 ⊢
            rw [h3, h.1, h.2])
          go_wp2_with fail
          go_roundw
          case rel =>
            first | exact ⟨i + 1, by omega, by go_num, HB4, HE2⟩ | exact ⟨i + 1, by omega, by go_num⟩
          case measure => simp [intOf] <;> omega
        | false =>
          obtain rfl : false = B := by
            cases B with
            | false => rfl
            | true =>
              have h := HB.out.1 rfl
              have h1 := congrArg (fun q => q[i]?) h
              simp only [odOf, List.getElem?_map, HP1.out, HP2.out, Option.map_some] at h1
              injection h1 with h1
              injection h1 with h2 h3
              have := HT.out.2 ⟨h2, h3⟩
              simp at this
          go_wp2
          go_ret
          exact ⟨rfl, HB4.out⟩
      · obtain rfl : i = n := by omega
        obtain rfl : true = B := by
          refine (HB.out.2 ?_).symm
          have h := HE.out
          rwa [List.take_of_length_le (by rw [HN1.out]; exact Nat.le_refl _), List.take_of_length_le (by rw [HN2.out]; exact Nat.le_refl _)] at h
        go_wp2
        go_ret
        exact ⟨rfl, HBl.out⟩
theorem trSame (v1 v2 : Value) (l1 l2 : List OV) (W : World) (B : Bool) (h1 : OPS W v1 l1) (h2 : OPS W v2 l2) (x1 : ∀ p ∈ l1, ∀ x ∈ p.d, x < 256) (x2 : ∀ p ∈ l2, ∀ x ∈ p.d, x < 256) (hB : B = true ↔ odOf l1 = odOf l2) :
    Calls Try.prog 17 #[v1, v2] W fun e w' => e = .returned (.bool B) ∧ Below W.heap.size W w' := by
  have HC := Lib.hid (eqFunc v1 v2 l1 l2 W B h1 h2 x1 x2 hB)
  clear h1 h2 x1 x2 hB
  go_enter Try.func17, Try.ntmps17
  go_wp2_with fail
  with_reducible refine Calls.mono HC.out ?_
  rintro e w2 ⟨rfl, hB2⟩
  go_wp2
  go_ret
  exact ⟨rfl, hB2⟩
end Go.Proofs.Ytahggokeelgjdaa
