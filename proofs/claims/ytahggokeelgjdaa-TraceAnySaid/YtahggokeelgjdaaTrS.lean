/- Are two things alike: the statement's own Same. -/
import Derived.Test.YtahggokeelgjdaaTrP
namespace Go.Proofs.Ytahggokeelgjdaa
open Go.RowKit
set_option linter.unusedVariables false
set_option linter.unusedSimpArgs false

theorem bs_ne (xs ys : List Nat) (hx : ∀ x ∈ xs, x < 256) (hy : ∀ x ∈ ys, x < 256) (h : ¬ xs = ys) : ¬ bs xs = bs ys := fun e => h (by rw [← sb_bs xs hx, ← sb_bs ys hy, e])
set_option maxHeartbeats 6400000 in
theorem refSame (o o' : Op7) (dv dv' : Value) (d d' : List Nat) (W : World) (B : Bool) (h : RD W dv d) (h' : RD W dv' d') (hx : ∀ x ∈ d, x < 256) (hx' : ∀ x ∈ d', x < 256) (hB : B = true ↔ (o = o' ∧ d = d')) :
    Calls Try.prog 15 #[.agg #[.int .i64 o.k, .int .i64 o.t, .int .i64 o.a, .int .i64 o.b, .int .i64 o.v, .int .i64 o.n, .int .i64 o.m, dv], .agg #[.int .i64 o'.k, .int .i64 o'.t, .int .i64 o'.a, .int .i64 o'.b, .int .i64 o'.v, .int .i64 o'.n, .int .i64 o'.m, dv']] W fun e w' => e = .returned (.bool B) ∧ Below W.heap.size W w' := by
  obtain ⟨k, t, a, b, v, n, m⟩ := o
  obtain ⟨k', t', a', b', v', n', m'⟩ := o'
  have hsh := h
  have hsh' := h'
  obtain ⟨A, c, rfl, _, _⟩ := hsh
  obtain ⟨A', c', rfl, _, _⟩ := hsh'
  have HD := Lib.hid h
  have HD' := Lib.hid h'
  have HX := Lib.hid hx
  have HX' := Lib.hid hx'
  have HB := Lib.hid hB
  clear h h' hx hx' hB
  go_enter Try.func15, Try.ntmps15
  go_upto_region 1 with (fail)
  obtain ⟨W1, hW1⟩ : ∃ W1, (W.alloc (.cells #[.int .i64 k, .int .i64 t, .int .i64 a, .int .i64 b, .int .i64 v, .int .i64 n, .int .i64 m, .slice A d.length c] 25)).alloc (.cells #[.int .i64 k', .int .i64 t', .int .i64 a', .int .i64 b', .int .i64 v', .int .i64 n', .int .i64 m', .slice A' d'.length c'] 25) = W1 := ⟨_, rfl⟩
  obtain ⟨X, hX⟩ : ∃ X, W.heap.size = X := ⟨_, rfl⟩
  have cc : (W1.cell? ⟨X, 0, none⟩ = some (.int .i64 k) ∧ W1.cell? ⟨X, 1, none⟩ = some (.int .i64 t) ∧ W1.cell? ⟨X, 2, none⟩ = some (.int .i64 a) ∧ W1.cell? ⟨X, 3, none⟩ = some (.int .i64 b) ∧ W1.cell? ⟨X, 4, none⟩ = some (.int .i64 v) ∧ W1.cell? ⟨X, 5, none⟩ = some (.int .i64 n) ∧ W1.cell? ⟨X, 6, none⟩ = some (.int .i64 m) ∧ W1.cell? ⟨X, 7, none⟩ = some (.slice A d.length c)) := by rw [← hW1, ← hX]; refine ⟨?_, ?_, ?_, ?_, ?_, ?_, ?_, ?_⟩ <;> simp
  have cd : (W1.cell? ⟨X + 1, 0, none⟩ = some (.int .i64 k') ∧ W1.cell? ⟨X + 1, 1, none⟩ = some (.int .i64 t') ∧ W1.cell? ⟨X + 1, 2, none⟩ = some (.int .i64 a') ∧ W1.cell? ⟨X + 1, 3, none⟩ = some (.int .i64 b') ∧ W1.cell? ⟨X + 1, 4, none⟩ = some (.int .i64 v') ∧ W1.cell? ⟨X + 1, 5, none⟩ = some (.int .i64 n') ∧ W1.cell? ⟨X + 1, 6, none⟩ = some (.int .i64 m') ∧ W1.cell? ⟨X + 1, 7, none⟩ = some (.slice A' d'.length c')) := by rw [← hW1, ← hX]; refine ⟨?_, ?_, ?_, ?_, ?_, ?_, ?_, ?_⟩ <;> simp
  have HB1 : Hid (Below W.heap.size W W1) := Lib.hid (by rw [← hW1]; exact alc (alc0 _ _) _)
  rw [hW1]
  clear hW1
  try rw [hX]
  clear hX
  obtain ⟨q0, q1, q2, q3, q4, q5, q6, q7⟩ := cc
  obtain ⟨p0, p1, p2, p3, p4, p5, p6, p7⟩ := cd
  have cv := conv_bs W1 _ d (HD.out.keep HB1.out) HX.out
  have cv' := conv_bs W1 _ d' (HD'.out.keep HB1.out) HX'.out
  by_cases h0 : k = k'
  · subst h0
    by_cases h1 : t = t'
    · subst h1
      by_cases h2 : a = a'
      · subst h2
        by_cases h3 : b = b'
        · subst h3
          by_cases h4 : v = v'
          · subst h4
            by_cases h5 : n = n'
            · subst h5
              by_cases h6 : m = m'
              · subst h6
                by_cases h7 : d = d'
                · subst h7
                  obtain rfl : true = B := (HB.out.2 ⟨rfl, rfl⟩).symm
                  go_wp2
                  go_ret
                  exact ⟨rfl, by first | exact HB1.out | exact below_drewN HB1.out _⟩
                · have i0 := bs_ne d d' HX.out HX'.out h7
                  have i1 : ((bs d).toList == (bs d').toList) = false := by rw [bs_eq d d' HX.out HX'.out]; exact decide_eq_false h7
                  obtain rfl : false = B := by
                    cases B with
                    | false => rfl
                    | true => exact absurd (HB.out.1 rfl).2 h7
                  go_wp2
                  go_ret
                  exact ⟨by first | rfl | simp [i1] | simp [i0], by first | exact HB1.out | exact below_drewN HB1.out _⟩
              · have i1 : (m == m') = false := beq_eq_false_iff_ne.2 h6
                have i2 : decide (m = m') = false := decide_eq_false h6
                obtain rfl : false = B := by
                  cases B with
                  | false => rfl
                  | true => have := HB.out.1 rfl; simp only [Op7.mk.injEq] at this; exact absurd this.1.2.2.2.2.2.2 h6
                go_wp2
                go_ret
                exact ⟨rfl, by first | exact HB1.out | exact below_drewN HB1.out _⟩
            · have i1 : (n == n') = false := beq_eq_false_iff_ne.2 h5
              have i2 : decide (n = n') = false := decide_eq_false h5
              obtain rfl : false = B := by
                cases B with
                | false => rfl
                | true => have := HB.out.1 rfl; simp only [Op7.mk.injEq] at this; exact absurd this.1.2.2.2.2.2.1 h5
              go_wp2
              go_ret
              exact ⟨rfl, by first | exact HB1.out | exact below_drewN HB1.out _⟩
          · have i1 : (v == v') = false := beq_eq_false_iff_ne.2 h4
            have i2 : decide (v = v') = false := decide_eq_false h4
            obtain rfl : false = B := by
              cases B with
              | false => rfl
              | true => have := HB.out.1 rfl; simp only [Op7.mk.injEq] at this; exact absurd this.1.2.2.2.2.1 h4
            go_wp2
            go_ret
            exact ⟨rfl, by first | exact HB1.out | exact below_drewN HB1.out _⟩
        · have i1 : (b == b') = false := beq_eq_false_iff_ne.2 h3
          have i2 : decide (b = b') = false := decide_eq_false h3
          obtain rfl : false = B := by
            cases B with
            | false => rfl
            | true => have := HB.out.1 rfl; simp only [Op7.mk.injEq] at this; exact absurd this.1.2.2.2.1 h3
          go_wp2
          go_ret
          exact ⟨rfl, by first | exact HB1.out | exact below_drewN HB1.out _⟩
      · have i1 : (a == a') = false := beq_eq_false_iff_ne.2 h2
        have i2 : decide (a = a') = false := decide_eq_false h2
        obtain rfl : false = B := by
          cases B with
          | false => rfl
          | true => have := HB.out.1 rfl; simp only [Op7.mk.injEq] at this; exact absurd this.1.2.2.1 h2
        go_wp2
        go_ret
        exact ⟨rfl, by first | exact HB1.out | exact below_drewN HB1.out _⟩
    · have i1 : (t == t') = false := beq_eq_false_iff_ne.2 h1
      have i2 : decide (t = t') = false := decide_eq_false h1
      obtain rfl : false = B := by
        cases B with
        | false => rfl
        | true => have := HB.out.1 rfl; simp only [Op7.mk.injEq] at this; exact absurd this.1.2.1 h1
      go_wp2
      go_ret
      exact ⟨rfl, by first | exact HB1.out | exact below_drewN HB1.out _⟩
  · have i1 : (k == k') = false := beq_eq_false_iff_ne.2 h0
    have i2 : decide (k = k') = false := decide_eq_false h0
    obtain rfl : false = B := by
      cases B with
      | false => rfl
      | true => have := HB.out.1 rfl; simp only [Op7.mk.injEq] at this; exact absurd this.1.1 h0
    go_wp2
    go_ret
    exact ⟨rfl, by first | exact HB1.out | exact below_drewN HB1.out _⟩
end Go.Proofs.Ytahggokeelgjdaa
