/- Contracts of package regs: Meets. -/
import Derived.Test.YtpciigahikciiaaRegQ
import Derived.Test.YtpciigahikciiaaZb
namespace Go.Proofs.Ytpciigahikciiaa
open Go.RowKit
set_option linter.unusedVariables false
set_option linter.unusedSimpArgs false

/-- Those of the first i that are for some byte of a stretch. -/
def meetL (f : Nat → CapV) (a n : Int) (i : Nat) : List Int := List.map (fun h : Nat => (h : Int)) (List.filter (fun h : Nat => meetsC (f h) a n) (List.range i))
theorem meetL_le (f : Nat → CapV) (a n : Int) (i : Nat) : (meetL f a n i).length ≤ i := by
  unfold meetL
  have := List.length_filter_le (fun h => meetsC (f h) a n) (List.range i)
  simpa using this
theorem meetL_succ (f : Nat → CapV) (a n : Int) (i : Nat) : meetL f a n (i + 1) = meetL f a n i ++ if meetsC (f i) a n then [(i : Int)] else [] := by
  unfold meetL
  rw [List.range_succ, List.filter_append, List.map_append]
  by_cases h : meetsC (f i) a n <;> simp [h]
theorem meetL_pre (f : Nat → CapV) (a n : Int) (k : Nat) : ∀ i, i ≤ k → ∃ r, meetL f a n k = meetL f a n i ++ r := by
  induction k with
  | zero => intro i hi; obtain rfl : i = 0 := by omega
            exact ⟨[], by simp⟩
  | succ k ih =>
    intro i hi
    by_cases e : i = k + 1
    · subst e; exact ⟨[], by simp⟩
    · obtain ⟨r, hr⟩ := ih i (by omega)
      rw [meetL_succ, hr]
      exact ⟨r ++ _, by rw [List.append_assoc]⟩
set_option maxRecDepth 100000 in
set_option maxHeartbeats 1600000 in
theorem cmeetsL (p g k : Nat) (a n : Int) (W : World) (f : Nat → CapV) (H : RegAt p g k W (CV f)) :
    Calls Try.prog 10 #[.pointer (some ⟨p, 0, none⟩), .agg #[.int .i64 a, .int .i64 n]] W fun e w' => ∃ v b, e = .returned v ∧ ZB b w' v (meetL f a n k) ∧ W.heap.size ≤ b ∧ Below W.heap.size W w' := by
  have HH := Lib.hid H
  have hk64 : k ≤ 64 := H.2.2.2.1
  clear H
  go_enter Try.func10, Try.ntmps10
  go_wp2_with fail
  refine (rlist p g k _ _ (HH.out.below (alc0 _ _)) (CV_one f)).mono ?_
  rintro e w1 ⟨g2, cap, rfl, hc, hk, hb⟩
  obtain ⟨x3, hx3⟩ : ∃ x3, W.heap.size = x3 := ⟨_, rfl⟩
  have d0 : w1.cell? ⟨x3, 0, none⟩ = some (.int .i64 a) := by rw [← hx3]; exact (hb.cell (p := ⟨W.heap.size, 0, none⟩) (by simp)).trans (by simp)
  have d1 : w1.cell? ⟨x3, 1, none⟩ = some (.int .i64 n) := by rw [← hx3]; exact (hb.cell (p := ⟨W.heap.size, 1, none⟩) (by simp)).trans (by simp)
  have hx31 : x3 < w1.heap.size := World.block_lt_of_cell? w1 _ d0
  have HC := Lib.hid hc
  have HB : Hid (Below W.heap.size W w1) := Lib.hid (thn (alc0 W _) hb)
  have HD := Lib.hid (And.intro d0 d1)
  try rw [hx3]
  try simp only [hx3]
  have HX3 := Lib.hid hx3
  clear hc hb d0 d1 hx3
  go_wp2_with fail
  go_loopw [5, 11] (fun v5 v11 wr => ∃ (i b : Nat), i ≤ k ∧ v11 = .int .i64 i ∧ Hid (ZB b wr v5 (meetL f a n i)) ∧ Hid (w1.heap.size ≤ b ∧ Below w1.heap.size w1 wr)) (fun _ v11 _ => k - (intOf v11).toNat)
  case atStart => exact ⟨0, w1.heap.size, by omega, rfl, Lib.hid ⟨none, 0, 0, rfl, rfl, Nat.le_refl _, by omega, .inl ⟨rfl, rfl, rfl⟩⟩, Lib.hid ⟨Nat.le_refl _, Below.refl _ _⟩⟩
  case round =>
    obtain ⟨i, b, hi, rfl, HZ, HR⟩ := hrel
    obtain ⟨A5, n5, c5', e5, -⟩ := HZ.out
    subst e5
    by_cases hik : i < k
    · have hikI : (i : Int) < (k : Int) := by omega
      have hg2 : g2 < w1.heap.size := World.block_lt_of_cell? w1 _ (HC.out 0 (by omega))
      have rr : ∀ j, j < 6 → wr.cell? ⟨g2, i * 6 + j, none⟩ = some ((f i).vs[j]!) := fun j hj => (HR.out.2.cell (p := ⟨g2, i * 6 + j, none⟩) hg2).trans ((HC.out (i * 6 + j) (by omega)).trans (by rw [CV_at f i j hj]))
      have c0 : wr.cell? ⟨g2, i * 6, none⟩ = some (.int .i64 (f i).b) := rr 0 (by decide)
      have c1 : wr.cell? ⟨g2, i * 6 + 1, none⟩ = some (.int .i64 (f i).l) := rr 1 (by decide)
      have c2 : wr.cell? ⟨g2, i * 6 + 2, none⟩ = some (.int .i64 (f i).c) := rr 2 (by decide)
      have c3 : wr.cell? ⟨g2, i * 6 + 3, none⟩ = some (.int .i64 (f i).p) := rr 3 (by decide)
      have c4 : wr.cell? ⟨g2, i * 6 + 4, none⟩ = some (.int .i64 (f i).t) := rr 4 (by decide)
      have c5 : wr.cell? ⟨g2, i * 6 + 5, none⟩ = some (.bool (f i).v) := rr 5 (by decide)
      have hg2r : g2 < wr.heap.size := Nat.lt_of_lt_of_le hg2 HR.out.2.size
      have e0 : wr.cell? ⟨x3, 0, none⟩ = some (.int .i64 a) := (HR.out.2.cell (p := ⟨x3, 0, none⟩) hx31).trans HD.out.1
      have e1 : wr.cell? ⟨x3, 1, none⟩ = some (.int .i64 n) := (HR.out.2.cell (p := ⟨x3, 1, none⟩) hx31).trans HD.out.2
      have hx3r : x3 < wr.heap.size := Nat.lt_of_lt_of_le hx31 HR.out.2.size
      obtain ⟨X, hX⟩ : ∃ X, meetsC (f i) a n = X := ⟨_, rfl⟩
      have HXX := Lib.hid hX
      have HXM : Hid (((f i).v && meetsB (f i).b (f i).l a n) = X) := Lib.hid hX
      clear rr hX
      go_wp2_with fail
      with_reducible refine Calls.mono (cmeets X _ _ _ _ _ _ _ _ _ HXM.out) ?_
      rintro e w2 ⟨rfl, hb⟩
      have HR2 : Hid (w1.heap.size ≤ b ∧ Below w1.heap.size w1 w2) := Lib.hid ⟨HR.out.1, thn (alc HR.out.2 _) hb⟩
      have HZ2 : Hid (ZB b w2 (.slice A5 n5 c5') (meetL f a n i)) := Lib.hid ((HZ.out.below (alc0 _ _)).below hb)
      have hw1 : w1.heap.size ≤ w2.heap.size := HR2.out.2.size
      have hle := meetL_le f a n i
      have HS : Hid (meetL f a n (i + 1) = meetL f a n i ++ if X then [(i : Int)] else []) := Lib.hid (by rw [meetL_succ, HXX.out])
      clear hb HR HZ c0 c1 c2 c3 c4 c5 e0 e1 HXX HXM
      have hn5 : n5 ≤ 64 := by
        obtain ⟨_, _, _, e, h1, _⟩ := HZ2.out
        injection e with _ e _
        omega
      cases X with
      | true =>
        go_wp2_with (at_builtin; refine app_zb rfl (.tmp 19) (.tmp 21) rfl b _ _ rfl (HZ2.out.below (alc0 _ _)) i w2.heap.size 1 rfl (by simp) (by omega) ?_)
        intro v9 w3 hz3
        obtain ⟨b', hb', hzb, hs3, ho3, hbel3⟩ := hz3
        have HZ3 : Hid (ZB b' w3 v9 (meetL f a n (i + 1))) := Lib.hid (by rw [HS.out]; exact hzb)
        have HR3 : Hid (w1.heap.size ≤ b' ∧ Below w1.heap.size w1 w3) := Lib.hid ⟨hb'.elim (fun h => by rw [h]; exact HR2.out.1) (fun h => by simp at h; omega), (alc HR2.out.2 _).trans (hbel3 _ HR2.out.1 (by simp; omega))⟩
        clear hb' hzb hs3 ho3 hbel3 HZ2 HR2 HS
        go_wp2_with fail
        go_roundw
        case rel => exact ⟨i + 1, b', by omega, by go_num, HZ3, HR3⟩
        case measure => simp [intOf] <;> omega
      | false =>
        have HZ3 : Hid (ZB b w2 (.slice A5 n5 c5') (meetL f a n (i + 1))) := Lib.hid (by rw [HS.out]; simpa using HZ2.out)
        go_wp2_with fail
        go_roundw
        case rel => exact ⟨i + 1, b, by omega, by go_num, HZ3, HR2⟩
        case measure => simp [intOf] <;> omega
    · obtain rfl : i = k := by omega
      go_wp2
      go_ret
      exact ⟨_, b, rfl, HZ.out, by have := HB.out.size; have := HR.out.1; omega, thn HB.out HR.out.2⟩
end Go.Proofs.Ytpciigahikciiaa
