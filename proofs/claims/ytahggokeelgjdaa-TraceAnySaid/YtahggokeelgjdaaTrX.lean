/- The reader, whatever bytes come: number, take, one. -/
import Derived.Test.YtahggokeelgjdaaTrK
import Derived.Test.YtahggokeelgjdaaTrI
namespace Go.Proofs.Ytahggokeelgjdaa
open Go.RowKit
set_option linter.unusedVariables false
set_option linter.unusedSimpArgs false

theorem rdN_lt : ∀ (k i x : Nat) (xs : List Nat) (z : Nat) (r : List Nat), i + k ≤ 10 → x < 2 ^ (7 * i) → rdN k i x xs = some (z, r) → z < 18446744073709551616
  | 0, _, _, _, _, _, _, _, h => by simp [rdN] at h
  | k + 1, _, _, [], _, _, _, _, h => by simp [rdN] at h
  | k + 1, i, x, b :: t, z, r, hik, hx, h => by
    have hb : b % 128 < 128 := Nat.mod_lt _ (by decide)
    have key : x + b % 128 * 2 ^ (7 * i) % 18446744073709551616 < 18446744073709551616 ∧ (i + 1 ≤ 9 → x + b % 128 * 2 ^ (7 * i) % 18446744073709551616 < 2 ^ (7 * (i + 1))) := by
      have hi : i = 0 ∨ i = 1 ∨ i = 2 ∨ i = 3 ∨ i = 4 ∨ i = 5 ∨ i = 6 ∨ i = 7 ∨ i = 8 ∨ i = 9 := by omega
      rcases hi with rfl | rfl | rfl | rfl | rfl | rfl | rfl | rfl | rfl | rfl <;> simp at hx ⊢ <;> omega
    rw [rdN] at h
    split at h
    · have h9 := Option.some.inj h
      injection h9 with e1 _
      rw [← e1]
      exact key.1
    · by_cases h8 : i + 1 ≤ 9
      · exact rdN_lt k (i + 1) _ t z r (by omega) (key.2 h8) h
      · obtain rfl : k = 0 := by omega
        simp [rdN] at h
theorem unzig_range (x : Nat) (h : x < 18446744073709551616) : -9223372036854775808 ≤ unzig x ∧ unzig x ≤ 9223372036854775807 := by
  unfold unzig
  split <;> omega
/-- What a reader may be like: nothing is wrong and not too much is left, or something is. -/
def RS (B g : Nat) (W : World) : Prop := ∃ s wr, RdAt g W s wr ∧ (wr = false → s.size ≤ B)
theorem rnum_any (B g : Nat) (s : ByteArray) (wr : Bool) (W : World) (h : RdAt g W s wr) (hs : wr = false → s.size ≤ B) :
    Calls Try.prog 24 #[.pointer (some ⟨g, 0, none⟩)] W fun e w' => (∃ n : Int, e = .returned (.int .i64 n) ∧ (-9223372036854775808 ≤ n ∧ n ≤ 9223372036854775807) ∧ ∃ s' wr', RdAt g w' s' wr' ∧ (wr' = false → s'.size ≤ B) ∧ (wr' = true → n = 0)) ∧ OB g W w' := by
  cases wr with
  | true =>
    refine (rnum_wrong g s W h).mono ?_
    rintro e w' ⟨rfl, ⟨s', hr⟩, ho⟩
    exact ⟨⟨0, rfl, by omega, s', true, hr, (fun h => by cases h), fun _ => rfl⟩, ho⟩
  | false =>
    cases hr : rdN 10 0 0 (sb s) with
    | none =>
      refine (rnum_bad g s W h hr).mono ?_
      rintro e w' ⟨rfl, ⟨s', hr⟩, ho⟩
      exact ⟨⟨0, rfl, by omega, s', true, hr, (fun h => by cases h), fun _ => rfl⟩, ho⟩
    | some p =>
      obtain ⟨x, r⟩ := p
      refine (rnum_ok g s W x r h hr).mono ?_
      rintro e w' ⟨rfl, ⟨s', hsb, hrd⟩, ho⟩
      refine ⟨⟨unzig x, rfl, unzig_range x (rdN_lt 10 0 0 _ x r (by decide) (by decide) hr), s', false, hrd, fun _ => ?_, fun h => by cases h⟩, ho⟩
      have := rdN_len _ _ _ _ _ _ hr
      rw [← hsb, sb_size, sb_size] at this
      exact Nat.le_trans this (hs rfl)
theorem rtake_any (B g : Nat) (n : Int) (s : ByteArray) (wr : Bool) (W : World) (h : RdAt g W s wr) (hs : wr = false → s.size ≤ B) (hn : wr = true → n = 0) :
    Calls Try.prog 35 #[.pointer (some ⟨g, 0, none⟩), .int .i64 n] W fun e w' => (∃ sd : ByteArray, e = .returned (.string sd) ∧ sd.size ≤ B ∧ RS B g w') ∧ OB g W w' := by
  by_cases hb : n < 0 ∨ (s.size : Int) < n
  · refine (rtake_bad g n s wr W h hb).mono ?_
    rintro e w' ⟨rfl, hr, ho⟩
    exact ⟨⟨_, rfl, Nat.zero_le _, s, true, hr, fun h => by cases h⟩, ho⟩
  · obtain ⟨k, rfl⟩ : ∃ k : Nat, n = (k : Int) := ⟨n.toNat, by omega⟩
    refine (rtake_ok g k s wr W h (by omega)).mono ?_
    rintro e w' ⟨rfl, hr, ho⟩
    have h1 : (s.extract 0 k).size ≤ B := by
      rw [← sb_size, sb_take, List.length_take, sb_size]
      cases wr with
      | true => have := hn rfl; omega
      | false => have := hs rfl; omega
    have h2 : (s.extract k s.size).size ≤ s.size := by
      rw [← sb_size, sb_drop, List.length_drop, sb_size]
      omega
    exact ⟨⟨_, rfl, h1, _, wr, hr, fun h => Nat.le_trans h2 (hs h)⟩, ho⟩
set_option maxHeartbeats 3200000 in
theorem rone_any (g : Nat) (s : ByteArray) (wr0 : Bool) (W : World) (h : RdAt g W s wr0) (hs : wr0 = false → s.size ≤ 140737488351232) :
    Calls Try.prog 25 #[.pointer (some ⟨g, 0, none⟩)] W fun e w' => (∃ (o : Op7) (d : List Nat) (dv : Value), e = .returned (.agg #[.int .i64 o.k, .int .i64 o.t, .int .i64 o.a, .int .i64 o.b, .int .i64 o.v, .int .i64 o.n, .int .i64 o.m, dv]) ∧ o.ok ∧ RDD W.heap.size w' dv d ∧ ∀ x ∈ d, x < 256) ∧ RS 140737488351232 g w' ∧ OB g W w' := by
  have H := Lib.hid h
  have HS0 := Lib.hid hs
  have hg := h.1
  clear h hs
  go_enter Try.func25, Try.ntmps25
  go_wp2_with fail
  obtain ⟨W2, hW2⟩ : ∃ W2, (W.alloc (.cells #[.int .i64 0, .int .i64 0, .int .i64 0, .int .i64 0, .int .i64 0, .int .i64 0, .int .i64 0, .slice none 0 0] 25)).alloc (.cells #[.int .i64 0, .int .i64 0, .int .i64 0, .int .i64 0, .int .i64 0, .int .i64 0, .int .i64 0] 45) = W2 := ⟨_, rfl⟩
  obtain ⟨R, hR⟩ : ∃ R, W.heap.size = R := ⟨_, rfl⟩
  have hz0 : (W.alloc (.cells #[.int .i64 0, .int .i64 0, .int .i64 0, .int .i64 0, .int .i64 0, .int .i64 0, .int .i64 0, .slice none 0 0] 25)).heap.size = R + 1 := by rw [← hR]; simp
  have HB2 : Hid (Below W.heap.size W W2) := Lib.hid (by rw [← hW2]; exact alc (alc0 _ _) _)
  have HA0 : Hid (ArrAt (R + 1) W2 (fun _ => 0) ∧ ∀ j : Nat, -9223372036854775808 ≤ (fun _ => (0 : Int)) j ∧ (fun _ => (0 : Int)) j ≤ 9223372036854775807) := Lib.hid ⟨by
    rw [← hW2, ← hz0]
    refine ⟨by simp, fun j hj => ?_, fun o => by simp⟩
    have hj7 : j = 0 ∨ j = 1 ∨ j = 2 ∨ j = 3 ∨ j = 4 ∨ j = 5 ∨ j = 6 := by omega
    rcases hj7 with rfl | rfl | rfl | rfl | rfl | rfl | rfl <;> simp, fun j => by simp⟩
  have HRes : Hid ((∀ j, j < 8 → (W2.cell? ⟨R, j, none⟩).isSome = true) ∧ ∀ o, W2.frozen? ⟨R, o, none⟩ = false) := Lib.hid (by
    rw [← hW2, ← hR]
    refine ⟨fun j hj => ?_, fun o => by simp⟩
    have hj8 : j = 0 ∨ j = 1 ∨ j = 2 ∨ j = 3 ∨ j = 4 ∨ j = 5 ∨ j = 6 ∨ j = 7 := by omega
    rcases hj8 with rfl | rfl | rfl | rfl | rfl | rfl | rfl | rfl <;> simp)
  have HS2 : Hid (W2.heap.size = R + 2) := Lib.hid (by rw [← hW2, ← hR]; simp)
  have HRg : Hid (RdAt g W2 s wr0) := Lib.hid (H.out.keep HB2.out.size (HB2.out.block g hg))
  have hgR : g < R := by omega
  rw [hW2]
  clear hW2 hz0
  have HRR := Lib.hid hR
  try rw [hR]
  clear hR
  go_loopw [6] (fun v6 wr => ∃ (i : Nat) (f : Nat → Int) (s' : ByteArray) (wb : Bool), i ≤ 7 ∧ v6 = .int .i64 i ∧ Hid (wb = false → s'.size ≤ 140737488351232) ∧ Hid (RdAt g wr s' wb) ∧ Hid (ArrAt (R + 1) wr f ∧ ∀ j : Nat, -9223372036854775808 ≤ f j ∧ f j ≤ 9223372036854775807) ∧ Hid (OB g W wr ∧ wr.heap[R]? = W2.heap[R]? ∧ R + 2 ≤ wr.heap.size)) (fun v6 _ => 7 - (intOf v6).toNat)
  case atStart => exact ⟨0, fun _ => 0, s, wr0, by omega, rfl, HS0, HRg, HA0, Lib.hid ⟨OB.of_below HB2.out, rfl, by have := HS2.out; omega⟩⟩
  case round =>
    clear HRg HA0
    obtain ⟨i, f, s', wb, hi, rfl, Hs, H, HA, HW⟩ := hrel
    by_cases hi7 : i < 7
    · have i1 : (i : Int) < 7 := by omega
      go_wp2_with fail
      refine (rnum_any 140737488351232 g s' wb wr H.out Hs.out).mono ?_
      rintro e w3 ⟨⟨u, rfl, hu, s3, wb3, hr3, hs3, _⟩, ho3⟩
      have hB3 : w3.heap[R + 1]? = wr.heap[R + 1]? := ho3.2.1 (R + 1) (by have := HW.out.2.2; omega) (by omega)
      have hR3 : w3.heap[R]? = wr.heap[R]? := ho3.2.1 R (by have := HW.out.2.2; omega) (by omega)
      have HA3 := Lib.hid (HA.out.1.keep ho3.1 hB3)
      have ca := HA3.out.2.1 i hi7
      have cf := HA3.out.2.2 i
      have HA4 : Hid (ArrAt (R + 1) (w3.setCell ⟨R + 1, i, none⟩ (.int .i64 u)) (fun j => if j = i then u else f j) ∧ ∀ j : Nat, -9223372036854775808 ≤ (fun j => if j = i then u else f j) j ∧ (fun j => if j = i then u else f j) j ≤ 9223372036854775807) := Lib.hid ⟨HA3.out.set i hi7 u, fun j => by
        by_cases e : j = i
        · simp only [e, if_true]; exact hu
        · simp only [if_neg e]; exact HA.out.2 j⟩
      have HG4 : Hid (RdAt g (w3.setCell ⟨R + 1, i, none⟩ (.int .i64 u)) s3 wb3) := Lib.hid (hr3.keep (by rw [size_set]; exact Nat.le_refl _) (heap_other _ _ _ _ _ (by omega)))
      have HW4 : Hid (OB g W (w3.setCell ⟨R + 1, i, none⟩ (.int .i64 u)) ∧ (w3.setCell ⟨R + 1, i, none⟩ (.int .i64 u)).heap[R]? = W2.heap[R]? ∧ R + 2 ≤ (w3.setCell ⟨R + 1, i, none⟩ (.int .i64 u)).heap.size) := Lib.hid ⟨(HW.out.1.trans ho3 (.inl rfl)).trans (ob_set (R + 1) i w3 _) (.inr (by rw [HRR.out]; omega)), (heap_other _ _ _ _ _ (by omega)).trans (hR3.trans HW.out.2.1), by rw [size_set]; have := ho3.1; have := HW.out.2.2; omega⟩
      have HS3 := Lib.hid hs3
      clear hs3 hr3 ho3 hB3 hR3 hu H HW
      go_wp2_with fail
      go_roundw
      case rel => exact ⟨i + 1, _, s3, wb3, by omega, by go_num, HS3, HG4, HA4, HW4⟩
      case measure => simp [intOf] <;> omega
    · obtain rfl : i = 7 := by omega
      go_wp2_with fail
      refine (rnum_any 140737488351232 g s' wb wr H.out Hs.out).mono ?_
      rintro e w3 ⟨⟨n, rfl, hn, s3, wb3, hr3, hs3, hw3⟩, ho3⟩
      have HR3 := Lib.hid hr3
      have HS3 := Lib.hid hs3
      have HO3 := Lib.hid ho3
      have HW3 := Lib.hid hw3
      clear hr3 hs3 ho3 hw3 hn
      go_wp2_with fail
      refine (rtake_any 140737488351232 g n s3 wb3 w3 HR3.out HS3.out HW3.out).mono ?_
      rintro e w4 ⟨⟨sd, rfl, hsd, hrs⟩, ho4⟩
      have HSD := Lib.hid hsd
      have HRS := Lib.hid hrs
      obtain ⟨o, ho⟩ : ∃ o : Op7, ∀ j, j < 7 → o.l[j]? = some (f j) := by
        refine ⟨⟨f 0, f 1, f 2, f 3, f 4, f 5, f 6⟩, fun j hj => ?_⟩
        have hj7 : j = 0 ∨ j = 1 ∨ j = 2 ∨ j = 3 ∨ j = 4 ∨ j = 5 ∨ j = 6 := by omega
        rcases hj7 with rfl | rfl | rfl | rfl | rfl | rfl | rfl <;> rfl
      have HOK : Hid o.ok := Lib.hid (fun x hx => by
        obtain ⟨j, hj, rfl⟩ := List.mem_iff_getElem.1 hx
        have h7 : j < 7 := hj
        have h1 := ho j h7
        rw [List.getElem?_eq_getElem hj] at h1
        rw [Option.some.inj h1]
        exact HA.out.2 j)
      have hW2 := HW.out.2.2
      have hB4 : w4.heap[R + 1]? = wr.heap[R + 1]? := (ho4.2.1 (R + 1) (by have := HO3.out.1; omega) (by omega)).trans (HO3.out.2.1 (R + 1) (by omega) (by omega))
      have hR4 : w4.heap[R]? = W2.heap[R]? := ((ho4.2.1 R (by have := HO3.out.1; omega) (by omega)).trans (HO3.out.2.1 R (by omega) (by omega))).trans HW.out.2.1
      have hz4 : R + 2 ≤ w4.heap.size := by have := HO3.out.1; have := ho4.1; omega
      have HA4 := HA.out.1.keep (Nat.le_trans HO3.out.1 ho4.1) hB4
      have gf : ∀ j y, j < 7 → o.l[j]? = some y → w4.cell? ⟨R + 1, j, none⟩ = some (.int .i64 y) := fun j y hj hy => by
        have := ho j hj
        rw [hy] at this
        rw [Option.some.inj this]
        exact HA4.2.1 j hj
      have b0 := gf 0 o.k (by decide) rfl
      have b1 := gf 1 o.t (by decide) rfl
      have b2 := gf 2 o.a (by decide) rfl
      have b3 := gf 3 o.b (by decide) rfl
      have b4 := gf 4 o.v (by decide) rfl
      have b5 := gf 5 o.n (by decide) rfl
      have b6 := gf 6 o.m (by decide) rfl
      have HOW : Hid (OB g W w4) := Lib.hid ((HW.out.1.trans HO3.out (.inl rfl)).trans ho4 (.inl rfl))
      obtain ⟨w5, hw5⟩ : ∃ w5, Lib.bytesWorld w4 5 sd = w5 := ⟨_, rfl⟩
      have kc : (convert 9 23 (.string sd)).run Try.prog w4 = .ok (.slice (some ⟨w4.heap.size, 0, none⟩) sd.size (grownCap w4 sd.size 0 5)) w5 := by rw [← hw5]; exact Lib.run_convert_string_bytes w4 _ _ _ sd Try.underlying9 Try.underlying23 Try.underlying5
      have hb5 : Below w4.heap.size w4 w5 := by rw [← hw5]; exact bytes_below w4 sd
      have HW5 := Lib.hid hw5
      have HB5 := Lib.hid hb5
      have hR5 : w5.heap[R]? = W2.heap[R]? := (hb5.block R (by omega)).trans hR4
      have gz : ∀ j, j < 8 → ∃ y, w5.cell? ⟨R, j, none⟩ = some y := fun j hj => by
        have h := HRes.out.1 j hj
        rw [← World.cell?_of_block hR5] at h
        exact Option.isSome_iff_exists.1 h
      obtain ⟨y0, z0⟩ := gz 0 (by decide)
      obtain ⟨y1, z1⟩ := gz 1 (by decide)
      obtain ⟨y2, z2⟩ := gz 2 (by decide)
      obtain ⟨y3, z3⟩ := gz 3 (by decide)
      obtain ⟨y4, z4⟩ := gz 4 (by decide)
      obtain ⟨y5, z5⟩ := gz 5 (by decide)
      obtain ⟨y6, z6⟩ := gz 6 (by decide)
      obtain ⟨y7, z7⟩ := gz 7 (by decide)
      have zf : ∀ o, w5.frozen? ⟨R, o, none⟩ = false := fun o => (World.frozen?_of_block hR5).trans (HRes.out.2 o)
      obtain ⟨cp, hcp⟩ : ∃ cp, grownCap w4 sd.size 0 5 = cp := ⟨_, rfl⟩
      rw [hcp] at kc
      have HCP := Lib.hid hcp
      obtain ⟨D, hD⟩ : ∃ D, w4.heap.size = D := ⟨_, rfl⟩
      rw [hD] at kc
      have HDD := Lib.hid hD
      clear gf gz HA4 hB4 hR4 hR5 hb5 hw5 hsd hcp hD hrs ho4 ho
      go_wp2_with fail
      obtain ⟨W6, hW6, ⟨u0, u1, u2', u3', u4', u5', u6', u7'⟩, ho6, hz6⟩ := set8 w5 R (.int .i64 o.k) (.int .i64 o.t) (.int .i64 o.a) (.int .i64 o.b) (.int .i64 o.v) (.int .i64 o.n) (.int .i64 o.m) (.slice (some ⟨D, 0, none⟩) sd.size cp) y0 y1 y2 y3 y4 y5 y6 y7 z0 z1 z2 z3 z4 z5 z6 z7
      rw [hW6]
      refine bodyPost_ret (v := .agg #[.int .i64 o.k, .int .i64 o.t, .int .i64 o.a, .int .i64 o.b, .int .i64 o.v, .int .i64 o.n, .int .i64 o.m, .slice (some ⟨D, 0, none⟩) sd.size cp]) (by simp [results, Try.results25, go_sem, u0, u1, u2', u3', u4', u5', u6', u7']) rfl ⟨⟨o, sb sd, _, rfl, HOK.out, ?_, sb_lt sd⟩, ?_, ?_⟩
      · have h := rd_conv_at W.heap.size w4 W6 sd HSD.out HOW.out.1 (by rw [hz6]; have := HB5.out.size; rw [← HW5.out, Lib.bytesWorld_size]; omega) (by rw [HW5.out]; exact ho6.2.1 _ (by rw [← HW5.out, Lib.bytesWorld_size]; omega) (by rw [HDD.out]; have := HDD.out; omega))
        rw [HDD.out, HCP.out] at h
        have e : (sb sd).length = sd.size := sb_size sd
        exact h
      · obtain ⟨s5, wb5, hr5, hs5⟩ := HRS.out
        have hg4 := hr5.1
        exact ⟨s5, wb5, (hr5.keep HB5.out.size (HB5.out.block g hg4)).keep (by rw [hz6]; exact Nat.le_refl _) (ho6.2.1 g (Nat.lt_of_lt_of_le hg4 HB5.out.size) (by omega)), hs5⟩
      · exact (HOW.out.trans (OB.of_below HB5.out) (.inl rfl) : OB g W w5).trans ho6 (.inr (by rw [HRR.out]; exact Nat.le_refl _))
end Go.Proofs.Ytahggokeelgjdaa
