/- The reader: one thing. -/
import Derived.Test.YtahggokeelgjdaaTrJ
import Derived.Lib.ConvBytes
import Derived.Lib.SmallJoins
namespace Go.Proofs.Ytahggokeelgjdaa
open Go.RowKit
set_option linter.unusedVariables false
set_option linter.unusedSimpArgs false

/-- An array of seven ints. -/
def ArrAt (B : Nat) (W : World) (f : Nat → Int) : Prop := B < W.heap.size ∧ (∀ j, j < 7 → W.cell? ⟨B, j, none⟩ = some (.int .i64 (f j))) ∧ ∀ o, W.frozen? ⟨B, o, none⟩ = false
theorem ArrAt.keep {B : Nat} {W W' : World} {f : Nat → Int} (h : ArrAt B W f) (hs : W.heap.size ≤ W'.heap.size) (hg : W'.heap[B]? = W.heap[B]?) : ArrAt B W' f :=
  ⟨Nat.lt_of_lt_of_le h.1 hs, fun j hj => (World.cell?_of_block hg).trans (h.2.1 j hj), fun o => (World.frozen?_of_block hg).trans (h.2.2 o)⟩
theorem ArrAt.set {B : Nat} {W : World} {f : Nat → Int} (h : ArrAt B W f) (i : Nat) (hi : i < 7) (v : Int) : ArrAt B (W.setCell ⟨B, i, none⟩ (.int .i64 v)) (fun j => if j = i then v else f j) := by
  refine ⟨by rw [size_set]; exact h.1, fun j hj => ?_, fun o => by simpa using h.2.2 o⟩
  by_cases e : j = i
  · subst e
    simp only [if_true]
    exact World.cell?_setCell_same _ _ _ (h.2.1 j hj)
  · simp only [if_neg e]
    rw [set_other _ _ _ _ _ (Ne.symm e)]
    exact h.2.1 j hj
/-- Bytes that are read, in a block of their own from L on. -/
def RDD (L : Nat) (W : World) (v : Value) (xs : List Nat) : Prop :=
  ∃ D c, v = .slice (some ⟨D, 0, none⟩) xs.length c ∧ L ≤ D ∧ D < W.heap.size ∧ xs.length ≤ 140737488351232 ∧ At W D 0 (u8s xs)
theorem RDD.rd {L : Nat} {W : World} {v : Value} {xs : List Nat} (h : RDD L W v xs) : RD W v xs := by
  obtain ⟨D, c, e, _, h2, h3, h4⟩ := h
  exact ⟨_, c, e, h3, .inr ⟨D, 0, rfl, h2, h4⟩⟩
theorem rd_conv (W : World) (s : ByteArray) (hs : s.size ≤ 140737488351232) : RD (Lib.bytesWorld W 5 s) (.slice (some ⟨W.heap.size, 0, none⟩) s.size (grownCap W s.size 0 5)) (sb s) := by
  refine ⟨_, _, by rw [sb_size], by rw [sb_size]; exact hs, .inr ⟨W.heap.size, 0, rfl, by rw [Lib.bytesWorld_size]; omega, fun j u hu => ?_⟩⟩
  have hj : j < s.size := by
    have := (List.getElem?_eq_some_iff.1 hu).1
    rwa [u8s_len, sb_size] at this
  rw [Nat.zero_add, Lib.bytesWorld_cell W 5 s j hj]
  have hd : j < s.data.toList.length := by simpa using hj
  rw [u8s, List.getElem?_map, sb, List.getElem?_map, List.getElem?_eq_getElem hd] at hu
  have e : s.data.toList.getD j 0 = s.data.toList[j] := by simp [List.getD, List.getElem?_eq_getElem hd]
  rw [e]
  simpa using hu
theorem rd_conv_at (L : Nat) (W W' : World) (s : ByteArray) (hs : s.size ≤ 140737488351232) (hL : L ≤ W.heap.size) (hz : W.heap.size < W'.heap.size) (hg : W'.heap[W.heap.size]? = (Lib.bytesWorld W 5 s).heap[W.heap.size]?) : RDD L W' (.slice (some ⟨W.heap.size, 0, none⟩) s.size (grownCap W s.size 0 5)) (sb s) := by
  refine ⟨W.heap.size, _, by rw [sb_size], hL, hz, by rw [sb_size]; exact hs, ?_⟩
  obtain ⟨A, c, e, h1, h2⟩ := rd_conv W s hs
  rcases h2 with h2 | ⟨bd, off, e2, h3, h4⟩
  · rw [h2]
    intro j u hu
    simp [u8s] at hu
  · injection e with e3 e4 e5
    rw [e2] at e3
    injection e3 with e3
    injection e3 with e6 e7
    subst e6
    subst e7
    exact h4.keep hg
theorem bytes_below (W : World) (s : ByteArray) : Below W.heap.size W (Lib.bytesWorld W 5 s) := Go.Joins.below_bytesWorld _ _ _ _ (Nat.le_refl _)
theorem rdN_len : ∀ (k i x : Nat) (xs : List Nat) (y : Nat) (r : List Nat), rdN k i x xs = some (y, r) → r.length ≤ xs.length
  | 0, _, _, _, _, _, h => by simp [rdN] at h
  | k + 1, _, _, [], _, _, h => by simp [rdN] at h
  | k + 1, i, x, b :: t, y, r, h => by
    rw [rdN] at h
    split at h
    · have h9 := Option.some.inj h
      injection h9 with _ e
      rw [← e]; simp
    · have := rdN_len k _ _ t y r h
      simp; omega
theorem set8 (W : World) (R : Nat) (v0 v1 v2 v3 v4 v5 v6 v7 y0 y1 y2 y3 y4 y5 y6 y7 : Value) (z0 : W.cell? ⟨R, 0, none⟩ = some y0) (z1 : W.cell? ⟨R, 1, none⟩ = some y1) (z2 : W.cell? ⟨R, 2, none⟩ = some y2) (z3 : W.cell? ⟨R, 3, none⟩ = some y3) (z4 : W.cell? ⟨R, 4, none⟩ = some y4) (z5 : W.cell? ⟨R, 5, none⟩ = some y5) (z6 : W.cell? ⟨R, 6, none⟩ = some y6) (z7 : W.cell? ⟨R, 7, none⟩ = some y7) :
    ∃ W6, ((((((((W.setCell ⟨R, 0, none⟩ v0).setCell ⟨R, 1, none⟩ v1).setCell ⟨R, 2, none⟩ v2).setCell ⟨R, 3, none⟩ v3).setCell ⟨R, 4, none⟩ v4).setCell ⟨R, 5, none⟩ v5).setCell ⟨R, 6, none⟩ v6).setCell ⟨R, 7, none⟩ v7) = W6 ∧ (W6.cell? ⟨R, 0, none⟩ = some v0 ∧ W6.cell? ⟨R, 1, none⟩ = some v1 ∧ W6.cell? ⟨R, 2, none⟩ = some v2 ∧ W6.cell? ⟨R, 3, none⟩ = some v3 ∧ W6.cell? ⟨R, 4, none⟩ = some v4 ∧ W6.cell? ⟨R, 5, none⟩ = some v5 ∧ W6.cell? ⟨R, 6, none⟩ = some v6 ∧ W6.cell? ⟨R, 7, none⟩ = some v7) ∧ OB R W W6 ∧ W6.heap.size = W.heap.size := by
  refine ⟨_, rfl, ⟨?_, ?_, ?_, ?_, ?_, ?_, ?_, ?_⟩, ?_, by simp only [size_set]⟩
  · rw [set_other _ _ _ _ _ (by decide), set_other _ _ _ _ _ (by decide), set_other _ _ _ _ _ (by decide), set_other _ _ _ _ _ (by decide), set_other _ _ _ _ _ (by decide), set_other _ _ _ _ _ (by decide), set_other _ _ _ _ _ (by decide)]
    exact World.cell?_setCell_same _ _ _ (by exact z0)
  · rw [set_other _ _ _ _ _ (by decide), set_other _ _ _ _ _ (by decide), set_other _ _ _ _ _ (by decide), set_other _ _ _ _ _ (by decide), set_other _ _ _ _ _ (by decide), set_other _ _ _ _ _ (by decide)]
    exact World.cell?_setCell_same _ _ _ (by rw [set_other _ _ _ _ _ (by decide)]; exact z1)
  · rw [set_other _ _ _ _ _ (by decide), set_other _ _ _ _ _ (by decide), set_other _ _ _ _ _ (by decide), set_other _ _ _ _ _ (by decide), set_other _ _ _ _ _ (by decide)]
    exact World.cell?_setCell_same _ _ _ (by rw [set_other _ _ _ _ _ (by decide), set_other _ _ _ _ _ (by decide)]; exact z2)
  · rw [set_other _ _ _ _ _ (by decide), set_other _ _ _ _ _ (by decide), set_other _ _ _ _ _ (by decide), set_other _ _ _ _ _ (by decide)]
    exact World.cell?_setCell_same _ _ _ (by rw [set_other _ _ _ _ _ (by decide), set_other _ _ _ _ _ (by decide), set_other _ _ _ _ _ (by decide)]; exact z3)
  · rw [set_other _ _ _ _ _ (by decide), set_other _ _ _ _ _ (by decide), set_other _ _ _ _ _ (by decide)]
    exact World.cell?_setCell_same _ _ _ (by rw [set_other _ _ _ _ _ (by decide), set_other _ _ _ _ _ (by decide), set_other _ _ _ _ _ (by decide), set_other _ _ _ _ _ (by decide)]; exact z4)
  · rw [set_other _ _ _ _ _ (by decide), set_other _ _ _ _ _ (by decide)]
    exact World.cell?_setCell_same _ _ _ (by rw [set_other _ _ _ _ _ (by decide), set_other _ _ _ _ _ (by decide), set_other _ _ _ _ _ (by decide), set_other _ _ _ _ _ (by decide), set_other _ _ _ _ _ (by decide)]; exact z5)
  · rw [set_other _ _ _ _ _ (by decide)]
    exact World.cell?_setCell_same _ _ _ (by rw [set_other _ _ _ _ _ (by decide), set_other _ _ _ _ _ (by decide), set_other _ _ _ _ _ (by decide), set_other _ _ _ _ _ (by decide), set_other _ _ _ _ _ (by decide), set_other _ _ _ _ _ (by decide)]; exact z6)
  · exact World.cell?_setCell_same _ _ _ (by rw [set_other _ _ _ _ _ (by decide), set_other _ _ _ _ _ (by decide), set_other _ _ _ _ _ (by decide), set_other _ _ _ _ _ (by decide), set_other _ _ _ _ _ (by decide), set_other _ _ _ _ _ (by decide), set_other _ _ _ _ _ (by decide)]; exact z7)
  · have t : ∀ (A B : World) (o : Nat) (v : Value), OB R A B → OB R A (B.setCell ⟨R, o, none⟩ v) := fun A B o v h => h.trans (ob_set R o B v) (.inl rfl)
    exact t _ _ 7 v7 (t _ _ 6 v6 (t _ _ 5 v5 (t _ _ 4 v4 (t _ _ 3 v3 (t _ _ 2 v2 (t _ _ 1 v1 (ob_set R 0 W v0)))))))
set_option maxHeartbeats 3200000 in
theorem rone_ok (g : Nat) (s : ByteArray) (W : World) (o : Op7) (d r : List Nat) (h : RdAt g W s false) (hr : rdO (sb s) = some (o.l, d, r)) (hs : s.size ≤ 140737488351232) :
    Calls Try.prog 25 #[.pointer (some ⟨g, 0, none⟩)] W fun e w' => (∃ dv, e = .returned (.agg #[.int .i64 o.k, .int .i64 o.t, .int .i64 o.a, .int .i64 o.b, .int .i64 o.v, .int .i64 o.n, .int .i64 o.m, dv]) ∧ RDD W.heap.size w' dv d) ∧ (∃ s', sb s' = r ∧ s'.size ≤ s.size ∧ RdAt g w' s' false) ∧ OB g W w' := by
  have H := Lib.hid h
  have hg := h.1
  obtain ⟨r1, x, hr1, hr2, hr3⟩ : ∃ r1 x, rdL 7 (sb s) = some (o.l, r1) ∧ (∃ r2, rdN 10 0 0 r1 = some (x, r2) ∧ 0 ≤ unzig x ∧ (unzig x).toNat ≤ r2.length ∧ d = r2.take (unzig x).toNat ∧ r = r2.drop (unzig x).toNat) ∧ True := by
    unfold rdO at hr
    cases h1 : rdL 7 (sb s) with
    | none => rw [h1] at hr; cases hr
    | some p =>
      obtain ⟨l, r1⟩ := p
      rw [h1] at hr
      dsimp only at hr
      cases h2 : rdN 10 0 0 r1 with
      | none => rw [h2] at hr; cases hr
      | some q =>
        obtain ⟨x, r2⟩ := q
        rw [h2] at hr
        dsimp only at hr
        split at hr
        · rename_i hc
          have h9 := Option.some.inj hr
          injection h9 with e1 e2
          injection e2 with e2 e3
          exact ⟨r1, x, by rw [e1], ⟨r2, h2, hc.1, hc.2, e2.symm, e3.symm⟩, trivial⟩
        · cases hr
  have HR1 := Lib.hid hr1
  have HR2 := Lib.hid hr2
  clear h hr hr1 hr2
  go_enter Try.func25, Try.ntmps25
  go_wp2_with fail
  obtain ⟨W2, hW2⟩ : ∃ W2, (W.alloc (.cells #[.int .i64 0, .int .i64 0, .int .i64 0, .int .i64 0, .int .i64 0, .int .i64 0, .int .i64 0, .slice none 0 0] 25)).alloc (.cells #[.int .i64 0, .int .i64 0, .int .i64 0, .int .i64 0, .int .i64 0, .int .i64 0, .int .i64 0] 45) = W2 := ⟨_, rfl⟩
  obtain ⟨R, hR⟩ : ∃ R, W.heap.size = R := ⟨_, rfl⟩
  have hz0 : (W.alloc (.cells #[.int .i64 0, .int .i64 0, .int .i64 0, .int .i64 0, .int .i64 0, .int .i64 0, .int .i64 0, .slice none 0 0] 25)).heap.size = R + 1 := by rw [← hR]; simp
  have HB2 : Hid (Below W.heap.size W W2) := Lib.hid (by rw [← hW2]; exact alc (alc0 _ _) _)
  have HA0 : Hid (ArrAt (R + 1) W2 (fun _ => 0) ∧ ∀ j, j < 0 → o.l[j]? = some ((fun _ => (0 : Int)) j)) := Lib.hid ⟨by
    rw [← hW2, ← hz0]
    refine ⟨by simp, fun j hj => ?_, fun o => by simp⟩
    have hj7 : j = 0 ∨ j = 1 ∨ j = 2 ∨ j = 3 ∨ j = 4 ∨ j = 5 ∨ j = 6 := by omega
    rcases hj7 with rfl | rfl | rfl | rfl | rfl | rfl | rfl <;> simp, fun j hj => by omega⟩
  have HRes : Hid ((∀ j, j < 8 → (W2.cell? ⟨R, j, none⟩).isSome = true) ∧ ∀ o, W2.frozen? ⟨R, o, none⟩ = false) := Lib.hid (by
    rw [← hW2, ← hR]
    refine ⟨fun j hj => ?_, fun o => by simp⟩
    have hj8 : j = 0 ∨ j = 1 ∨ j = 2 ∨ j = 3 ∨ j = 4 ∨ j = 5 ∨ j = 6 ∨ j = 7 := by omega
    rcases hj8 with rfl | rfl | rfl | rfl | rfl | rfl | rfl | rfl <;> simp)
  have HS2 : Hid (W2.heap.size = R + 2) := Lib.hid (by rw [← hW2, ← hR]; simp)
  have HRg : Hid (RdAt g W2 s false) := Lib.hid (H.out.keep HB2.out.size (HB2.out.block g hg))
  have hgR : g < R := by omega
  rw [hW2]
  clear hW2 hz0
  have HRR := Lib.hid hR
  try rw [hR]
  clear hR
  go_loopw [6] (fun v6 wr => ∃ (i : Nat) (f : Nat → Int) (s' : ByteArray), i ≤ 7 ∧ v6 = .int .i64 i ∧ Hid (rdL (7 - i) (sb s') = some (o.l.drop i, r1)) ∧ Hid (s'.size ≤ s.size) ∧ Hid (RdAt g wr s' false) ∧ Hid (ArrAt (R + 1) wr f ∧ ∀ j, j < i → o.l[j]? = some (f j)) ∧ Hid (OB g W wr ∧ wr.heap[R]? = W2.heap[R]? ∧ R + 2 ≤ wr.heap.size)) (fun v6 _ => 7 - (intOf v6).toNat)
  case atStart => exact ⟨0, fun _ => 0, s, by omega, rfl, HR1, Lib.hid (Nat.le_refl _), HRg, HA0, Lib.hid ⟨OB.of_below HB2.out, rfl, by have := HS2.out; omega⟩⟩
  case round =>
    clear HRg HA0 HR1
    obtain ⟨i, f, s', hi, rfl, HL, Hs, H, HA, HW⟩ := hrel
    by_cases hi7 : i < 7
    · obtain ⟨k, hk⟩ : ∃ k, 7 - i = k + 1 := ⟨6 - i, by omega⟩
      obtain ⟨x1, rr, hx1, hx2, hx3⟩ : ∃ x1 rr, rdN 10 0 0 (sb s') = some (x1, rr) ∧ rdL (7 - (i + 1)) rr = some (o.l.drop (i + 1), r1) ∧ o.l[i]? = some (unzig x1) := by
        have h := HL.out
        rw [hk, rdL] at h
        cases h1 : rdN 10 0 0 (sb s') with
        | none => rw [h1] at h; cases h
        | some q =>
          obtain ⟨x1, rr⟩ := q
          rw [h1] at h
          dsimp only at h
          cases h2 : rdL k rr with
          | none => rw [h2] at h; cases h
          | some p =>
            obtain ⟨l', r'⟩ := p
            rw [h2] at h
            dsimp only at h
            have h9 := Option.some.inj h
            injection h9 with e1 e2
            have hil : i < o.l.length := hi7
            rw [List.drop_eq_getElem_cons hil] at e1
            injection e1 with e3 e4
            refine ⟨x1, rr, rfl, ?_, ?_⟩
            · rw [show 7 - (i + 1) = k by omega, h2, e4, e2]
            · rw [List.getElem?_eq_getElem hil, e3]
      have hlen := rdN_len _ _ _ _ _ _ hx1
      have HX1 := Lib.hid hx1
      have HX2 := Lib.hid hx2
      have HX3 := Lib.hid hx3
      have HLN := Lib.hid hlen
      have i1 : (i : Int) < 7 := by omega
      clear hk hx1 hx2 hx3 hlen
      go_wp2_with fail
      refine (rnum_ok g s' wr x1 rr H.out HX1.out).mono ?_
      rintro e w3 ⟨rfl, ⟨s3, hs3, hr3⟩, ho3⟩
      have hB3 : w3.heap[R + 1]? = wr.heap[R + 1]? := ho3.2.1 (R + 1) (by have := HW.out.2.2; omega) (by omega)
      have hR3 : w3.heap[R]? = wr.heap[R]? := ho3.2.1 R (by have := HW.out.2.2; omega) (by omega)
      have HA3 := Lib.hid (HA.out.1.keep ho3.1 hB3)
      have ca := HA3.out.2.1 i hi7
      have cf := HA3.out.2.2 i
      obtain ⟨u, hu⟩ : ∃ u, unzig x1 = u := ⟨_, rfl⟩
      rw [hu]
      have HU := Lib.hid hu
      have HA4 : Hid (ArrAt (R + 1) (w3.setCell ⟨R + 1, i, none⟩ (.int .i64 u)) (fun j => if j = i then u else f j) ∧ ∀ j, j < i + 1 → o.l[j]? = some ((fun j => if j = i then u else f j) j)) := Lib.hid ⟨HA3.out.set i hi7 u, fun j hj => by
        by_cases e : j = i
        · subst e; simp only [if_true]; rw [HX3.out, HU.out]
        · simp only [if_neg e]; exact HA.out.2 j (by omega)⟩
      have HG4 : Hid (RdAt g (w3.setCell ⟨R + 1, i, none⟩ (.int .i64 u)) s3 false) := Lib.hid (hr3.keep (by rw [size_set]; exact Nat.le_refl _) (heap_other _ _ _ _ _ (by omega)))
      have HW4 : Hid (OB g W (w3.setCell ⟨R + 1, i, none⟩ (.int .i64 u)) ∧ (w3.setCell ⟨R + 1, i, none⟩ (.int .i64 u)).heap[R]? = W2.heap[R]? ∧ R + 2 ≤ (w3.setCell ⟨R + 1, i, none⟩ (.int .i64 u)).heap.size) := Lib.hid ⟨(HW.out.1.trans ho3 (.inl rfl)).trans (ob_set (R + 1) i w3 _) (.inr (by rw [HRR.out]; omega)), (heap_other _ _ _ _ _ (by omega)).trans (hR3.trans HW.out.2.1), by rw [size_set]; have := ho3.1; have := HW.out.2.2; omega⟩
      have HS3 : Hid (s3.size ≤ s.size) := Lib.hid (by have := HLN.out; rw [← hs3, sb_size, sb_size] at this; exact Nat.le_trans this Hs.out)
      have HL3 : Hid (rdL (7 - (i + 1)) (sb s3) = some (o.l.drop (i + 1), r1)) := Lib.hid (by rw [hs3]; exact HX2.out)
      clear hs3 hr3 ho3 hB3 hR3 hu H HW
      go_wp2_with fail
      go_roundw
      case rel => exact ⟨i + 1, _, s3, by omega, by go_num, HL3, HS3, HG4, HA4, HW4⟩
      case measure => simp [intOf] <;> omega
    · obtain rfl : i = 7 := by omega
      obtain ⟨r2, hx2, hx0, hxl, hd, hrr⟩ := HR2.out
      have hsb : sb s' = r1 := by
        have h := HL.out
        simp only [Nat.sub_self, rdL] at h
        have h9 := Option.some.inj h
        injection h9
      have hxs : rdN 10 0 0 (sb s') = some (x, r2) := by rw [hsb]; exact hx2
      have hl2 := rdN_len _ _ _ _ _ _ hxs
      have HXS := Lib.hid hxs
      obtain ⟨n, hn⟩ : ∃ n : Nat, unzig x = (n : Int) := ⟨(unzig x).toNat, by omega⟩
      rw [hn, Int.toNat_natCast] at hxl hd hrr
      rw [sb_size] at hl2
      have hsz2 : r2.length ≤ 140737488351232 := by have := Hs.out; omega
      have HSZ2 := Lib.hid hsz2
      have HNX := Lib.hid hn
      have HD := Lib.hid hd
      have HRR2 := Lib.hid hrr
      have HXL := Lib.hid hxl
      have HL2 := Lib.hid hl2
      clear hx2 hx0 hxl hd hrr hsb hxs hl2 hn hsz2
      go_wp2_with fail
      refine (rnum_ok g s' wr x r2 H.out HXS.out).mono ?_
      rintro e w3 ⟨rfl, ⟨s3, hs3, hr3⟩, ho3⟩
      rw [HNX.out]
      have hn3 : n ≤ s3.size := by rw [← sb_size, hs3]; exact HXL.out
      have HR3 := Lib.hid hr3
      have HS3 := Lib.hid hs3
      have HO3 := Lib.hid ho3
      clear hr3 hs3 ho3
      go_wp2_with fail
      refine (rtake_ok g n s3 false w3 HR3.out hn3).mono ?_
      rintro e w4 ⟨rfl, hr4, ho4⟩
      obtain ⟨sd, hsd⟩ : ∃ sd, s3.extract 0 n = sd := ⟨_, rfl⟩
      have HSD : Hid (sb sd = d ∧ sd.size ≤ 140737488351232) := Lib.hid (by
        have e : sb sd = d := by rw [← hsd, sb_take, HS3.out, HD.out]
        refine ⟨e, ?_⟩
        rw [← sb_size, e, HD.out, List.length_take]
        have := HSZ2.out
        omega)
      rw [hsd]
      have HR4 := Lib.hid hr4
      have HE4 : Hid (sb (s3.extract n s3.size) = r ∧ (s3.extract n s3.size).size ≤ s.size) := Lib.hid (by
        have e : sb (s3.extract n s3.size) = r := by rw [sb_drop, HS3.out, HRR2.out]
        refine ⟨e, ?_⟩
        rw [← sb_size, e, HRR2.out, List.length_drop]
        have := HL2.out
        have := Hs.out
        omega)
      have hW2 := HW.out.2.2
      have hB4 : w4.heap[R + 1]? = wr.heap[R + 1]? := (ho4.2.1 (R + 1) (by have := HO3.out.1; omega) (by omega)).trans (HO3.out.2.1 (R + 1) (by omega) (by omega))
      have hR4 : w4.heap[R]? = W2.heap[R]? := ((ho4.2.1 R (by have := HO3.out.1; omega) (by omega)).trans (HO3.out.2.1 R (by omega) (by omega))).trans HW.out.2.1
      have hz4 : R + 2 ≤ w4.heap.size := by have := HO3.out.1; have := ho4.1; omega
      have HA4 := HA.out.1.keep (Nat.le_trans HO3.out.1 ho4.1) hB4
      have gf : ∀ j y, j < 7 → o.l[j]? = some y → w4.cell? ⟨R + 1, j, none⟩ = some (.int .i64 y) := fun j y hj hy => by
        have := HA.out.2 j hj
        rw [hy] at this
        rw [Option.some.inj this]
        exact HA4.2.1 j hj
      have b0 := gf 0 o.k (by decide) rfl
      have b1 := gf 1 o.t (by decide) rfl
      have b2 := gf 2 o.a (by decide) rfl
      have b3 := gf 3 o.b (by decide) rfl
      have b4 := gf 4 o.v (by decide) rfl
      have b5 := gf 5 o.n (by decide) rfl
      have b6 := gf 6 o.m (by decide) rfl
      have HOW : Hid (OB g W w4) := Lib.hid ((HW.out.1.trans HO3.out (.inl rfl)).trans ho4 (.inl rfl))
      obtain ⟨w5, hw5⟩ : ∃ w5, Lib.bytesWorld w4 5 sd = w5 := ⟨_, rfl⟩
      have kc : (convert 9 23 (.string sd)).run Try.prog w4 = .ok (.slice (some ⟨w4.heap.size, 0, none⟩) sd.size (grownCap w4 sd.size 0 5)) w5 := by rw [← hw5]; exact Lib.run_convert_string_bytes w4 _ _ _ sd Try.underlying9 Try.underlying23 Try.underlying5
      have hb5 : Below w4.heap.size w4 w5 := by rw [← hw5]; exact bytes_below w4 sd
      have HW5 := Lib.hid hw5
      have HB5 := Lib.hid hb5
      have hR5 : w5.heap[R]? = W2.heap[R]? := (hb5.block R (by omega)).trans hR4
      have gz : ∀ j, j < 8 → ∃ y, w5.cell? ⟨R, j, none⟩ = some y := fun j hj => by
        have h := HRes.out.1 j hj
        rw [← World.cell?_of_block hR5] at h
        exact Option.isSome_iff_exists.1 h
      obtain ⟨y0, z0⟩ := gz 0 (by decide)
      obtain ⟨y1, z1⟩ := gz 1 (by decide)
      obtain ⟨y2, z2⟩ := gz 2 (by decide)
      obtain ⟨y3, z3⟩ := gz 3 (by decide)
      obtain ⟨y4, z4⟩ := gz 4 (by decide)
      obtain ⟨y5, z5⟩ := gz 5 (by decide)
      obtain ⟨y6, z6⟩ := gz 6 (by decide)
      obtain ⟨y7, z7⟩ := gz 7 (by decide)
      have zf : ∀ o, w5.frozen? ⟨R, o, none⟩ = false := fun o => (World.frozen?_of_block hR5).trans (HRes.out.2 o)
      obtain ⟨cp, hcp⟩ : ∃ cp, grownCap w4 sd.size 0 5 = cp := ⟨_, rfl⟩
      rw [hcp] at kc
      have HCP := Lib.hid hcp
      obtain ⟨D, hD⟩ : ∃ D, w4.heap.size = D := ⟨_, rfl⟩
      rw [hD] at kc
      have HDD := Lib.hid hD
      clear gf gz HA4 hB4 hR4 hR5 hb5 hw5 hsd hcp hD hr4 ho4
      go_wp2_with fail
      obtain ⟨W6, hW6, ⟨u0, u1, u2', u3', u4', u5', u6', u7'⟩, ho6, hz6⟩ := set8 w5 R (.int .i64 o.k) (.int .i64 o.t) (.int .i64 o.a) (.int .i64 o.b) (.int .i64 o.v) (.int .i64 o.n) (.int .i64 o.m) (.slice (some ⟨D, 0, none⟩) sd.size cp) y0 y1 y2 y3 y4 y5 y6 y7 z0 z1 z2 z3 z4 z5 z6 z7
      rw [hW6]
      refine bodyPost_ret (v := .agg #[.int .i64 o.k, .int .i64 o.t, .int .i64 o.a, .int .i64 o.b, .int .i64 o.v, .int .i64 o.n, .int .i64 o.m, .slice (some ⟨D, 0, none⟩) sd.size cp]) (by simp [results, Try.results25, go_sem, u0, u1, u2', u3', u4', u5', u6', u7']) rfl ⟨⟨_, rfl, ?_⟩, ⟨_, HE4.out.1, HE4.out.2, ?_⟩, ?_⟩
      · have h := rd_conv_at W.heap.size w4 W6 sd HSD.out.2 HOW.out.1 (by rw [hz6]; have := HB5.out.size; rw [← HW5.out, Lib.bytesWorld_size]; omega) (by rw [HW5.out]; exact ho6.2.1 _ (by rw [← HW5.out, Lib.bytesWorld_size]; omega) (by rw [HDD.out]; have := HDD.out; omega))
        rw [HDD.out, HCP.out, HSD.out.1] at h
        exact h
      · have hg4 := HR4.out.1
        exact (HR4.out.keep HB5.out.size (HB5.out.block g hg4)).keep (by rw [hz6]; exact Nat.le_refl _) (ho6.2.1 g (Nat.lt_of_lt_of_le hg4 HB5.out.size) (by omega))
      · exact (HOW.out.trans (OB.of_below HB5.out) (.inl rfl) : OB g W w5).trans ho6 (.inr (by rw [HRR.out]; exact Nat.le_refl _))
end Go.Proofs.Ytahggokeelgjdaa
