/- The text of counts. -/
import Derived.Test.YtjblgamngnnccaaDoorStat
import Derived.Test.YtjblgamngnnccaaDoorShelf
import Derived.Deep.CutBlock
import Derived.Deep.DeepCutAuto
import Derived.LaidMore
import Derived.MakeChecks
import Derived.Lib.LaidTab
import Derived.Lib.AppendIntMem
import Derived.Lib.SmallJoins
import Derived.Lib.ItoaLen
import Derived.Deep.RegionHeld3
namespace Go.Proofs.YtjblgamngnnccaaDoor
open Go.RowKit
set_option linter.unusedVariables false
set_option linter.unusedSimpArgs false

def PowTab (w : World) : Prop := Lib.TabIs Tryd.prog w "internal/strconv.uint64pow10" .u64 Lib.pow10Tab
theorem gPow : ((Tryd.prog.globalNamed "internal/strconv.uint64pow10").bind fun g => (Tryd.prog.globals[g]?).map (·.type)) = some 80 := by kernel_rfl
theorem gSome : (Tryd.prog.globalNamed "internal/strconv.uint64pow10").isSome = true := by kernel_rfl

theorem powTab_of_laid {w : World} (h : laidMetH Tryd.prog Rows.statCountsRow.laid w) : PowTab w := by
  rw [MakeChecks.laidMetH_plain _ _ _ (by kernel_rfl)] at h
  obtain ⟨ps, ⟨g0, t0, cs0, f0, p0, q0, hg0, ht0, hv0, hd0, ⟨g1, t1, cs1, f1, p1, q1, hg1, ht1, hv1, hd1, ⟨g2, t2, cs2, f2, p2, q2, hg2, ht2, hv2, hd2, _, _⟩, _⟩, _⟩, _⟩ := h
  have e := gPow
  rw [hg2] at e
  obtain rfl := Option.some.inj (ht2.symm.trans e)
  have hd : Rows.laid_internal_strconv_uint64pow10 (H := Unit) = Lib.tabData .u64 Lib.pow10Tab := by kernel_rfl
  rw [hd] at hd2
  unfold PowTab Lib.TabIs
  rw [hv2, ← Lib.cells_of_tab (k := .u64) (n := 20) (e := 70) (by kernel_rfl) (by kernel_rfl) (by kernel_rfl) (by kernel_rfl) hd2]

theorem PowTab.later {w w' : World} (h : PowTab w) (hb : Below w.heap.size w w') : PowTab w' := by
  obtain ⟨g, hg⟩ := Option.isSome_iff_exists.1 gSome
  exact Joins.tab_stays hg h hb (Nat.le_refl _)

theorem digits_any (n : Int) (w : World) (h0 : -9223372036854775808 ≤ n) (h1 : n ≤ 9223372036854775807) (ht : PowTab w) :
    Calls Tryd.prog 28 #[.int .i64 n] w fun e w' => e = .returned (.string ⟨(Lib.itoa n).toArray⟩) ∧ Below w.heap.size w w' := by
  have T := Lib.hid ht; clear ht
  go_enter Tryd.func28, Tryd.ntmps28
  go_wp2_with (go_at_call 38; refine (Tryd.strconv_Itoa n h0 h1 _ T.out).mono ?_; rintro e w' ⟨rfl, k, os, rfl⟩)
  go_ret
  exact ⟨rfl, Lib.below_grow _ _ (Nat.le_refl _) _ _⟩
theorem digits_is (n : Int) (b : ByteArray) (w : World) (h0 : -9223372036854775808 ≤ n) (h1 : n ≤ 9223372036854775807) (ht : PowTab w) (hb : (⟨(Lib.itoa n).toArray⟩ : ByteArray) = b) :
    Calls Tryd.prog 28 #[.int .i64 n] w fun e w' => e = .returned (.string b) ∧ Below w.heap.size w w' := by
  subst hb; exact digits_any n w h0 h1 ht


def nmB : Nat → ByteArray
  | 0 => ⟨#[103, 111, 116]⟩
  | 1 => ⟨#[103, 105, 118, 101, 110]⟩
  | 2 => ⟨#[101, 110, 100, 101, 100]⟩
  | 3 => ⟨#[108, 105, 118, 101]⟩
  | 4 => ⟨#[112, 101, 97, 107]⟩
  | _ => ⟨#[99, 108, 101, 97, 114]⟩
def xsI (g v e l p c : Int) : Nat → Int
  | 0 => g | 1 => v | 2 => e | 3 => l | 4 => p | _ => c
def partB (xs : Nat → Int) (i : Nat) : ByteArray := (nmB i ++ ⟨#[32]⟩) ++ ⟨(Lib.itoa (xs i)).toArray⟩
def txtB (xs : Nat → Int) : Nat → ByteArray
  | 0 => ⟨#[]⟩
  | 1 => partB xs 0
  | i + 2 => (txtB xs (i + 1) ++ ⟨#[32]⟩) ++ partB xs (i + 1)
theorem nm_size (i : Nat) : (nmB i).size ≤ 5 := by
  unfold nmB; split <;> decide
theorem dig_size (x : Int) (h0 : -9223372036854775808 ≤ x) (h1 : x ≤ 9223372036854775807) : (⟨(Lib.itoa x).toArray⟩ : ByteArray).size ≤ 21 := by
  have := Lib.itoa_length_le x h0 h1
  show (Lib.itoa x).toArray.size ≤ 21
  rw [List.size_toArray]
  exact this
theorem e_app (x : ByteArray) : (⟨#[]⟩ : ByteArray) ++ x = x := by
  apply ByteArray.ext
  simp [ByteArray.data_append]
theorem part_size (f : Nat → Int) (hf : ∀ i, -9223372036854775808 ≤ f i ∧ f i ≤ 9223372036854775807) (i : Nat) : (partB f i).size ≤ 27 := by
  have h1 := nm_size i
  have h2 := dig_size (f i) (hf i).1 (hf i).2
  have h3 : (⟨#[32]⟩ : ByteArray).size = 1 := rfl
  simp only [partB, ByteArray.size_append, h3]; omega
theorem txt_size (f : Nat → Int) (hf : ∀ i, -9223372036854775808 ≤ f i ∧ f i ≤ 9223372036854775807) : ∀ i, (txtB f i).size ≤ 40 * i
  | 0 => by simp [txtB, ByteArray.size]
  | 1 => by have := part_size f hf 0; simp only [txtB]; omega
  | i + 2 => by
    have h0 := part_size f hf (i + 1)
    have h1 := txt_size f hf (i + 1)
    have h3 : (⟨#[32]⟩ : ByteArray).size = 1 := rfl
    simp only [txtB, ByteArray.size_append, h3]; omega
theorem part_pos (f : Nat → Int) (i : Nat) : 0 < (partB f i).size := by
  have h3 : (⟨#[32]⟩ : ByteArray).size = 1 := rfl
  simp only [partB, ByteArray.size_append, h3]; omega
theorem txt_pos (f : Nat → Int) : ∀ i, 0 < i → 0 < (txtB f i).size
  | 0, h => absurd h (by omega)
  | 1, _ => part_pos f 0
  | i + 2, _ => by simp only [txtB, ByteArray.size_append]; have := part_pos f (i + 1); omega
theorem txt_ne (f : Nat → Int) (i : Nat) (h : 0 < i) : (txtB f i).toList.isEmpty = false := by
  have := txt_pos f i h
  rw [ByteArray.toList_eq]
  change 0 < (txtB f i).data.size at this
  cases he : (txtB f i).data.toList with
  | nil =>
    have : (txtB f i).data.size = 0 := by rw [← Array.length_toList, he]; rfl
    omega
  | cons a l => rfl
set_option maxHeartbeats 1600000 in
theorem text_is (g v e l p c : Int) (W : World) (ht : PowTab W) (hx : ∀ i, -9223372036854775808 ≤ xsI g v e l p c i ∧ xsI g v e l p c i ≤ 9223372036854775807) :
    Calls Tryd.prog 16 #[.agg #[.int .i64 g, .int .i64 v, .int .i64 e, .int .i64 l, .int .i64 p, .int .i64 c]] W fun e' w' => e' = .returned (.string (txtB (xsI g v e l p c) 6)) ∧ Below W.heap.size W w' := by
  have T := Lib.hid ht
  have HX := Lib.hid hx
  clear ht hx
  obtain ⟨f, hf⟩ : ∃ f, xsI g v e l p c = f := ⟨_, rfl⟩
  have hidx : ∀ i, i < 6 → ∀ w : World, (Instr.index 56 (.agg #[.string ⟨#[103, 111, 116]⟩, .int .i64 g, .string ⟨#[103, 105, 118, 101, 110]⟩, .int .i64 v, .string ⟨#[101, 110, 100, 101, 100]⟩, .int .i64 e, .string ⟨#[108, 105, 118, 101]⟩, .int .i64 l, .string ⟨#[112, 101, 97, 107]⟩, .int .i64 p, .string ⟨#[99, 108, 101, 97, 114]⟩, .int .i64 c]) (.int .i64 ((i : Nat) : Int))).run Tryd.prog w = .ok (.agg #[.string (nmB i), .int .i64 (f i)]) w := by
    intro i hi w
    have : i = 0 ∨ i = 1 ∨ i = 2 ∨ i = 3 ∨ i = 4 ∨ i = 5 := by omega
    rcases this with rfl | rfl | rfl | rfl | rfl | rfl
    all_goals
      subst hf
      rfl
  have HIDX := Lib.hid hidx
  rw [hf] at HX ⊢
  clear hf hidx
  go_enter Tryd.func16, Tryd.ntmps16
  go_wp2_with fail
  go_loopw [3, 25] (fun v3 v25 wr => ∃ i : Nat, i ≤ 6 ∧ v25 = .int .i64 i ∧ v3 = .string (txtB f i) ∧ Hid (PowTab wr) ∧ Hid (Below W.heap.size W wr)) (fun _ v25 _ => 6 - (intOf v25).toNat)
  case atStart => exact ⟨0, by omega, rfl, rfl, Lib.hid (T.out.later (alc0 _ _)), Lib.hid (alc0 _ _)⟩
  case round =>
    clear T
    obtain ⟨i, hi, rfl, rfl, T, HB⟩ := hrel
    by_cases hlt : i < 6
    · have hidx := HIDX.out i hlt
      have hxb := HX.out i
      obtain ⟨hx0, hx1⟩ := hxb
      have l1 : (i : Int) < 6 := by omega
      obtain ⟨s0, hs0⟩ : ∃ s0, txtB f i = s0 := ⟨_, rfl⟩
      obtain ⟨s1, hs1⟩ : ∃ s1, (if i = 0 then s0 else s0 ++ ⟨#[32]⟩) = s1 := ⟨_, rfl⟩
      have HS1 : Hid (txtB f (i + 1) = s1 ++ ((nmB i ++ ⟨#[32]⟩) ++ ⟨(Lib.itoa (f i)).toArray⟩)) := Lib.hid (by
        rw [← hs1, ← hs0]
        cases i with
        | zero => rw [if_pos rfl]; show partB f 0 = _ ++ _; rw [txtB, e_app]; rfl
        | succ i => rw [if_neg (by omega)]; rfl)
      have HSZ : Hid (s0.size ≤ 40 * i ∧ (nmB i).size ≤ 5 ∧ (⟨(Lib.itoa (f i)).toArray⟩ : ByteArray).size ≤ 21) := Lib.hid ⟨by rw [← hs0]; exact txt_size f HX.out i, nm_size i, dig_size _ hx0 hx1⟩
      have HNE : Hid (0 < i → s0.toList.isEmpty = false) := Lib.hid (fun h => by rw [← hs0]; exact txt_ne f i h)
      have HS0 : Hid (i = 0 → s0 = ⟨#[]⟩) := Lib.hid (fun h => by rw [← hs0, h]; rfl)
      obtain ⟨x, hx⟩ : ∃ x, f i = x := ⟨_, rfl⟩
      rw [hx] at hidx HS1 HSZ hx0 hx1
      obtain ⟨N1, hN1⟩ : ∃ N1, nmB i = N1 := ⟨_, rfl⟩
      rw [hN1] at hidx HS1 HSZ
      obtain ⟨D1, hD1⟩ : ∃ D1, (⟨(Lib.itoa x).toArray⟩ : ByteArray) = D1 := ⟨_, rfl⟩
      rw [hD1] at HS1 HSZ
      have HD1 := Lib.hid hD1
      obtain ⟨q, hq⟩ : ∃ q, wr.heap.size = q := ⟨_, rfl⟩
      have HQ := Lib.hid hq
      rw [hs0]
      have HSS := Lib.hid hs1
      clear hx hN1 hD1 hq hs0 hs1
      obtain ⟨z1, z2, z3⟩ := HSZ.out
      have e1 : ¬ 9223372036854775807 < s0.size + 1 := by omega
      have e2 : ¬ 9223372036854775807 < N1.size + 1 := by omega
      have e3 : ¬ 9223372036854775807 < N1.size + 1 + D1.size := by omega
      have e4 : ¬ 9223372036854775807 < s0.size + (N1.size + 1 + D1.size) := by omega
      have e5 : ¬ 9223372036854775807 < s0.size + 1 + (N1.size + 1 + D1.size) := by omega
      have e6 : ¬ 9223372036854775807 < (⟨#[]⟩ : ByteArray).size + (N1.size + 1 + D1.size) := by show ¬ 9223372036854775807 < 0 + (N1.size + 1 + D1.size); omega
      rcases Nat.eq_zero_or_pos i with h0 | h0
      · have HE : s0 = ⟨#[]⟩ := HS0.out h0
        subst h0
        subst HE
        have hidx0 : ∀ w : World, (Instr.index 56 (.agg #[.string ⟨#[103, 111, 116]⟩, .int .i64 g, .string ⟨#[103, 105, 118, 101, 110]⟩, .int .i64 v, .string ⟨#[101, 110, 100, 101, 100]⟩, .int .i64 e, .string ⟨#[108, 105, 118, 101]⟩, .int .i64 l, .string ⟨#[112, 101, 97, 107]⟩, .int .i64 p, .string ⟨#[99, 108, 101, 97, 114]⟩, .int .i64 c]) (.int .i64 0)).run Tryd.prog w = .ok (.agg #[.string N1, .int .i64 x]) w := hidx
        clear hidx
        have i00 : (((0 : Nat)) : Int) = 0 := rfl
        rw [i00]
        clear i00
        go_upto_region 7 with (fail)
        rw [HQ.out]
        obtain ⟨wa, hwa⟩ : ∃ wa, wr.alloc (.cells #[.string N1, .int .i64 x] 55) = wa := ⟨_, rfl⟩
        have k0 : wa.cell? ⟨q, 0, none⟩ = some (.string N1) ∧ wa.cell? ⟨q, 1, none⟩ = some (.int .i64 x) ∧ q < wa.heap.size := by rw [← hwa, ← HQ.out]; exact ⟨by simp, by simp, by simp⟩
        have T2 : Hid (PowTab wa.drew) := Lib.hid (by rw [← hwa]; exact (T.out.later (alc0 _ _).drew))
        have HB2 : Hid (Below W.heap.size W wa.drew) := Lib.hid (by rw [← hwa]; exact (alc HB.out _).drew)
        rw [hwa]
        obtain ⟨k0, k1, k2⟩ := k0
        refine wp_region_held_drew (S := (fun w' => w'.cell? ⟨q, 0, none⟩ = some (.string N1) ∧ w'.cell? ⟨q, 1, none⟩ = some (.int .i64 x) ∧ Hid (PowTab w') ∧ Hid (Below W.heap.size W w') ∧ q < w'.heap.size)) (by kernel_rfl) ?_ (fun hHeld => ?_)
        · exact ⟨k0, k1, T2, HB2, k2⟩
        clear hwa k0 k1 k2 T2 HB2 T HB
        refine wpAnyH_take (i := 0) (v := ?_) rfl (by kernel_rfl) (by kernel_rfl) (by kernel_rfl) (fun _ _ _ h => h) (Or.inl ⟨by kernel_rfl, ?_⟩) (by assumption) ?_
        rotate_left
        · (intro w hSw; (try dsimp only at hSw); go_simp)
          try (with_reducible rfl)
        rotate_left
        try simp (maxSteps := 4000000) only [Act.put, List.setIfInBounds_toArray, List.set_cons_zero, List.set_cons_succ, List.getElem_toArray, List.getElem_cons_zero, List.getElem_cons_succ]
        refine wpAnyH_take (i := 1) (v := ?_) rfl (by kernel_rfl) (by kernel_rfl) (by kernel_rfl) (fun _ _ _ h => h) (Or.inl ⟨by kernel_rfl, ?_⟩) (by assumption) ?_
        rotate_left
        · (intro w hSw; (try dsimp only at hSw); go_simp)
          try (with_reducible rfl)
        rotate_left
        try simp (maxSteps := 4000000) only [Act.put, List.setIfInBounds_toArray, List.set_cons_zero, List.set_cons_succ, List.getElem_toArray, List.getElem_cons_zero, List.getElem_cons_succ]
        refine wpAnyH_take (i := 2) (v := ?_) rfl (by kernel_rfl) (by kernel_rfl) (by kernel_rfl) (fun _ _ _ h => h) (Or.inl ⟨by kernel_rfl, ?_⟩) (by assumption) ?_
        rotate_left
        · (intro w hSw; (try dsimp only at hSw); go_simp)
          try (with_reducible rfl)
        rotate_left
        try simp (maxSteps := 4000000) only [Act.put, List.setIfInBounds_toArray, List.set_cons_zero, List.set_cons_succ, List.getElem_toArray, List.getElem_cons_zero, List.getElem_cons_succ]
        refine wpAnyH_take (i := 3) (v := ?_) rfl (by kernel_rfl) (by kernel_rfl) (by kernel_rfl) (fun _ _ _ h => h) (Or.inl ⟨by kernel_rfl, ?_⟩) (by assumption) ?_
        rotate_left
        · (intro w hSw; (try dsimp only at hSw); go_simp)
          try (with_reducible rfl)
        rotate_left
        try simp (maxSteps := 4000000) only [Act.put, List.setIfInBounds_toArray, List.set_cons_zero, List.set_cons_succ, List.getElem_toArray, List.getElem_cons_zero, List.getElem_cons_succ]
        refine wpAnyH_take (i := 4) (v := ?_) rfl (by kernel_rfl) (by kernel_rfl) (by kernel_rfl) (fun _ _ _ h => h) (Or.inl ⟨by kernel_rfl, ?_⟩) (by assumption) ?_
        rotate_left
        · (intro w hSw; (try dsimp only at hSw); go_simp)
          try (with_reducible rfl)
        rotate_left
        try simp (maxSteps := 4000000) only [Act.put, List.setIfInBounds_toArray, List.set_cons_zero, List.set_cons_succ, List.getElem_toArray, List.getElem_cons_zero, List.getElem_cons_succ]
        refine wpAnyH_take (i := 5) (v := ?_) rfl (by kernel_rfl) (by kernel_rfl) (by kernel_rfl) (fun _ _ _ h => h) (Or.inl ⟨by kernel_rfl, ?_⟩) (by assumption) ?_
        rotate_left
        · (intro w hSw; (try dsimp only at hSw); go_simp)
          try (with_reducible rfl)
        rotate_left
        try simp (maxSteps := 4000000) only [Act.put, List.setIfInBounds_toArray, List.set_cons_zero, List.set_cons_succ, List.getElem_toArray, List.getElem_cons_zero, List.getElem_cons_succ]
        refine wpAnyH_ready (rs := [6]) (by kernel_rfl) (by simp) ?_
        refine AllReadyH.cons rfl (fun K2 hK2 => ?_) AllReadyH.nil
        go_simp
        with_reducible refine Calls.mono (digits_any x _ hx0 hx1 hHeld.2.2.1.out) ?_
        rintro e9 w9 ⟨rfl, hb⟩
        rw [HD1.out]
        refine hK2.out _ _ ?_ (fun hHeld2 => ?_)
        · obtain ⟨j0, j1, j2, j3, j4⟩ := hHeld
          exact ⟨(hb.cell (p := ⟨q, 0, none⟩) j4).trans j0, (hb.cell (p := ⟨q, 1, none⟩) j4).trans j1, Lib.hid (j2.out.later hb), Lib.hid (thn j3.out hb), Nat.lt_of_lt_of_le j4 hb.size⟩
        clear hb
        clear hK2 K2 hHeld
        have hHeld := hHeld2
        clear hHeld2
        try simp (maxSteps := 4000000) only [Act.put, List.setIfInBounds_toArray, List.set_cons_zero, List.set_cons_succ]
        refine wpAnyH_take (i := 7) (v := ?_) rfl (by kernel_rfl) (by kernel_rfl) (by kernel_rfl) (fun _ _ _ h => h) (Or.inl ⟨by kernel_rfl, ?_⟩) (by assumption) ?_
        rotate_left
        · (intro w hSw; (try dsimp only at hSw); go_simp)
          try (with_reducible rfl)
        rotate_left
        try simp (maxSteps := 4000000) only [Act.put, List.setIfInBounds_toArray, List.set_cons_zero, List.set_cons_succ, List.getElem_toArray, List.getElem_cons_zero, List.getElem_cons_succ]
        refine wpAnyH_take (i := 8) (v := ?_) rfl (by kernel_rfl) (by kernel_rfl) (by kernel_rfl) (fun _ _ _ h => h) (Or.inl ⟨by kernel_rfl, ?_⟩) (by assumption) ?_
        rotate_left
        · (intro w hSw; (try dsimp only at hSw); go_simp)
          try (with_reducible rfl)
        rotate_left
        try simp (maxSteps := 4000000) only [Act.put, List.setIfInBounds_toArray, List.set_cons_zero, List.set_cons_succ, List.getElem_toArray, List.getElem_cons_zero, List.getElem_cons_succ]
        refine wpAnyH_take (i := 9) (v := ?_) rfl (by kernel_rfl) (by kernel_rfl) (by kernel_rfl) (fun _ _ _ h => h) (Or.inl ⟨by kernel_rfl, ?_⟩) (by assumption) ?_
        rotate_left
        · (intro w hSw; (try dsimp only at hSw); go_simp)
          try (with_reducible rfl)
        rotate_left
        try simp (maxSteps := 4000000) only [Act.put, List.setIfInBounds_toArray, List.set_cons_zero, List.set_cons_succ, List.getElem_toArray, List.getElem_cons_zero, List.getElem_cons_succ]
        refine wpAnyH_done (by kernel_rfl) ?_ _
        go_wp2_with fail
        go_roundw
        case rel => exact ⟨1, by omega, by go_num, by rw [HS1.out, ← HSS.out]; rfl, hHeld.2.2.1, hHeld.2.2.2.1⟩
        case measure => simp [intOf]
      · have ne1 : (!s0.toList.isEmpty) = true := by rw [HNE.out h0]; rfl
        go_upto_region 7 with (fail)
        rw [HQ.out]
        obtain ⟨wa, hwa⟩ : ∃ wa, wr.alloc (.cells #[.string N1, .int .i64 x] 55) = wa := ⟨_, rfl⟩
        have k0 : wa.cell? ⟨q, 0, none⟩ = some (.string N1) ∧ wa.cell? ⟨q, 1, none⟩ = some (.int .i64 x) ∧ q < wa.heap.size := by rw [← hwa, ← HQ.out]; exact ⟨by simp, by simp, by simp⟩
        have T2 : Hid (PowTab wa.drew) := Lib.hid (by rw [← hwa]; exact (T.out.later (alc0 _ _).drew))
        have HB2 : Hid (Below W.heap.size W wa.drew) := Lib.hid (by rw [← hwa]; exact (alc HB.out _).drew)
        rw [hwa]
        obtain ⟨k0, k1, k2⟩ := k0
        refine wp_region_held_drew (S := (fun w' => w'.cell? ⟨q, 0, none⟩ = some (.string N1) ∧ w'.cell? ⟨q, 1, none⟩ = some (.int .i64 x) ∧ Hid (PowTab w') ∧ Hid (Below W.heap.size W w') ∧ q < w'.heap.size)) (by kernel_rfl) ?_ (fun hHeld => ?_)
        · exact ⟨k0, k1, T2, HB2, k2⟩
        clear hwa k0 k1 k2 T2 HB2 T HB
        refine wpAnyH_take (i := 0) (v := ?_) rfl (by kernel_rfl) (by kernel_rfl) (by kernel_rfl) (fun _ _ _ h => h) (Or.inl ⟨by kernel_rfl, ?_⟩) (by assumption) ?_
        rotate_left
        · (intro w hSw; (try dsimp only at hSw); go_simp)
          try (with_reducible rfl)
        rotate_left
        try simp (maxSteps := 4000000) only [Act.put, List.setIfInBounds_toArray, List.set_cons_zero, List.set_cons_succ, List.getElem_toArray, List.getElem_cons_zero, List.getElem_cons_succ]
        refine wpAnyH_take (i := 1) (v := ?_) rfl (by kernel_rfl) (by kernel_rfl) (by kernel_rfl) (fun _ _ _ h => h) (Or.inl ⟨by kernel_rfl, ?_⟩) (by assumption) ?_
        rotate_left
        · (intro w hSw; (try dsimp only at hSw); go_simp)
          try (with_reducible rfl)
        rotate_left
        try simp (maxSteps := 4000000) only [Act.put, List.setIfInBounds_toArray, List.set_cons_zero, List.set_cons_succ, List.getElem_toArray, List.getElem_cons_zero, List.getElem_cons_succ]
        refine wpAnyH_take (i := 2) (v := ?_) rfl (by kernel_rfl) (by kernel_rfl) (by kernel_rfl) (fun _ _ _ h => h) (Or.inl ⟨by kernel_rfl, ?_⟩) (by assumption) ?_
        rotate_left
        · (intro w hSw; (try dsimp only at hSw); go_simp)
          try (with_reducible rfl)
        rotate_left
        try simp (maxSteps := 4000000) only [Act.put, List.setIfInBounds_toArray, List.set_cons_zero, List.set_cons_succ, List.getElem_toArray, List.getElem_cons_zero, List.getElem_cons_succ]
        refine wpAnyH_take (i := 3) (v := ?_) rfl (by kernel_rfl) (by kernel_rfl) (by kernel_rfl) (fun _ _ _ h => h) (Or.inl ⟨by kernel_rfl, ?_⟩) (by assumption) ?_
        rotate_left
        · (intro w hSw; (try dsimp only at hSw); go_simp)
          try (with_reducible rfl)
        rotate_left
        try simp (maxSteps := 4000000) only [Act.put, List.setIfInBounds_toArray, List.set_cons_zero, List.set_cons_succ, List.getElem_toArray, List.getElem_cons_zero, List.getElem_cons_succ]
        refine wpAnyH_take (i := 4) (v := ?_) rfl (by kernel_rfl) (by kernel_rfl) (by kernel_rfl) (fun _ _ _ h => h) (Or.inl ⟨by kernel_rfl, ?_⟩) (by assumption) ?_
        rotate_left
        · (intro w hSw; (try dsimp only at hSw); go_simp)
          try (with_reducible rfl)
        rotate_left
        try simp (maxSteps := 4000000) only [Act.put, List.setIfInBounds_toArray, List.set_cons_zero, List.set_cons_succ, List.getElem_toArray, List.getElem_cons_zero, List.getElem_cons_succ]
        refine wpAnyH_take (i := 5) (v := ?_) rfl (by kernel_rfl) (by kernel_rfl) (by kernel_rfl) (fun _ _ _ h => h) (Or.inl ⟨by kernel_rfl, ?_⟩) (by assumption) ?_
        rotate_left
        · (intro w hSw; (try dsimp only at hSw); go_simp)
          try (with_reducible rfl)
        rotate_left
        try simp (maxSteps := 4000000) only [Act.put, List.setIfInBounds_toArray, List.set_cons_zero, List.set_cons_succ, List.getElem_toArray, List.getElem_cons_zero, List.getElem_cons_succ]
        refine wpAnyH_ready (rs := [6]) (by kernel_rfl) (by simp) ?_
        refine AllReadyH.cons rfl (fun K2 hK2 => ?_) AllReadyH.nil
        go_simp
        with_reducible refine Calls.mono (digits_any x _ hx0 hx1 hHeld.2.2.1.out) ?_
        rintro e9 w9 ⟨rfl, hb⟩
        rw [HD1.out]
        refine hK2.out _ _ ?_ (fun hHeld2 => ?_)
        · obtain ⟨j0, j1, j2, j3, j4⟩ := hHeld
          exact ⟨(hb.cell (p := ⟨q, 0, none⟩) j4).trans j0, (hb.cell (p := ⟨q, 1, none⟩) j4).trans j1, Lib.hid (j2.out.later hb), Lib.hid (thn j3.out hb), Nat.lt_of_lt_of_le j4 hb.size⟩
        clear hb
        clear hK2 K2 hHeld
        have hHeld := hHeld2
        clear hHeld2
        try simp (maxSteps := 4000000) only [Act.put, List.setIfInBounds_toArray, List.set_cons_zero, List.set_cons_succ]
        refine wpAnyH_take (i := 7) (v := ?_) rfl (by kernel_rfl) (by kernel_rfl) (by kernel_rfl) (fun _ _ _ h => h) (Or.inl ⟨by kernel_rfl, ?_⟩) (by assumption) ?_
        rotate_left
        · (intro w hSw; (try dsimp only at hSw); go_simp)
          try (with_reducible rfl)
        rotate_left
        try simp (maxSteps := 4000000) only [Act.put, List.setIfInBounds_toArray, List.set_cons_zero, List.set_cons_succ, List.getElem_toArray, List.getElem_cons_zero, List.getElem_cons_succ]
        refine wpAnyH_take (i := 8) (v := ?_) rfl (by kernel_rfl) (by kernel_rfl) (by kernel_rfl) (fun _ _ _ h => h) (Or.inl ⟨by kernel_rfl, ?_⟩) (by assumption) ?_
        rotate_left
        · (intro w hSw; (try dsimp only at hSw); go_simp)
          try (with_reducible rfl)
        rotate_left
        try simp (maxSteps := 4000000) only [Act.put, List.setIfInBounds_toArray, List.set_cons_zero, List.set_cons_succ, List.getElem_toArray, List.getElem_cons_zero, List.getElem_cons_succ]
        refine wpAnyH_take (i := 9) (v := ?_) rfl (by kernel_rfl) (by kernel_rfl) (by kernel_rfl) (fun _ _ _ h => h) (Or.inl ⟨by kernel_rfl, ?_⟩) (by assumption) ?_
        rotate_left
        · (intro w hSw; (try dsimp only at hSw); go_simp)
          try (with_reducible rfl)
        rotate_left
        try simp (maxSteps := 4000000) only [Act.put, List.setIfInBounds_toArray, List.set_cons_zero, List.set_cons_succ, List.getElem_toArray, List.getElem_cons_zero, List.getElem_cons_succ]
        refine wpAnyH_done (by kernel_rfl) ?_ _
        go_wp2_with fail
        go_roundw
        case rel => exact ⟨i + 1, by omega, by go_num, by rw [HS1.out, ← HSS.out, if_neg (by omega)], hHeld.2.2.1, hHeld.2.2.2.1⟩
        case measure => simp [intOf]; omega
    · obtain rfl : i = 6 := by omega
      go_wp2
      go_ret
      exact ⟨rfl, HB.out⟩
theorem text_lit (g v e l p c : Int) (B : ByteArray) (hB : txtB (xsI g v e l p c) 6 = B) (W : World) (ht : PowTab W) (hx : ∀ i, -9223372036854775808 ≤ xsI g v e l p c i ∧ xsI g v e l p c i ≤ 9223372036854775807) :
    Calls Tryd.prog 16 #[.agg #[.int .i64 g, .int .i64 v, .int .i64 e, .int .i64 l, .int .i64 p, .int .i64 c]] W fun e' w' => e' = .returned (.string B) ∧ Below W.heap.size W w' := by
  subst hB; exact text_is g v e l p c W ht hx
theorem s39awake (w : World) (ht : PowTab w) : Calls Tryd.prog 14 #[] w fun e w' => e = .returned (.bool true) ∧ Below w.heap.size w w' := by
  have hb : txtB (xsI 1 0 0 5 5 0) 6 = ⟨#[103, 111, 116, 32, 49, 32, 103, 105, 118, 101, 110, 32, 48, 32, 101, 110, 100, 101, 100, 32, 48, 32, 108, 105, 118, 101, 32, 53, 32, 112, 101, 97, 107, 32, 53, 32, 99, 108, 101, 97, 114, 32, 48]⟩ := by decide +kernel
  have HBT := Lib.hid hb
  have T := Lib.hid ht
  clear hb ht
  go_enter Tryd.func14, Tryd.ntmps14
  go_wp2_with fail
  refine (get_is 0 0 0 0 0 0 5 5 5 _ (by omega) (by omega) (by omega) (by omega) (by omega) (by omega) (by omega) (.inr ⟨by omega, rfl⟩) (.inl ⟨by omega, by omega⟩)).mono ?_
  rintro e w1 ⟨rfl, hb1⟩
  have HB1 := Lib.hid (alc hb1 (.cells #[.int .i64 1, .int .i64 0, .int .i64 0, .int .i64 5, .int .i64 5, .int .i64 0] 24))
  have HS1 := Lib.hid (StAt.new w1 1 0 0 5 5 0 24)
  obtain ⟨w2, hw2⟩ : ∃ w2, w1.alloc (.cells #[.int .i64 1, .int .i64 0, .int .i64 0, .int .i64 5, .int .i64 5, .int .i64 0] 24) = w2 := ⟨_, rfl⟩
  obtain ⟨q, hq⟩ : ∃ q, w1.heap.size = q := ⟨_, rfl⟩
  rw [hw2] at HB1 HS1
  rw [hq] at HS1
  have HQ := Lib.hid (And.intro hw2 hq)
  clear hb1 hw2 hq
  go_upto_region 2 with (fail)
  rw [HQ.out.1, HQ.out.2]
  clear HQ
  obtain ⟨_, k0, k1, k2, k3, k4, k5, kf⟩ := HS1.out
  go_wp2_with fail
  refine (text_lit 1 0 0 5 5 0 _ HBT.out _ (T.out.later HB1.out) (by intro i; unfold xsI; split <;> omega)).mono ?_
  rintro e w3 ⟨rfl, hb⟩
  have HS3 := Lib.hid (HS1.out.below hb)
  have HB3 := Lib.hid (thn HB1.out hb)
  clear k0 k1 k2 k3 k4 k5 kf hb HB1 HS1
  obtain ⟨_, k0, k1, k2, k3, k4, k5, kf⟩ := HS3.out
  go_wp2_with fail
  refine (live_is 1 0 0 5 5 0 _ (by omega) (by omega) (by omega) (by omega) (by omega) (by omega)).mono ?_
  rintro e w4 ⟨rfl, hb⟩
  have HS4 := Lib.hid (HS3.out.below hb)
  have HB4 := Lib.hid (thn HB3.out hb)
  clear k0 k1 k2 k3 k4 k5 kf hb HB3 HS3
  obtain ⟨_, k0, k1, k2, k3, k4, k5, kf⟩ := HS4.out
  go_wp2_with fail
  refine (held_is 1 0 0 5 5 0 _ (by omega) (by omega) (by omega) (by omega) (by omega) (by omega)).mono ?_
  rintro e w5 ⟨rfl, hb⟩
  have HB5 := Lib.hid (thn HB4.out hb)
  clear k0 k1 k2 k3 k4 k5 kf hb HB4 HS4
  go_wp2
  go_ret
  exact ⟨rfl, HB5.out⟩
end Go.Proofs.YtjblgamngnnccaaDoor
