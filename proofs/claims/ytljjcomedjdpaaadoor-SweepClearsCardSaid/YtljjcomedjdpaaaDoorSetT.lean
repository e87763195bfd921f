/- SetA, SetT in one text: a claim holds at most 60 files. -/
import Derived.Test.YtljjcomedjdpaaaDoorSetN
import Derived.Lib.TrailingZeros
import Derived.Lib.LaidTab
import Derived.Lib.AppendIntMem
import Derived.Lib.SmallJoins
namespace Go.Proofs.YtljjcomedjdpaaaDoor
set_option maxRecDepth 100000
open Go.RowKit
set_option linter.unusedVariables false
set_option linter.unusedSimpArgs false

def putW (ws : List Nat) (x : Nat) : List Nat := ws.set (x / 64) (ws.getD (x / 64) 0 ||| 2 ^ (x % 64))
def dropW (ws : List Nat) (x : Nat) : List Nat := ws.set (x / 64) (ws.getD (x / 64) 0 &&& (18446744073709551615 - 2 ^ (x % 64)))
/-- The words, and how many changed, behind j numbers from x on that are put in. -/
def putN (ws : List Nat) (x : Nat) : Nat → List Nat × Int
  | 0 => (ws, 0)
  | j + 1 => if bitB (putN ws x j).1 (x + j) then putN ws x j else (putW (putN ws x j).1 (x + j), (putN ws x j).2 + 1)
def dropN (ws : List Nat) (x : Nat) : Nat → List Nat × Int
  | 0 => (ws, 0)
  | j + 1 => if bitB (dropN ws x j).1 (x + j) then (dropW (dropN ws x j).1 (x + j), (dropN ws x j).2 + 1) else dropN ws x j
theorem putN_len (ws : List Nat) (x j : Nat) : (putN ws x j).1.length = ws.length := by
  induction j with
  | zero => rfl
  | succ j ih => rw [putN]; split; exact ih; simp [putW, ih]
theorem dropN_len (ws : List Nat) (x j : Nat) : (dropN ws x j).1.length = ws.length := by
  induction j with
  | zero => rfl
  | succ j ih => rw [dropN]; split; simp [dropW, ih]; exact ih
theorem putN_bd (ws : List Nat) (x j : Nat) : 0 ≤ (putN ws x j).2 ∧ (putN ws x j).2 ≤ j := by
  induction j with
  | zero => exact ⟨Int.le_refl _, Int.le_refl _⟩
  | succ j ih => rw [putN]; split <;> simp <;> omega
theorem dropN_bd (ws : List Nat) (x j : Nat) : 0 ≤ (dropN ws x j).2 ∧ (dropN ws x j).2 ≤ j := by
  induction j with
  | zero => exact ⟨Int.le_refl _, Int.le_refl _⟩
  | succ j ih => rw [dropN]; split <;> simp <;> omega
theorem dropN_mono (ws : List Nat) (x j k : Nat) (h : j ≤ k) : (dropN ws x j).2 ≤ (dropN ws x k).2 := by
  induction k with
  | zero => obtain rfl : j = 0 := by omega
            exact Int.le_refl _
  | succ k ih =>
    by_cases e : j = k + 1
    · rw [e]; exact Int.le_refl _
    · have := ih (by omega)
      refine Int.le_trans this ?_
      rw [dropN]
      split <;> simp <;> omega

/-- How many numbers of a stretch there are. -/
def sJ (n f m : Int) : Nat := (sendI n f m - f).toNat
theorem sJ_in {n f m : Int} (h : 0 < sJ n f m) : 0 ≤ f ∧ f + sJ n f m ≤ n ∧ sendI n f m = f + sJ n f m := by
  unfold sJ sendI at *
  split at h <;> omega
theorem sJ_out {n f m : Int} (h : sJ n f m = 0) : ¬ f < sendI n f m := by
  unfold sJ at h
  omega

set_option maxHeartbeats 800000 in
theorem sputall (lo hi g : Nat) (W : World) (n c f m : Int) (ws : List Nat) (h : SetIs lo hi g W n c ws) (hc : 0 ≤ c ∧ c ≤ 900000) :
    Calls Tryd.prog 30 #[.pointer (some ⟨g, 0, none⟩), .int .i64 f, .int .i64 m] W fun e w' => e = .returned (.int .i64 (putN ws f.toNat (sJ n f m)).2) ∧ SetIs lo hi g w' n (c + (putN ws f.toNat (sJ n f m)).2) (putN ws f.toNat (sJ n f m)).1 ∧ Only lo hi W w' := by
  have hn := h.2.1
  obtain ⟨n0, n1, n2⟩ := hn
  have H := Lib.hid h; clear h
  obtain ⟨c0, c1⟩ := hc
  rcases Nat.eq_zero_or_pos (sJ n f m) with hJ | hJ
  · have hend := sJ_out hJ
    rw [hJ]
    clear hJ
    go_enter Tryd.func30, Tryd.ntmps30
    go_wp2_with fail
    go_loop [7, 8] (fun v7 v8 => v7 = .int .i64 0 ∧ v8 = .int .i64 f) (fun _ _ => 0)
    case atStart => exact ⟨rfl, rfl⟩
    case round =>
      obtain ⟨rfl, rfl⟩ := hrel
      go_wp2_with fail
      refine (send_any _ _ _ _ _ _ _ _ _ H.out).mono ?_
      rintro e w' ⟨rfl, rfl⟩
      go_wp2_with fail
      go_ret
      exact ⟨rfl, by rw [putN]; simpa using H.out, Only.refl _ _ _⟩
  · obtain ⟨f0, f1, hend⟩ := sJ_in hJ
    obtain ⟨F, rfl⟩ := Int.eq_ofNat_of_zero_le f0
    generalize sJ n F m = J at *
    have HE := Lib.hid hend
    rw [Int.toNat_natCast]
    clear hend hJ f0
    go_enter Tryd.func30, Tryd.ntmps30
    go_wp2_with fail
    go_loopw [7, 8] (fun v7 v8 wr => ∃ j : Nat, j ≤ J ∧ v8 = .int .i64 ((F : Int) + j) ∧ v7 = .int .i64 (putN ws F j).2 ∧ Hid (SetIs lo hi g wr n (c + (putN ws F j).2) (putN ws F j).1) ∧ Hid (Only lo hi W wr)) (fun _ x _ => ((F : Int) + J - intOf x).toNat)
    case atStart => exact ⟨0, by omega, by simp, rfl, Lib.hid (by rw [putN]; simpa using H.out), Lib.hid (Only.refl _ _ _)⟩
    case round =>
      obtain ⟨j, hj, rfl, rfl, HS, HO⟩ := hrel
      obtain ⟨b0, b1⟩ := putN_bd ws F j
      have hlen := putN_len ws F j
      have hnx : putN ws F (j + 1) = if bitB (putN ws F j).1 (F + j) then putN ws F j else (putW (putN ws F j).1 (F + j), (putN ws F j).2 + 1) := rfl
      have HL := Lib.hid hlen; clear hlen
      by_cases hlt : j < J
      · cases hb : bitB (putN ws F j).1 (F + j)
        · rw [hb] at hnx
          simp only [Bool.false_eq_true, if_false] at hnx
          have HB := Lib.hid hb; clear hb
          have hnx1 : (putN ws F (j + 1)).1 = putW (putN ws F j).1 (F + j) := by rw [hnx]
          have hnx2 : (putN ws F (j + 1)).2 = (putN ws F j).2 + 1 := by rw [hnx]
          clear hnx
          have HN1 := Lib.hid hnx1
          have HN2 := Lib.hid hnx2
          clear hnx1 hnx2
          go_wp2_with fail
          refine (send_any _ _ _ _ _ _ _ _ _ HS.out).mono ?_
          rintro e w' ⟨rfl, rfl⟩
          rw [HE.out]
          go_wp2_with fail
          refine (sput_walk lo hi g _ n _ (F + j) _ HS.out (by omega) HB.out (by omega)).mono ?_
          rintro e w2 ⟨rfl, hs2, ho2⟩
          have HS2 := Lib.hid hs2
          have HO2 := Lib.hid ho2
          clear hs2 ho2
          go_wp2_with fail
          go_roundw
          case rel => exact ⟨j + 1, by omega, by go_num, by rw [HN2.out], Lib.hid (by rw [HN1.out, HN2.out, ← Int.add_assoc]; exact HS2.out), Lib.hid (HO.out.trans HO2.out)⟩
          case measure => simp [intOf]; omega
        · rw [hb] at hnx
          simp only [if_true] at hnx
          have HB := Lib.hid hb; clear hb
          have HN := Lib.hid hnx; clear hnx
          go_wp2_with fail
          refine (send_any _ _ _ _ _ _ _ _ _ HS.out).mono ?_
          rintro e w' ⟨rfl, rfl⟩
          rw [HE.out]
          go_wp2_with fail
          refine (sput_no lo hi g _ n _ _ _ HS.out (.inr (by rw [show ((F : Int) + (j : Int)).toNat = F + j by omega]; exact HB.out))).mono ?_
          rintro e w2 ⟨rfl, rfl⟩
          go_wp2_with fail
          go_roundw
          case rel => exact ⟨j + 1, by omega, by go_num, by rw [HN.out], Lib.hid (by rw [HN.out]; exact HS.out), HO⟩
          case measure => simp [intOf]; omega
      · obtain rfl : j = J := by omega
        clear hnx
        go_wp2_with fail
        refine (send_any _ _ _ _ _ _ _ _ _ HS.out).mono ?_
        rintro e w' ⟨rfl, rfl⟩
        rw [HE.out]
        go_wp2_with fail
        go_ret
        exact ⟨rfl, HS.out, HO.out⟩
set_option maxHeartbeats 800000 in
theorem sdropall (lo hi g : Nat) (W : World) (n c f m : Int) (ws : List Nat) (h : SetIs lo hi g W n c ws) (hc : (dropN ws f.toNat (sJ n f m)).2 ≤ c ∧ c ≤ 900000) :
    Calls Tryd.prog 92 #[.pointer (some ⟨g, 0, none⟩), .int .i64 f, .int .i64 m] W fun e w' => e = .returned (.int .i64 (dropN ws f.toNat (sJ n f m)).2) ∧ SetIs lo hi g w' n (c - (dropN ws f.toNat (sJ n f m)).2) (dropN ws f.toNat (sJ n f m)).1 ∧ Only lo hi W w' := by
  have hn := h.2.1
  obtain ⟨n0, n1, n2⟩ := hn
  have H := Lib.hid h; clear h
  obtain ⟨c0, c1⟩ := hc
  have d0 := (dropN_bd ws f.toNat (sJ n f m)).1
  rcases Nat.eq_zero_or_pos (sJ n f m) with hJ | hJ
  · have hend := sJ_out hJ
    rw [hJ]
    clear hJ c0 d0
    go_enter Tryd.func92, Tryd.ntmps92
    go_wp2_with fail
    go_loop [7, 8] (fun v7 v8 => v7 = .int .i64 0 ∧ v8 = .int .i64 f) (fun _ _ => 0)
    case atStart => exact ⟨rfl, rfl⟩
    case round =>
      obtain ⟨rfl, rfl⟩ := hrel
      go_wp2_with fail
      refine (send_any _ _ _ _ _ _ _ _ _ H.out).mono ?_
      rintro e w' ⟨rfl, rfl⟩
      go_wp2_with fail
      go_ret
      exact ⟨rfl, by rw [dropN]; simpa using H.out, Only.refl _ _ _⟩
  · obtain ⟨f0, f1, hend⟩ := sJ_in hJ
    obtain ⟨F, rfl⟩ := Int.eq_ofNat_of_zero_le f0
    generalize sJ n F m = J at *
    have HE := Lib.hid hend
    rw [Int.toNat_natCast] at c0 d0 ⊢
    clear hend hJ f0
    go_enter Tryd.func92, Tryd.ntmps92
    go_wp2_with fail
    go_loopw [7, 8] (fun v7 v8 wr => ∃ j : Nat, j ≤ J ∧ v8 = .int .i64 ((F : Int) + j) ∧ v7 = .int .i64 (dropN ws F j).2 ∧ Hid (SetIs lo hi g wr n (c - (dropN ws F j).2) (dropN ws F j).1) ∧ Hid (Only lo hi W wr)) (fun _ x _ => ((F : Int) + J - intOf x).toNat)
    case atStart => exact ⟨0, by omega, by simp, rfl, Lib.hid (by rw [dropN]; simpa using H.out), Lib.hid (Only.refl _ _ _)⟩
    case round =>
      obtain ⟨j, hj, rfl, rfl, HS, HO⟩ := hrel
      obtain ⟨b0, b1⟩ := dropN_bd ws F j
      have hlen := dropN_len ws F j
      have hnx : dropN ws F (j + 1) = if bitB (dropN ws F j).1 (F + j) then (dropW (dropN ws F j).1 (F + j), (dropN ws F j).2 + 1) else dropN ws F j := rfl
      have HL := Lib.hid hlen; clear hlen
      by_cases hlt : j < J
      · cases hb : bitB (dropN ws F j).1 (F + j)
        · rw [hb] at hnx
          simp only [Bool.false_eq_true, if_false] at hnx
          have HB := Lib.hid hb; clear hb
          have HN := Lib.hid hnx; clear hnx
          go_wp2_with fail
          refine (send_any _ _ _ _ _ _ _ _ _ HS.out).mono ?_
          rintro e w' ⟨rfl, rfl⟩
          rw [HE.out]
          go_wp2_with fail
          refine (sdrop_no lo hi g _ n _ _ _ HS.out (by rw [show ((F : Int) + (j : Int)).toNat = F + j by omega, HB.out, Bool.and_false])).mono ?_
          rintro e w2 ⟨rfl, rfl⟩
          go_wp2_with fail
          go_roundw
          case rel => exact ⟨j + 1, by omega, by go_num, by rw [HN.out], Lib.hid (by rw [HN.out]; exact HS.out), HO⟩
          case measure => simp [intOf]; omega
        · rw [hb] at hnx
          simp only [if_true] at hnx
          have HB := Lib.hid hb; clear hb
          have hnx1 : (dropN ws F (j + 1)).1 = dropW (dropN ws F j).1 (F + j) := by rw [hnx]
          have hnx2 : (dropN ws F (j + 1)).2 = (dropN ws F j).2 + 1 := by rw [hnx]
          clear hnx
          have hmono := dropN_mono ws F (j + 1) J (by omega)
          rw [hnx2] at hmono
          have HN1 := Lib.hid hnx1
          have HN2 := Lib.hid hnx2
          clear hnx1 hnx2
          go_wp2_with fail
          refine (send_any _ _ _ _ _ _ _ _ _ HS.out).mono ?_
          rintro e w' ⟨rfl, rfl⟩
          rw [HE.out]
          go_wp2_with fail
          refine (sdrop_walk lo hi g _ n _ (F + j) _ HS.out (by omega) HB.out (by omega)).mono ?_
          rintro e w2 ⟨rfl, hs2, ho2⟩
          have HS2 := Lib.hid hs2
          have HO2 := Lib.hid ho2
          clear hs2 ho2
          go_wp2_with fail
          go_roundw
          case rel => exact ⟨j + 1, by omega, by go_num, by rw [HN2.out], Lib.hid (by rw [HN1.out, HN2.out, ← Int.sub_sub]; exact HS2.out), Lib.hid (HO.out.trans HO2.out)⟩
          case measure => simp [intOf]; omega
      · obtain rfl : j = J := by omega
        clear hnx
        go_wp2_with fail
        refine (send_any _ _ _ _ _ _ _ _ _ HS.out).mono ?_
        rintro e w' ⟨rfl, rfl⟩
        rw [HE.out]
        go_wp2_with fail
        go_ret
        exact ⟨rfl, HS.out, HO.out⟩
end Go.Proofs.YtljjcomedjdpaaaDoor
namespace Go.Proofs.YtljjcomedjdpaaaDoor
set_option maxRecDepth 100000
open Go.RowKit
set_option linter.unusedVariables false
set_option linter.unusedSimpArgs false

def TzTab (w : World) : Prop := Lib.TabIs Tryd.prog w "math/bits.deBruijn64tab" .u8 (Lib.deBruijn64tab.map fun n : Nat => (n : Int))
theorem gTz : Tryd.prog.globalNamed "math/bits.deBruijn64tab" = some 0 := by kernel_rfl
theorem TzTab.later {w w' : World} (h : TzTab w) (hb : Below w.heap.size w w') : TzTab w' := Joins.tab_stays gTz h hb (Nat.le_refl _)

theorem tz_key (x a : Nat) (hx : x < 18446744073709551616) (hx0 : x ≠ 0) (hlow : x &&& (18446744073709551616 - x) = a) :
    IntKind.u64.wrap (bits BinOp.and IntKind.u64 (x : Int) (IntKind.u64.wrap (-(x : Int))) * 285870213051353865) / 288230376151711744 = ((a * 285870213051353865 % 18446744073709551616 / 288230376151711744 : Nat) : Int) := by
  have e1 : IntKind.u64.wrap (-(x : Int)) = ((18446744073709551616 - x : Nat) : Int) := by rw [IntKind.wrap_u64]; omega
  rw [e1, u64_and_nat x _ hx (by omega), hlow, IntKind.wrap_u64]
  omega

theorem tz_core (x k idx : Nat) (w : World) (h00 : ((x : Int) == 0) = false)
    (key : IntKind.u64.wrap (bits BinOp.and IntKind.u64 (x : Int) (IntKind.u64.wrap (-(x : Int))) * 285870213051353865) / 288230376151711744 = (idx : Int))
    (hi : idx < 64) (hk : k < 64) (hcell : w.cell? ⟨0, idx, none⟩ = some (.int .u8 k)) :
    Calls Tryd.prog 89 #[.int .u64 x] w fun e w' => e = .returned (.int .i64 k) ∧ w = w' := by
  go_enter Tryd.func89, Tryd.ntmps89
  go_wp2_with (simp only [key])
  go_ret
  exact ⟨rfl, rfl⟩
theorem map_getD (l : List Nat) (i : Nat) (h : i < l.length) : (l.map fun n : Nat => (n : Int)).getD i 0 = ((l.getD i 0 : Nat) : Int) := by simp [List.getD, h]
theorem tz_any (x : Nat) (hx : x < 18446744073709551616) (hx0 : x ≠ 0) (w : World) (ht : TzTab w) :
    Calls Tryd.prog 89 #[.int .u64 x] w fun e w' => e = .returned (.int .i64 (Lib.ctz 64 x)) ∧ w = w' := by
  obtain ⟨hlow, hk⟩ := Lib.lowest_bit 64 x hx0 hx
  have hdb := Lib.deBruijn64_at _ hk
  have key := tz_key x _ hx hx0 hlow
  generalize 2 ^ Lib.ctz 64 x * 285870213051353865 % 18446744073709551616 / 288230376151711744 = idx at hdb key
  obtain ⟨hi, htab⟩ := hdb
  have hlen : Lib.deBruijn64tab.length = 64 := by decide
  have hcell := ht.cell gTz idx (by rw [List.length_map, hlen]; exact hi)
  rw [map_getD _ _ (by rw [hlen]; exact hi), htab] at hcell
  exact tz_core x _ idx w (by simp; omega) key hi hk hcell
theorem ctz_bit (x : Nat) (hx : x < 18446744073709551616) (hx0 : x ≠ 0) : Lib.ctz 64 x < 64 ∧ x.testBit (Lib.ctz 64 x) = true ∧ ∀ j, j < Lib.ctz 64 x → x.testBit j = false := by
  obtain ⟨m, hm, hlt⟩ := Lib.ctzFrom_spec 64 x (by omega) (by omega)
  have e : Lib.ctz 64 x = Lib.ctzFrom 64 x := by unfold Lib.ctz; rw [if_neg hx0]
  rw [e]
  generalize Lib.ctzFrom 64 x = c at *
  refine ⟨hlt, ?_, fun j hj => ?_⟩
  · rw [hm, Nat.testBit_two_pow_mul]; simp
  · rw [hm, Nat.testBit_two_pow_mul]; simp; omega
end Go.Proofs.YtljjcomedjdpaaaDoor

