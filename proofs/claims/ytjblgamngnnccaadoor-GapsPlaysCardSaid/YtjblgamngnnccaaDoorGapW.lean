/- Contracts of package gaps: Widest; the statement's awake, and what it finds. -/
import Derived.Test.YtjblgamngnnccaaDoorGapB
import Derived.Test.YtjblgamngnnccaaDoorGapC
import Derived.Test.YtjblgamngnnccaaDoorGapL
namespace Go.Proofs.YtjblgamngnnccaaDoor
open Go.RowKit
set_option linter.unusedVariables false
set_option linter.unusedSimpArgs false

def wideL : List Ar → Int
  | [] => 0
  | p :: r => max p.2 (wideL r)
def wideT (ms : List Ar) : Int := ms.foldl (fun m p => max m p.2) 0
theorem wideT_take (ms : List Ar) (i : Nat) (p : Ar) (h : ms[i]? = some p) : wideT (ms.take (i + 1)) = max (wideT (ms.take i)) p.2 := by
  rw [List.take_add_one, h]
  simp [wideT]
theorem listB_bd (ws : List Nat) (N : Nat) : ∀ x ∈ listB ws N, 0 ≤ x ∧ x < N := by
  induction N with
  | zero => intro x hx; simp [listB] at hx
  | succ N ih =>
    intro x hx
    rw [listB] at hx
    split at hx
    · rcases List.mem_append.1 hx with h | h
      · have := ih x h; omega
      · simp at h; omega
    · have := ih x hx; omega
theorem listB_le (ws : List Nat) (N : Nat) : (listB ws N).length ≤ N := by rw [listB_len]; exact cntB_le ws N
theorem runs_full (F : Int) (ws : List Nat) : ∀ N : Nat, (∀ y, y < N + 1 → bitB ws y = true) → runs F (listB ws (N + 1)) = [(F, (N : Int) + 1)]
  | 0, h => by
    have h0 := h 0 (by omega)
    simp [listB, h0, runs, gstep]
  | N + 1, h => by
    have h1 := h (N + 1) (by omega)
    rw [listB, if_pos h1, runs_snoc, runs_full F ws N (fun y hy => h y (by omega))]
    simp [gstep]
set_option maxHeartbeats 1600000 in
theorem gwide_any (lo hi s g : Nat) (W : World) (F c : Int) (N : Nat) (ws : List Nat) (h : GpAt lo hi s g W F N c ws) (hz : ∀ y, N ≤ y → bitB ws y = false) (ht : TzTab W) (hN : N ≤ 1024) :
    Calls Tryd.prog 24 #[.pointer (some ⟨g, 0, none⟩)] W fun e w' => e = .returned (.int .i64 (wideT (runs F (listB ws N)))) ∧ Below W.heap.size W w' := by
  have HC := Lib.hid (glist_any lo hi s g W F c N ws h hz ht (listB_bd ws N) (Nat.le_trans (listB_le ws N) hN))
  have hrl := Nat.le_trans (runs_len F (listB ws N)) (Nat.le_trans (listB_le ws N) hN)
  clear h hz ht
  obtain ⟨ms, hms⟩ : ∃ ms, runs F (listB ws N) = ms := ⟨_, rfl⟩
  rw [hms] at HC hrl ⊢
  clear hms
  go_enter Tryd.func24, Tryd.ntmps24
  go_wp2_with fail
  refine HC.out.mono ?_
  rintro e w1 ⟨b1, v1, rfl, hb1, hv1, hbel⟩
  have hsh := hv1
  obtain ⟨A, c1, rfl, _⟩ := hsh
  have HV := Lib.hid hv1
  have HB := Lib.hid hbel
  clear hv1 hbel HC
  go_wp2_with fail
  go_loopw [3, 9] (fun v3 v9 wr => ∃ i : Nat, i ≤ ms.length ∧ v9 = .int .i64 i ∧ v3 = .int .i64 (wideT (ms.take i)) ∧ Hid (Below w1.heap.size w1 wr)) (fun _ v9 _ => ms.length - (intOf v9).toNat)
  case atStart => exact ⟨0, by omega, rfl, rfl, Lib.hid (Below.refl _ _)⟩
  case round =>
    obtain ⟨i, hi, rfl, rfl, HW⟩ := hrel
    by_cases hlt : i < ms.length
    · rcases va_open HV.out with ⟨_, rfl⟩ | ⟨off, c', e, h7, h8, h9, h10⟩
      · simp at hlt
      · injection e with e1 e2 e3
        subst e1; subst e3
        obtain ⟨p, hpi⟩ : ∃ p, ms[i]? = some p := ⟨_, List.getElem?_eq_getElem hlt⟩
        obtain ⟨q0, q1⟩ := h10 i p hpi
        have r0 := (HW.out.cell (p := ⟨b1, off + i * 2, none⟩) h7).trans q0
        have r1 := (HW.out.cell (p := ⟨b1, off + i * 2 + 1, none⟩) h7).trans q1
        have hs := wideT_take ms i p hpi
        obtain ⟨m, hm⟩ : ∃ m, wideT (ms.take i) = m := ⟨_, rfl⟩
        rw [hm] at hs ⊢
        have HS := Lib.hid hs
        clear h10 q0 q1 hs hm hpi
        have i1 : (i : Int) < ms.length := by omega
        rcases Int.lt_or_le m p.2 with hlm | hlm
        · have HS2 : Hid (wideT (ms.take (i + 1)) = p.2) := Lib.hid (by rw [HS.out]; omega)
          clear HS
          go_wp2_with fail
          all_goals
            first
              | (go_roundw
                 case rel => exact ⟨i + 1, by omega, by go_num, by rw [HS2.out], Lib.hid (HW.out.alloc HW.out.size _)⟩
                 case measure => simp [intOf] <;> omega)
              | (exfalso; omega)
        · have HS2 : Hid (wideT (ms.take (i + 1)) = m) := Lib.hid (by rw [HS.out]; omega)
          clear HS
          go_wp2_with fail
          all_goals
            first
              | (go_roundw
                 case rel => exact ⟨i + 1, by omega, by go_num, by rw [HS2.out], Lib.hid (HW.out.alloc HW.out.size _)⟩
                 case measure => simp [intOf] <;> omega)
              | (exfalso; omega)
    · obtain rfl : i = ms.length := by omega
      rw [List.take_length]
      go_wp2
      go_ret
      exact ⟨rfl, thn HB.out HW.out⟩
theorem gfind_is (lo hi s g : Nat) (W : World) (F c : Int) (N : Nat) (ws : List Nat) (n : Int) (h : GpAt lo hi s g W F N c ws) (hz : ∀ y, N ≤ y → bitB ws y = false) (ht : TzTab W) (hN : N ≤ 1024) :
    Calls Tryd.prog 18 #[.pointer (some ⟨g, 0, none⟩), .int .i64 n] W fun e w' => e = .returned (.int .i64 (if n < 1 then -1 else findL n (runs F (listB ws N)))) ∧ Below W.heap.size W w' := by
  by_cases hn : n < 1
  · rw [if_pos hn]
    exact gfind_low _ n W hn
  · rw [if_neg hn]
    exact gfind_any lo hi s g W F c N ws n h hz ht (listB_bd ws N) (Nat.le_trans (listB_le ws N) hN) (by omega)
theorem gfound (a b n : Int) (W : World) : Calls Tryd.prog 27 #[.agg #[.int .i64 a, .int .i64 b], .int .i64 n] W fun e w' => e = .returned (.int .i64 (if n < 1 ∨ b < n then -1 else a)) ∧ Below W.heap.size W w' := by
  by_cases h1 : n < 1
  · rw [if_pos (.inl h1)]
    go_enter Tryd.func27, Tryd.ntmps27
    go_wp2
    go_ret
    exact ⟨rfl, alc0 _ _⟩
  · by_cases h2 : b < n
    · rw [if_pos (.inr h2)]
      go_enter Tryd.func27, Tryd.ntmps27
      go_wp2
      go_ret
      exact ⟨rfl, alc0 _ _⟩
    · rw [if_neg (by omega)]
      go_enter Tryd.func27, Tryd.ntmps27
      go_wp2
      go_ret
      exact ⟨rfl, alc0 _ _⟩
set_option maxRecDepth 100000 in
theorem awakeGaps (W : World) (ht : TzTab W) : Calls Tryd.prog 23 #[] W fun e w' => e = .returned (.bool true) ∧ Below W.heap.size W w' := by
  have T := Lib.hid ht
  clear ht
  go_enter Tryd.func23, Tryd.ntmps23
  go_wp2_with fail
  refine (gnew_yes 10 5 _ ⟨by decide, by decide, by decide, by decide⟩).mono ?_
  rintro e w1 ⟨lo, hi, s, g, ws, rfl, hg, hbits, hb, hl1, hl2⟩
  have HG := Lib.hid hg
  have HB := Lib.hid hbits
  have HBW := Lib.hid hb
  have T1 : Hid (TzTab w1) := Lib.hid (T.out.later hb)
  have hwh : wholeB ws ((11 : Int) - 10).toNat (2 : Int).toNat = true := by
    show wholeB ws 1 2 = true
    simp [wholeB, hbits]
  have hlen : 5 ≤ 64 * ws.length := by
    have := hg.2.2.2.2.2.1.2.1.2.2.1
    omega
  have hdc : (dropN ws ((11 : Int) - 10).toNat (2 : Int).toNat).2 = 2 := by
    show (dropN ws 1 2).2 = 2
    rw [dropN_count ws 1 2 (by omega) (fun y h1 h2 => by rw [hbits]; simp; omega)]
    rfl
  have HDC := Lib.hid hdc
  have hdb : ∀ y, bitB (dropN ws ((11 : Int) - 10).toNat (2 : Int).toNat).1 y = (decide (y < 5) && !decide (1 ≤ y ∧ y < 3)) := fun y => by
    show bitB (dropN ws 1 2).1 y = _
    rw [dropN_bits ws 1 2 y (by omega), hbits]
    rfl
  have HDB := Lib.hid hdb
  have HWH := Lib.hid hwh
  clear hg hbits hb hwh hlen hdc hdb
  go_wp2_with fail
  refine (gtake_in lo hi s g _ 10 5 5 11 2 ws HG.out ⟨by decide, by decide, by decide, by decide⟩ HWH.out (by rw [HDC.out]; decide)).mono ?_
  rintro e w2 ⟨rfl, hg2, ho2⟩
  rw [HDC.out] at hg2
  obtain ⟨ws2, hws2⟩ : ∃ ws2, (dropN ws ((11 : Int) - 10).toNat (2 : Int).toNat).1 = ws2 := ⟨_, rfl⟩
  rw [hws2] at hg2 HDB
  have HG2 : Hid (GpAt lo hi s g w2 10 ((5 : Nat) : Int) 3 ws2) := Lib.hid hg2
  have hbel2 : Below W.heap.size W w2 := HBW.out.trans (ho2.1.mono hl1)
  have HB2 := Lib.hid hbel2
  have T2 : Hid (TzTab w2) := Lib.hid (T.out.later hbel2)
  have hz : ∀ y, 5 ≤ y → bitB ws2 y = false := fun y hy => by rw [HDB.out]; simp; omega
  have HZ := Lib.hid hz
  have hruns : runs 10 (listB ws2 5) = [(10, 1), (13, 2)] := by
    simp [listB, HDB.out, runs, gstep]
  have HRN := Lib.hid hruns
  clear hg2 ho2 hbel2 hz hruns hws2 HDC HWH HG HB
  go_wp2_with fail
  refine (gwide_any lo hi s g _ 10 3 5 ws2 HG2.out HZ.out T2.out (by decide)).mono ?_
  rintro e w3 ⟨rfl, hb3⟩
  have hwd : wideT (runs 10 (listB ws2 5)) = 2 := by rw [HRN.out]; decide
  rw [hwd]
  have HG3 : Hid (GpAt lo hi s g w3 10 ((5 : Nat) : Int) 3 ws2) := Lib.hid (HG2.out.below hb3)
  have T3 : Hid (TzTab w3) := Lib.hid (T2.out.later hb3)
  have HB3 := Lib.hid (thn HB2.out hb3)
  clear hb3 hwd
  go_wp2_with fail
  refine (gfind_is lo hi s g _ 10 3 5 ws2 2 HG3.out HZ.out T3.out (by decide)).mono ?_
  rintro e w4 ⟨rfl, hb4⟩
  have hf1 : (if (2 : Int) < 1 then -1 else findL 2 (runs 10 (listB ws2 5))) = 13 := by rw [HRN.out]; decide
  rw [hf1]
  have HG4 : Hid (GpAt lo hi s g w4 10 ((5 : Nat) : Int) 3 ws2) := Lib.hid (HG3.out.below hb4)
  have T4 : Hid (TzTab w4) := Lib.hid (T3.out.later hb4)
  have HB4 := Lib.hid (thn HB3.out hb4)
  clear hb4 hf1
  go_wp2_with fail
  refine (gfind_is lo hi s g _ 10 3 5 ws2 1 HG4.out HZ.out T4.out (by decide)).mono ?_
  rintro e w5 ⟨rfl, hb5⟩
  have hf2 : (if (1 : Int) < 1 then -1 else findL 1 (runs 10 (listB ws2 5))) = 10 := by rw [HRN.out]; decide
  rw [hf2]
  have HG5 : Hid (GpAt lo hi s g w5 10 ((5 : Nat) : Int) 3 ws2) := Lib.hid (HG4.out.below hb5)
  have HB5 := Lib.hid (thn HB4.out hb5)
  clear hb5 hf2
  go_wp2_with fail
  refine (gfree lo hi s g _ 10 5 3 ws2 HG5.out).mono ?_
  rintro e w6 ⟨rfl, rfl⟩
  go_wp2
  go_ret
  exact ⟨rfl, HB5.out⟩
end Go.Proofs.YtjblgamngnnccaaDoor
