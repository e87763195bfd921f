/- Contracts of package shuf: Order, Back. -/
import Derived.Test.YtbmcgoodilomlaaShufM
import Derived.Laws.MakeOwn
namespace Go.Proofs.Ytbmcgoodilomlaa
open Go.RowKit
set_option linter.unusedVariables false
set_option linter.unusedSimpArgs false

theorem own_ints {w : World} {B n : Nat} {v : Value} {l : List Int} (h : w.ownsRow B 3 1 v n (l.map (Value.int .i64))) : ∃ a cap, v = .slice a n cap ∧ Ints .i64 w a n l := by
  obtain ⟨b, _, hr⟩ := rowB_of (by simpa using h.1) h
  obtain ⟨A, c, rfl, hs⟩ := slW_of hr
  exact ⟨A, c, rfl, hs.ints⟩
set_option maxHeartbeats 1600000 in
theorem order_any (n : Nat) (g b : Nat) (zs : List Int) (k0 : Int) (W : World) (hn : n ≤ 31) (hd : DrB g b W zs k0) (hbB : b < W.heap.size) (hk : 0 ≤ k0 ∧ k0 ≤ 100) (hz : ∀ x ∈ zs, -9223372036854775808 ≤ x ∧ x ≤ 9223372036854775807) :
    Calls Try.prog 17 #[.int .i64 (n : Int), .pointer (some ⟨g, 0, none⟩)] W (OfPost g W n (shufL (n - 1) (rangeI n) zs k0)) := by
  obtain ⟨i0, hi, hz0, hz1, hz2⟩ := info_parts infoIntD
  have HD := Lib.hid hd
  have HZ := Lib.hid hz
  have hmx : ¬ (n : Int) < 0 := by omega
  clear hd hz
  go_enter Try.func17, Try.ntmps17
  go_wp2_with fail
  go_loopw [5, 9] (fun v i wr => ∃ k : Nat, k ≤ n ∧ i = .int .i64 k ∧ wr.ownsRow W.heap.size 3 1 v k ((rangeI k).map (Value.int .i64)) ∧ Below W.heap.size W wr) (fun _ i _ => n - (intOf i).toNat)
  case atStart => exact ⟨0, by omega, rfl, ⟨by simp [rangeI], .inl ⟨rfl, rfl⟩⟩, Below.refl _ _⟩
  case round =>
    obtain ⟨k, hk2, rfl, hown, hbel⟩ := hrel
    have hbs := hbel.size
    by_cases hlt : k < n
    · have l1 : (k : Int) < (n : Int) := by omega
      go_wp2_with (at_builtin; refine wpList_append_own _ rfl _ _ 22 rfl W.heap.size 3 i0 (.int .i64 0) 1 8 Try.underlying22 hi hz0 hz1 hz2 rfl (by decide) _ _ _ rfl (hown.alloc _) ⟨wr.heap.size, 0, none⟩ 1 1 [.int .i64 (k : Int)] rfl rfl ?c1 ?c2 ?c3 ?c4 ?c5 ?_)
      case c1 => exact cell_one_new _ _ _
      case c2 => simp [Value.oneCell']
      case c3 => unfold maxLen; omega
      case c4 => omega
      case c5 => simp; omega
      intro v' w2 hown1 hgrow _
      have hb1 : Below W.heap.size W w2 := (hbel.alloc hbs _).grown hgrow (by simp; omega) (fun j hj => (hown.lt j hj).1)
      clear hgrow hown
      go_wp2
      go_roundw
      case rel => exact ⟨k + 1, by omega, by go_num, by rw [rangeI_snoc]; simpa using hown1, hb1⟩
      case measure => simp [intOf]; omega
    · obtain rfl : k = n := by omega
      obtain ⟨A, cap, rfl, hx⟩ := own_ints hown
      have HX := Lib.hid hx
      have HB := Lib.hid hbel
      have HD2 := Lib.hid (HD.out.below hbel)
      clear hx hbel hown HD
      go_wp2_with fail
      refine (of_any A k cap (rangeI k) g b zs k0 _ HX.out (by omega) HD2.out (by omega) hk HZ.out).mono ?_
      rintro e w2 ⟨bo, A2, c2, rfl, hbo, hs, hb⟩
      have HS := Lib.hid hs
      have HB2 := Lib.hid hb
      clear hs hb
      go_wp2_with fail
      go_ret
      exact ⟨bo, A2, c2, rfl, by have := HB.out.size; omega, HS.out, fun L h1 h2 => (HB.out.mono h2).trans (HB2.out L h1 (by have := HB.out.size; omega))⟩
theorem mkInt (n : Nat) (hn : n ≤ 100) (W : World) : (Instr.makeSlice 22 (.int .i64 (n : Int)) (.int .i64 (n : Int))).run Try.prog W = .ok (.slice (some ⟨W.heap.size, 0, none⟩) n n) (W.alloc (.cells (madeCells #[.int .i64 0] n) 3)) := by
  obtain ⟨i0, hi, hz0, hz1, hz2⟩ := info_parts infoIntD
  have := run_make (P := Try.prog) (w := W) 22 3 i0 (.int .i64 0) Try.underlying22 hi hz0 .i64 .i64 n n (by omega) (by omega) (by rw [hz2]; omega) (by omega)
  rw [hz1] at this
  simp only [Int.toNat_natCast, Nat.mul_one] at this
  exact this
theorem mkRow (n : Nat) (W : World) : RowW W.heap.size (W.alloc (.cells (madeCells #[.int .i64 0] n) 3)) n (List.replicate n 0) := by
  refine ⟨by simp, by simp, fun i hi => ⟨?_, by simp⟩⟩
  rw [World.cell?_alloc_mark]
  simp [madeCells, hi, List.getD_eq_getElem?_getD, List.getElem?_replicate, Nat.mod_one]
def BackPost (W : World) (n : Nat) (o : Option (List Int)) (e : Ending) (w' : World) : Prop :=
  Below W.heap.size W w' ∧ match o with
    | none => e = .returned (.slice none 0 0)
    | some Y => ∃ bk A c, e = .returned (.slice A n c) ∧ W.heap.size ≤ bk ∧ SlW bk w' A n c Y
theorem rep_set (n k : Nat) (h : k < n) : (List.replicate k (-1 : Int) ++ List.replicate (n - k) 0).set k (-1) = List.replicate (k + 1) (-1) ++ List.replicate (n - (k + 1)) 0 := by
  apply List.ext_getElem
  · simp; omega
  · intro i h1 h2
    simp only [List.getElem_set, List.getElem_append, List.length_replicate, List.getElem_replicate]
    repeat' split
    all_goals first | rfl | omega
set_option maxHeartbeats 3200000 in
theorem back_any (a : Option Addr) (n c : Nat) (xs : List Int) (W : World) (hI : Ints .i64 W a n xs) (hn : n ≤ 100) :
    Calls Try.prog 18 #[.slice a n c] W (BackPost W n (bkGo xs 0 (List.replicate n (-1)))) := by
  have hmk := mkInt n hn W
  have HI := Lib.hid hI
  have HR : Hid (RowW W.heap.size (W.alloc (.cells (madeCells #[.int .i64 0] n) 3)) n (List.replicate 0 (-1) ++ List.replicate (n - 0) 0)) := Lib.hid (by simpa using mkRow n W)
  have HB := Lib.hid (alc0 W (.cells (madeCells #[.int .i64 0] n) 3))
  obtain ⟨RES, hRES⟩ : ∃ r, bkGo xs 0 (List.replicate n (-1)) = r := ⟨_, rfl⟩
  have HRES := Lib.hid hRES
  rw [hRES]
  obtain ⟨w1, hw1⟩ : ∃ w1, W.alloc (.cells (madeCells #[.int .i64 0] n) 3) = w1 := ⟨_, rfl⟩
  obtain ⟨bk, hbk⟩ : ∃ bk, W.heap.size = bk := ⟨_, rfl⟩
  rw [hw1, hbk] at hmk HR
  rw [hw1] at HB
  have HBK := Lib.hid hbk
  clear hI hRES hw1 hbk
  go_enter Try.func18, Try.ntmps18
  go_wp2_with fail
  go_loopw [12] (fun i wr => ∃ k : Nat, k ≤ n ∧ i = .int .i64 k ∧ Hid (RowW bk wr n (List.replicate k (-1) ++ List.replicate (n - k) 0)) ∧ Hid (Below W.heap.size W wr)) (fun i _ => n - (intOf i).toNat)
  case atStart => exact ⟨0, by omega, rfl, HR, HB⟩
  case round =>
    clear HR HB hmk
    obtain ⟨k, hk, rfl, HR, HB⟩ := hrel
    by_cases hlt : k < n
    · have l1 : (k : Int) < (n : Int) := by omega
      obtain ⟨c1, f1⟩ := HR.out.2.2 k hlt
      have HR2 := Lib.hid (HR.out.set_ hlt (-1))
      rw [rep_set n k hlt] at HR2
      have HB2 : Hid (Below W.heap.size W (wr.setCell ⟨bk, k, none⟩ (.int .i64 (-1)))) := Lib.hid (HB.out.setCell (by show W.heap.size ≤ bk; rw [HBK.out]; exact Nat.le_refl _) _)
      clear HR HB
      go_wp2_with fail
      go_roundw
      case rel => exact ⟨k + 1, by omega, by go_num, HR2, HB2⟩
      case measure => simp [intOf]; omega
    · obtain rfl : k = n := by omega
      have HR2 : Hid (RowW bk wr k (List.replicate k (-1))) := Lib.hid (by simpa using HR.out)
      have HI2 := Lib.hid (HI.out.below HB.out)
      obtain ⟨wo, rfl⟩ : ∃ wo : World, wo = wr := ⟨_, rfl⟩
      obtain ⟨m, rfl⟩ : ∃ m, m = k := ⟨_, rfl⟩
      clear HR
      go_wp2_with fail
      go_loopw [21] (fun i wr => ∃ (j : Nat) (Y : List Int), j ≤ m ∧ i = .int .i64 j ∧ Hid (RowW bk wr m Y) ∧ Hid (bkGo (xs.drop j) j Y = RES) ∧ Hid (∀ y ∈ Y, -1 ≤ y ∧ y ≤ 100) ∧ Hid (Below W.heap.size W wr)) (fun i _ => m - (intOf i).toNat)
      case atStart => exact ⟨0, _, by omega, rfl, HR2, HRES, Lib.hid (fun y hy => by obtain ⟨_, rfl⟩ := List.mem_replicate.1 hy; omega), HB⟩
      case round =>
        clear HR2 HB HRES
        obtain ⟨j, Y, hj, rfl, HR, HRES, HY, HB⟩ := hrel
        have hyl : Y.length = m := HR.out.2.1
        have HYL := Lib.hid hyl
        clear hyl
        by_cases hlt : j < m
        · have l1 : (j : Int) < (m : Int) := by omega
          have hxl : xs.length = m := HI2.out.1
          obtain ⟨ba, offa, rfl, hcell⟩ : ∃ ba offa, a = some ⟨ba, offa, none⟩ ∧ wr.cell? ⟨ba, offa + j, none⟩ = some (.int .i64 (xs.getD j 0)) := by
            obtain ⟨_, h0 | ⟨b, off, e, hl, _, hc⟩⟩ := HI.out
            · omega
            · exact ⟨b, off, e, (HB.out.cell (p := ⟨b, off + j, none⟩) hl).trans (hc j hlt)⟩
          have hdr : xs.drop j = xs.getD j 0 :: xs.drop (j + 1) := by
            rw [List.drop_eq_getElem_cons (by omega)]; simp [show j < xs.length by omega]
          have HD := Lib.hid hdr
          clear hdr hxl
          obtain ⟨x, hx⟩ : ∃ x, xs.getD j 0 = x := ⟨_, rfl⟩
          rw [hx] at hcell HD
          clear hx
          have hres := HRES.out
          rw [HD.out, bkGo, HYL.out] at hres
          by_cases h1 : x < 0
          · rw [if_pos (.inl h1)] at hres
            subst hres
            go_wp2
            go_ret
            exact ⟨HB.out, rfl⟩
          · by_cases h2 : (m : Int) ≤ x
            · rw [if_pos (.inr (.inl h2))] at hres
              subst hres
              go_wp2
              go_ret
              exact ⟨HB.out, rfl⟩
            · obtain ⟨v, rfl⟩ := Int.eq_ofNat_of_zero_le (show 0 ≤ x by omega)
              have hv : v < m := by omega
              obtain ⟨c1, f1⟩ := HR.out.2.2 v hv
              simp only [Int.toNat_natCast] at hres
              obtain ⟨y, hy⟩ : ∃ y, Y.getD v 0 = y := ⟨_, rfl⟩
              rw [hy] at c1 hres
              have hyb : -1 ≤ y ∧ y ≤ 100 := HY.out y (by rw [← hy, List.getD_eq_getElem?_getD, List.getElem?_eq_getElem (by rw [HYL.out]; exact hv)]; simp)
              clear hy
              obtain ⟨hyb1, hyb2⟩ := hyb
              by_cases h3 : 0 ≤ y
              · rw [if_pos (.inr (.inr h3))] at hres
                subst hres
                go_wp2
                go_ret
                exact ⟨HB.out, rfl⟩
              · rw [if_neg (by omega)] at hres
                have HR2 := Lib.hid (HR.out.set_ hv (j : Int))
                have HB2 : Hid (Below W.heap.size W (wr.setCell ⟨bk, v, none⟩ (.int .i64 (j : Int)))) := Lib.hid (HB.out.setCell (by show W.heap.size ≤ bk; rw [HBK.out]; exact Nat.le_refl _) _)
                have HY2 : Hid (∀ y ∈ Y.set v (j : Int), -1 ≤ y ∧ y ≤ 100) := Lib.hid (fun z hz => by
                  rcases List.mem_or_eq_of_mem_set hz with h | h
                  · exact HY.out z h
                  · omega)
                have HRES2 := Lib.hid hres
                clear hres HR HB HY HRES HYL HD
                go_wp2_with fail
                go_roundw
                case rel => exact ⟨j + 1, _, by omega, by go_num, HR2, HRES2, HY2, HB2⟩
                case measure => simp [intOf]; omega
        · obtain rfl : j = m := by omega
          have hres := HRES.out
          rw [List.drop_of_length_le (by have := HI2.out.1; omega), bkGo] at hres
          subst hres
          go_wp2
          go_ret
          exact ⟨HB.out, bk, _, _, rfl, by rw [HBK.out]; exact Nat.le_refl _, HYL.out, Nat.le_refl _, by omega, .inr ⟨rfl, HR.out⟩⟩
set_option maxHeartbeats 1600000 in
theorem s23awake (w : World) : Calls Try.prog 16 #[] w fun e w' => e = .returned (.bool true) ∧ Below w.heap.size w w' := by
  go_enter Try.func16, Try.ntmps16
  go_wp2_with fail
  refine (dnew_b _ _ _ _ _ (ints_one w 0 3) (by omega)).mono ?_
  rintro e w1 ⟨g, b, rfl, hd, hg, hb0, hb3, hb1⟩
  have HD := Lib.hid hd
  have HB1 : Hid (Below w.heap.size w w1) := Lib.hid ((alc0 w _).trans (hb1.mono (by simp)))
  have hg2 : w.heap.size ≤ g := by simp at hg; omega
  clear hd hg hb0 hb1
  go_wp2_with fail
  refine (order_any 2 g b [0] 0 _ (by omega) HD.out hb3 (by omega) (by simp)).mono ?_
  rintro e w2 ⟨bo, A, c, rfl, hbo, hs, hb⟩
  have he : shufL (2 - 1) (rangeI 2) [0] 0 = [1, 0] := by decide
  rw [he] at hs
  have HB2 := Lib.hid (HB1.out.trans (hb w.heap.size hg2 HB1.out.size))
  obtain ⟨_, _, _, h0 | ⟨rfl, hr⟩⟩ := hs
  · omega
  · have c0 := (hr.2.2 0 (by omega)).1
    have c1 := (hr.2.2 1 (by omega)).1
    simp only [List.getD_cons_zero, List.getD_cons_succ] at c0 c1
    clear hr hb he HB1 HD
    go_wp2
    go_ret
    exact ⟨rfl, HB2.out⟩
end Go.Proofs.Ytbmcgoodilomlaa
