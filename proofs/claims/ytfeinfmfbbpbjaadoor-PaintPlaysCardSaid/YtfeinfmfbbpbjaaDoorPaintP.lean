/- The walk of PaintPlays. -/
import Derived.Test.YtfeinfmfbbpbjaaDoorPaintQ
import Derived.Deep.RegionHeld3
namespace Go.Proofs.YtfeinfmfbbpbjaaDoor
open Go.RowKit
set_option linter.unusedVariables false
set_option linter.unusedSimpArgs false

/-- What the end of the walk holds of its world. -/
def PEnd (lo p g lo2 p2 g2 h : Nat) (B K : Int) (c : Int) (ws ws' : List Nat) (w W : World) : Prop :=
  PtIs lo p g p W c ws ∧ PtIs lo2 p2 g2 p2 W 64 ws' ∧ Below w.heap.size w W ∧ (W.cell? ⟨h, 0, none⟩ = some (.int .i64 B) ∧ W.cell? ⟨h, 1, none⟩ = some (.int .i64 K)) ∧ h < W.heap.size
theorem PEnd.grow {lo p g lo2 p2 g2 h : Nat} {B K : Int} {c : Int} {ws ws' : List Nat} {w W W' : World} (H : PEnd lo p g lo2 p2 g2 h B K c ws ws' w W) (hb : Below W.heap.size W W') : PEnd lo p g lo2 p2 g2 h B K c ws ws' w W' := by
  obtain ⟨h1, h2, h3, ⟨h4, h5⟩, h6⟩ := H
  exact ⟨h1.below hb h1.2.1.2 hb.size, h2.below hb h2.2.1.2 hb.size, h3.trans (hb.mono h3.size), ⟨(hb.cell h6).trans h4, (hb.cell h6).trans h5⟩, Nat.lt_of_lt_of_le h6 hb.size⟩

set_option maxRecDepth 8000 in
set_option maxHeartbeats 16000000 in
theorem walkPaintPlays (a0 : Option Addr) (len0 cap0 : Nat) (z0 : List Int) (a1_0 : Int) (a1_1 : Int) (w : World) (w0 : IsRecs 3 w a0 len0 cap0 z0) (w1_0 : (Lit.int .i64 a1_0).wf = true) (w1_1 : (Lit.int .i64 a1_1).wf = true) (ht : TzTab w) :
    Calls Tryd.prog 3 #[.slice a0 len0 cap0, .agg #[.int .i64 a1_0, .int .i64 a1_1]] w fun e w' => e = .returned (.bool true) ∧ Below w.heap.size w w' := by
  have T := Lib.hid ht; clear ht
  have HI := Lib.hid (w0.recs (by decide)); clear w0
  obtain ⟨zv, zi⟩ := zero_of_info arrInfo
  have zb := fun W : World => run_build (P := Tryd.prog) W 26 #[] arrZ arrBuilt
  have zs1 := fun W : World => run_storeAt_new (P := Tryd.prog) W 26 arrZ arrZ (by rw [arrSize]; exact zi) rfl arrOne
  have zs2 := fun W : World => run_storeCells_new (P := Tryd.prog) W 26 arrZ arrZ (by rw [arrSize]; exact zi) rfl arrOne
  have hZs := arrSize
  have HZ := Lib.hid arrAt
  generalize arrZ = Z at *
  obtain ⟨m, hm1, hm2, hm3⟩ : ∃ m : Nat, m ≤ len0 ∧ m ≤ 40 ∧ (m < len0 → m = 40) := ⟨min len0 40, by omega, by omega, by omega⟩
  go_enter Tryd.func3, Tryd.ntmps3
  go_wp2_with fail
  refine (ptnew_any _).mono ?_
  rintro e v1 ⟨g, p, rfl, hp, hb1⟩
  have r0 : v1.cell? ⟨w.heap.size, 0, none⟩ = some (.int .i64 a1_0) := by rw [hb1.cell (by simp)]; simp
  have r1 : v1.cell? ⟨w.heap.size, 1, none⟩ = some (.int .i64 a1_1) := by rw [hb1.cell (by simp)]; simp
  go_wp2_with fail
  have hw1 : (w.alloc (.cells #[.int .i64 a1_0, .int .i64 a1_1] 23)).heap.size = w.heap.size + 1 := by simp
  obtain ⟨lo, hlo⟩ : ∃ lo, (w.alloc (.cells #[.int .i64 a1_0, .int .i64 a1_1] 23)).heap.size = lo := ⟨_, rfl⟩
  have HS0 := Lib.hid (ptl_new (T := 26) hp HZ.out)
  rw [hlo] at HS0
  have hbel1 : Below w.heap.size w v1 := thn (alc0 w _) hb1
  have hbx := alc hbel1 (.cells Z 26)
  have hlb : w.heap.size + 1 ≤ v1.heap.size := by have := hb1.size; omega
  have s0 : (v1.alloc (.cells Z 26)).cell? ⟨w.heap.size, 0, none⟩ = some (.int .i64 a1_0) := by rw [World.cell?_alloc_lt _ _ _ (by show w.heap.size < v1.heap.size; omega)]; exact r0
  have s1 : (v1.alloc (.cells Z 26)).cell? ⟨w.heap.size, 1, none⟩ = some (.int .i64 a1_1) := by rw [World.cell?_alloc_lt _ _ _ (by show w.heap.size < v1.heap.size; omega)]; exact r1
  have hlo2 : lo = w.heap.size + 1 := by omega
  have HLO := Lib.hid hlo2
  obtain ⟨b, hb⟩ : ∃ b, v1.heap.size = b := ⟨_, rfl⟩
  rw [hb] at HS0 hlb ⊢
  clear hp hb1 HZ zv zi zb zs1 zs2 hZs hlo hlo2 hw1 r0 r1 hbel1
  go_loopw [7] (fun v7 wr => ∃ (i : Nat) (c : Int) (ws : List Nat), i ≤ m ∧ v7 = .int .i64 i ∧ Hid (PtL lo p g p b wr c ws) ∧ Below w.heap.size w wr ∧ wr.cell? ⟨w.heap.size, 0, none⟩ = some (.int .i64 a1_0) ∧ wr.cell? ⟨w.heap.size, 1, none⟩ = some (.int .i64 a1_1)) (fun i _ => m - (intOf i).toNat)
  case atStart => exact ⟨0, 0, _, by omega, rfl, HS0, hbx, s0, s1⟩
  case round =>
    clear HS0 hbx hb s0 s1
    obtain ⟨i, c, ws, him, rfl, HS, hbel, s0, s1⟩ := hrel
    by_cases hlt : i < m
    · obtain ⟨_, _, hin⟩ := HI.out
      rcases hin with h0 | ⟨rb, off, rfl, hrl, hrm, hrc⟩
      · exfalso; omega
      · have r0 := (hbel.cell hrl).trans (hrc (i * 3) (by omega))
        have r1 := (hbel.cell hrl).trans (hrc (i * 3 + 1) (by omega))
        have r2 := (hbel.cell hrl).trans (hrc (i * 3 + 2) (by omega))
        rw [← Nat.add_assoc] at r1 r2
        clear hrc
        have HIx := HI
        clear HI
        generalize z0.getD (i * 3) 0 = A0 at *
        generalize z0.getD (i * 3 + 1) 0 = A1 at *
        generalize z0.getD (i * 3 + 2) 0 = A2 at *
        have f1 := and1023 A1
        have f2 := and255 A2
        have f0 := and1 A0
        have s2 : A0 % 2 = 0 ∨ A0 % 2 = 1 := by omega
        obtain ⟨L, hL⟩ : ∃ L : Nat, A2 % 256 = L := ⟨(A2 % 256).toNat, by omega⟩
        obtain ⟨B, hB⟩ : ∃ B : Nat, A1 % 1024 = B := ⟨(A1 % 1024).toNat, by omega⟩
        have hL2 : L < 256 := by omega
        have hB2 : B < 1024 := by omega
        rw [hL] at f2; rw [hB] at f1
        clear hL hB
        generalize A0 % 2 = t at *
        have t1 : (i : Int) < len0 := by omega
        have t2 : (i : Int) < 40 := by omega
        obtain ⟨K, hK⟩ : ∃ K, min L (1024 - B) = K := ⟨_, rfl⟩
        have hKB : B + K ≤ 1024 := by omega
        have hmin : (if (1024 : Int) - (B : Int) < (L : Int) then (1024 : Int) - (B : Int) else (L : Int)) = (K : Int) := by split <;> omega
        clear hK
        go_upto_region 5 with (fail)
        go_cut [8] (fun v8 wx => ∃ h, v8 = .pointer (some ⟨h, 0, none⟩) ∧ Hid (PtL lo p g p b wx c ws) ∧ h ≠ b ∧ p < h ∧ w.heap.size < h ∧ h < wx.heap.size ∧ wx.cell? ⟨h, 0, none⟩ = some (.int .i64 B) ∧ wx.cell? ⟨h, 1, none⟩ = some (.int .i64 L) ∧ wx.frozen? ⟨h, 1, none⟩ = false ∧ Below w.heap.size w wx ∧ wx.cell? ⟨rb, off + i * 3, none⟩ = some (.int .i64 A0) ∧ wx.cell? ⟨w.heap.size, 0, none⟩ = some (.int .i64 a1_0) ∧ wx.cell? ⟨w.heap.size, 1, none⟩ = some (.int .i64 a1_1))
        case first =>
          have hbs := hbel.size
          have hbb := HS.out.2.1.1
          have hpb := HS.out.2.2.2.2.2
          have hws : w.heap.size < wr.heap.size := by omega
          have hrlw : rb < wr.heap.size := by omega
          go_region
          all_goals go_wp2
          all_goals
            go_meet
            refine ⟨wr.heap.size, rfl, Lib.hid (HS.out.grow ?_), by omega, by omega, hws, ?_, ?_, ?_, ?_, ?_, ?_, ?_, ?_⟩
            · exact (alc0 _ _).drew
            · simp
            · simp
            · simp
            · simp
            · exact (alc hbel _).drew
            · rw [World.cell?_drew, World.cell?_alloc_lt _ _ _ (by show rb < wr.heap.size; omega)]; exact r0
            · rw [World.cell?_drew, World.cell?_alloc_lt _ _ _ (by show w.heap.size < wr.heap.size; omega)]; exact s0
            · rw [World.cell?_drew, World.cell?_alloc_lt _ _ _ (by show w.heap.size < wr.heap.size; omega)]; exact s1
        case rest =>
          obtain ⟨h, rfl, HSc, hhb, hph, hwh, hhs, hc0, hc1, hcf, hbelc, r0c, s0c, s1c⟩ := hcut
          clear HS hbel r0 r1 r2 s0 s1
          go_upto_region 7 with (fail)
          have HSd : Hid (PtL lo p g p b (wc.setCell ⟨h, 1, none⟩ (.int .i64 K)) c ws) := Lib.hid (by
            obtain ⟨q1, q2, q3⟩ := HSc.out
            exact ⟨ptset_keep q1 hph, q2.keep (by rw [size_set]; exact Nat.le_refl _) (heap_other _ _ _ b (by intro e; exact hhb e.symm)), q3⟩)
          obtain ⟨P, hP⟩ : ∃ P : Bool, (t = 0 ∧ P = true) ∨ (t = 1 ∧ P = false) := by
            rcases s2 with h0 | h0
            · exact ⟨true, .inl ⟨h0, rfl⟩⟩
            · exact ⟨false, .inr ⟨h0, rfl⟩⟩
          have e1 : (wc.setCell ⟨h, 1, none⟩ (.int .i64 K)).cell? ⟨h, 1, none⟩ = some (.int .i64 K) := World.cell?_setCell_same _ _ _ hc1
          have e0 : (wc.setCell ⟨h, 1, none⟩ (.int .i64 K)).cell? ⟨h, 0, none⟩ = some (.int .i64 B) := by rw [World.cell?_setCell_other _ _ _ _ (by intro q; injection q with _ q; cases q)]; exact hc0
          have HCUT : ∀ q : Nat, Hid (PtL lo p g p b ((wc.setCell ⟨h, 1, none⟩ (.int .i64 K)).drewN q) c ws) := fun q => Lib.hid (HSd.out.grow (below_drewN (Below.refl _ _) q))
          go_cut [9, 10] (fun v9 v10 wx => v9 = .int .i64 0 ∧ v10 = .bool P ∧ Hid (PtL lo p g p b wx c ws) ∧ wx.cell? ⟨h, 0, none⟩ = some (.int .i64 B) ∧ wx.cell? ⟨h, 1, none⟩ = some (.int .i64 K) ∧ Below w.heap.size w wx ∧ wx.cell? ⟨w.heap.size, 0, none⟩ = some (.int .i64 a1_0) ∧ wx.cell? ⟨w.heap.size, 1, none⟩ = some (.int .i64 a1_1))
          case first =>
            have hrw : (⟨h, 1, none⟩ : Addr) ≠ ⟨w.heap.size, 0, none⟩ := by intro q; injection q with q; omega
            have hrw1 : (⟨h, 1, none⟩ : Addr) ≠ ⟨w.heap.size, 1, none⟩ := by intro q; injection q with q; omega
            have hrb : (⟨h, 1, none⟩ : Addr) ≠ ⟨rb, off + i * 3, none⟩ := by intro q; injection q with q; omega
            have r0d : (wc.setCell ⟨h, 1, none⟩ (.int .i64 K)).cell? ⟨rb, off + i * 3, none⟩ = some (.int .i64 A0) := by rw [World.cell?_setCell_other _ _ _ _ hrb]; exact r0c
            have s0d : (wc.setCell ⟨h, 1, none⟩ (.int .i64 K)).cell? ⟨w.heap.size, 0, none⟩ = some (.int .i64 a1_0) := by rw [World.cell?_setCell_other _ _ _ _ hrw]; exact s0c
            have s1d : (wc.setCell ⟨h, 1, none⟩ (.int .i64 K)).cell? ⟨w.heap.size, 1, none⟩ = some (.int .i64 a1_1) := by rw [World.cell?_setCell_other _ _ _ _ hrw1]; exact s1c
            have hbd : Below w.heap.size w (wc.setCell ⟨h, 1, none⟩ (.int .i64 K)) := hbelc.setCell (by show w.heap.size ≤ h; omega) _
            generalize wc.setCell ⟨h, 1, none⟩ (.int .i64 K) = wd at *
            clear s0c s1c r0c hbelc hc0 hc1 hcf HSc HSd
            rcases hP with ⟨rfl, rfl⟩ | ⟨rfl, rfl⟩
            all_goals
              go_quiet (fail)
              go_wp2_with fail
              go_meet
              exact ⟨rfl, rfl, HCUT _, by simpa using e0, by simpa using e1, below_drewN hbd _, by simpa using s0d, by simpa using s1d⟩
          case rest =>
            obtain ⟨rfl, rfl, HSe, d0, d1, hbele, s0, s1⟩ := hcut
            have hhe : True := trivial
            clear HCUT e0 e1 HSd HSc s0c s1c r0c hbelc hc0 hc1 hcf hP hhs
            have hpb := HSe.out.2.2.2.2.2
            have hse := HSe.out.1
            have hbw : w.heap.size < b := by have := hse.1.1; have := hse.2.1; have := HLO.out; omega
            have hwl : w.heap.size ≤ lo := by have := HLO.out; omega
            cases P
            · as_aux_lemma =>
              obtain ⟨HW1, HW2⟩ : Hid (0 ≤ newC false c (goN false ws (B / 16) (jk B K)).2 ∧ newC false c (goN false ws (B / 16) (jk B K)).2 ≤ 16384) ∧ Hid (∀ W2, PtIs lo p g p W2 (newC false c (goN false ws (B / 16) (jk B K)).2) (goN false ws (B / 16) (jk B K)).1 → ArrS b 64 W2 (goN false ws (B / 16) (jk B K)).1 → PtL lo p g p b W2 (newC false c (goN false ws (B / 16) (jk B K)).2) (goN false ws (B / 16) (jk B K)).1) := ⟨Lib.hid (HSe.out.went false hB2 hKB).1, Lib.hid (HSe.out.went false hB2 hKB).2⟩
              have h00 : goN false ws (B / 16) (jk B 0) = (ws, 0) := rfl
              go_wp2_with fail
              go_loopw [9, 11] (fun v9 v11 wx => ∃ k, k ≤ K ∧ v11 = .int .i64 (k : Nat) ∧ v9 = .int .i64 (goN false ws (B / 16) (jk B k)).2 ∧ Hid (PtIs lo p g p wx c ws ∧ ArrS b 64 wx (goN false ws (B / 16) (jk B k)).1) ∧ wx.cell? ⟨h, 0, none⟩ = some (.int .i64 B) ∧ wx.cell? ⟨h, 1, none⟩ = some (.int .i64 K) ∧ Below w.heap.size w wx ∧ wx.cell? ⟨w.heap.size, 0, none⟩ = some (.int .i64 a1_0) ∧ wx.cell? ⟨w.heap.size, 1, none⟩ = some (.int .i64 a1_1)) (fun _ v11 _ => K - (intOf v11).toNat)
              case atStart => exact ⟨0, by omega, rfl, by rw [h00], Lib.hid ⟨hse, by rw [h00]; exact HSe.out.2.1⟩, d0, d1, hbele, s0, s1⟩
              case round =>
                clear d0 d1 hbele hse s0 s1 h00
                obtain ⟨k, hk, rfl, rfl, HR, hc0, hc1, hbj, s0, s1⟩ := hrel
                have hdb := goN_bd false ws (B / 16) (jk B k)
                obtain ⟨d0, d1⟩ := hdb
                have hjb : jk B k ≤ 64 := by unfold jk; split <;> omega
                by_cases hkK : k < K
                · obtain ⟨q, hq⟩ : ∃ q, (B + k) / 16 = q := ⟨_, rfl⟩
                  have hq64 : q < 64 := by omega
                  have hnx := go_byte false (ws := ws) (B := B) (k := k) HSe.out.2.2.1 (by omega)
                  rw [hq] at hnx
                  obtain ⟨n1, n2⟩ := hnx
                  obtain ⟨k1, k2⟩ := HR.out.2.2 q hq64
                  obtain ⟨Bq, hBq⟩ : ∃ Bq, bitB (goN false ws (B / 16) (jk B k)).1 q = Bq := ⟨_, rfl⟩
                  rw [hBq] at k1 n2
                  have HN1 := Lib.hid n1; have HN2 := Lib.hid n2; have HBq := Lib.hid hBq
                  clear n1 n2 hBq
                  have l1 : (k : Int) < K := by omega
                  have g0 : (0 : Int) ≤ (B : Int) + k := by omega
                  have g1 : ((B : Int) + (k : Int)).tdiv 16 = (q : Int) := by rw [Int.tdiv_eq_ediv_of_nonneg (by omega)]; omega
                  have g2 : ((B : Int) + (k : Int)) / 16 = (q : Int) := by omega
                  have q0 : (0 : Int) ≤ (q : Int) := by omega
                  have q1 : (q : Int) < 64 := by omega
                  have q2 : (q : Int).toNat = q := Int.toNat_natCast q
                  clear hq
                  obtain ⟨D, hD⟩ : ∃ D, (goN false ws (B / 16) (jk B k)).2 = D := ⟨_, rfl⟩
                  rw [hD] at HN2 d0 d1 ⊢
                  clear hD
                  cases Bq
                  · go_wp2_with fail
                    go_roundw
                    case rel => exact ⟨k + 1, by omega, by go_num, by rw [HN2.out]; simp, Lib.hid ⟨HR.out.1, HR.out.2.same (fun y hy => by
                      rw [HN1.out]
                      by_cases e : q = y
                      · rw [if_pos e, ← e, HBq.out]
                      · rw [if_neg e])⟩, hc0, hc1, hbj, s0, s1⟩
                    case measure => simp [intOf]; omega
                  · have hbh : ∀ o, (⟨h, o, none⟩ : Addr) ≠ ⟨b, q, none⟩ := fun o e => hhb (by injection e)
                    have hbs : ∀ o, (⟨w.heap.size, o, none⟩ : Addr) ≠ ⟨b, q, none⟩ := fun o e => by injection e with e; omega
                    go_wp2_with fail
                    go_roundw
                    case rel => exact ⟨k + 1, by omega, by go_num, by rw [HN2.out]; go_num, Lib.hid ⟨ptset_keep HR.out.1 hpb, HR.out.2.set_ hq64 (by rw [HN1.out, if_pos rfl]) (fun y e => by rw [HN1.out, if_neg (fun q => e q.symm)])⟩, by rw [World.cell?_setCell_other _ _ _ _ (hbh 0).symm]; exact hc0, by rw [World.cell?_setCell_other _ _ _ _ (hbh 1).symm]; exact hc1, hbj.setCell (by show w.heap.size ≤ b; omega) _, by rw [World.cell?_setCell_other _ _ _ _ (hbs 0).symm]; exact s0, by rw [World.cell?_setCell_other _ _ _ _ (hbs 1).symm]; exact s1⟩
                    case measure => simp [intOf]; omega
                · obtain rfl : k = K := by omega
                  have HWR := Lib.hid (ptgo_clean (W := wr) (b := b) HR.out.1 hB2 hKB HW1.out)
                  obtain ⟨D, hD⟩ : ∃ D, (goN false ws (B / 16) (jk B k)).2 = D := ⟨_, rfl⟩
                  rw [hD] at HWR HW1 HW2 d0 d1 ⊢
                  clear hD
                  obtain ⟨V, hV⟩ : ∃ V, (goN false ws (B / 16) (jk B k)).1 = V := ⟨_, rfl⟩
                  rw [hV] at HWR HW2 HR
                  clear hV
                  have l1 : ¬ (k : Int) < k := by omega
                  go_wp2_with fail
                  refine HWR.out.mono ?_
                  rintro e v3 ⟨rfl, hp3, hb3, hr3, hs3⟩
                  have HSN := Lib.hid (HW2.out v3 hp3 (HR.out.2.keep hs3 (hr3 b hpb HR.out.2.1)))
                  have hbel3 := hbj.trans (hb3.mono hwl)
                  have s03 : v3.cell? ⟨w.heap.size, 0, none⟩ = some (.int .i64 a1_0) := by rw [hb3.cell (by show w.heap.size < lo; have := HLO.out; omega)]; exact s0
                  have s13 : v3.cell? ⟨w.heap.size, 1, none⟩ = some (.int .i64 a1_1) := by rw [hb3.cell (by show w.heap.size < lo; have := HLO.out; omega)]; exact s1
                  clear hp3 hb3 hr3
                  go_wp2_with fail
                  go_roundw
                  case rel => exact ⟨i + 1, _, _, by omega, by go_num, HSN, hbel3, s03, s13⟩
                  case measure => simp [intOf]; omega
            · as_aux_lemma =>
              obtain ⟨HW1, HW2⟩ : Hid (0 ≤ newC true c (goN true ws (B / 16) (jk B K)).2 ∧ newC true c (goN true ws (B / 16) (jk B K)).2 ≤ 16384) ∧ Hid (∀ W2, PtIs lo p g p W2 (newC true c (goN true ws (B / 16) (jk B K)).2) (goN true ws (B / 16) (jk B K)).1 → ArrS b 64 W2 (goN true ws (B / 16) (jk B K)).1 → PtL lo p g p b W2 (newC true c (goN true ws (B / 16) (jk B K)).2) (goN true ws (B / 16) (jk B K)).1) := ⟨Lib.hid (HSe.out.went true hB2 hKB).1, Lib.hid (HSe.out.went true hB2 hKB).2⟩
              have h00 : goN true ws (B / 16) (jk B 0) = (ws, 0) := rfl
              go_wp2_with fail
              go_loopw [9, 11] (fun v9 v11 wx => ∃ k, k ≤ K ∧ v11 = .int .i64 (k : Nat) ∧ v9 = .int .i64 (goN true ws (B / 16) (jk B k)).2 ∧ Hid (PtIs lo p g p wx c ws ∧ ArrS b 64 wx (goN true ws (B / 16) (jk B k)).1) ∧ wx.cell? ⟨h, 0, none⟩ = some (.int .i64 B) ∧ wx.cell? ⟨h, 1, none⟩ = some (.int .i64 K) ∧ Below w.heap.size w wx ∧ wx.cell? ⟨w.heap.size, 0, none⟩ = some (.int .i64 a1_0) ∧ wx.cell? ⟨w.heap.size, 1, none⟩ = some (.int .i64 a1_1)) (fun _ v11 _ => K - (intOf v11).toNat)
              case atStart => exact ⟨0, by omega, rfl, by rw [h00], Lib.hid ⟨hse, by rw [h00]; exact HSe.out.2.1⟩, d0, d1, hbele, s0, s1⟩
              case round =>
                clear d0 d1 hbele hse s0 s1 h00
                obtain ⟨k, hk, rfl, rfl, HR, hc0, hc1, hbj, s0, s1⟩ := hrel
                have hdb := goN_bd true ws (B / 16) (jk B k)
                obtain ⟨d0, d1⟩ := hdb
                have hjb : jk B k ≤ 64 := by unfold jk; split <;> omega
                by_cases hkK : k < K
                · obtain ⟨q, hq⟩ : ∃ q, (B + k) / 16 = q := ⟨_, rfl⟩
                  have hq64 : q < 64 := by omega
                  have hnx := go_byte true (ws := ws) (B := B) (k := k) HSe.out.2.2.1 (by omega)
                  rw [hq] at hnx
                  obtain ⟨n1, n2⟩ := hnx
                  obtain ⟨k1, k2⟩ := HR.out.2.2 q hq64
                  obtain ⟨Bq, hBq⟩ : ∃ Bq, bitB (goN true ws (B / 16) (jk B k)).1 q = Bq := ⟨_, rfl⟩
                  rw [hBq] at k1 n2
                  have HN1 := Lib.hid n1; have HN2 := Lib.hid n2; have HBq := Lib.hid hBq
                  clear n1 n2 hBq
                  have l1 : (k : Int) < K := by omega
                  have g0 : (0 : Int) ≤ (B : Int) + k := by omega
                  have g1 : ((B : Int) + (k : Int)).tdiv 16 = (q : Int) := by rw [Int.tdiv_eq_ediv_of_nonneg (by omega)]; omega
                  have g2 : ((B : Int) + (k : Int)) / 16 = (q : Int) := by omega
                  have q0 : (0 : Int) ≤ (q : Int) := by omega
                  have q1 : (q : Int) < 64 := by omega
                  have q2 : (q : Int).toNat = q := Int.toNat_natCast q
                  clear hq
                  obtain ⟨D, hD⟩ : ∃ D, (goN true ws (B / 16) (jk B k)).2 = D := ⟨_, rfl⟩
                  rw [hD] at HN2 d0 d1 ⊢
                  clear hD
                  cases Bq
                  · have hbh : ∀ o, (⟨h, o, none⟩ : Addr) ≠ ⟨b, q, none⟩ := fun o e => hhb (by injection e)
                    have hbs : ∀ o, (⟨w.heap.size, o, none⟩ : Addr) ≠ ⟨b, q, none⟩ := fun o e => by injection e with e; omega
                    go_wp2_with fail
                    go_roundw
                    case rel => exact ⟨k + 1, by omega, by go_num, by rw [HN2.out]; go_num, Lib.hid ⟨ptset_keep HR.out.1 hpb, HR.out.2.set_ hq64 (by rw [HN1.out, if_pos rfl]) (fun y e => by rw [HN1.out, if_neg (fun q => e q.symm)])⟩, by rw [World.cell?_setCell_other _ _ _ _ (hbh 0).symm]; exact hc0, by rw [World.cell?_setCell_other _ _ _ _ (hbh 1).symm]; exact hc1, hbj.setCell (by show w.heap.size ≤ b; omega) _, by rw [World.cell?_setCell_other _ _ _ _ (hbs 0).symm]; exact s0, by rw [World.cell?_setCell_other _ _ _ _ (hbs 1).symm]; exact s1⟩
                    case measure => simp [intOf]; omega
                  · go_wp2_with fail
                    go_roundw
                    case rel => exact ⟨k + 1, by omega, by go_num, by rw [HN2.out]; simp, Lib.hid ⟨HR.out.1, HR.out.2.same (fun y hy => by
                      rw [HN1.out]
                      by_cases e : q = y
                      · rw [if_pos e, ← e, HBq.out]
                      · rw [if_neg e])⟩, hc0, hc1, hbj, s0, s1⟩
                    case measure => simp [intOf]; omega
                · obtain rfl : k = K := by omega
                  have HWR := Lib.hid (ptgo_put (W := wr) (b := b) HR.out.1 hB2 hKB HW1.out)
                  obtain ⟨D, hD⟩ : ∃ D, (goN true ws (B / 16) (jk B k)).2 = D := ⟨_, rfl⟩
                  rw [hD] at HWR HW1 HW2 d0 d1 ⊢
                  clear hD
                  obtain ⟨V, hV⟩ : ∃ V, (goN true ws (B / 16) (jk B k)).1 = V := ⟨_, rfl⟩
                  rw [hV] at HWR HW2 HR
                  clear hV
                  have l1 : ¬ (k : Int) < k := by omega
                  go_wp2_with fail
                  refine HWR.out.mono ?_
                  rintro e v3 ⟨rfl, hp3, hb3, hr3, hs3⟩
                  have HSN := Lib.hid (HW2.out v3 hp3 (HR.out.2.keep hs3 (hr3 b hpb HR.out.2.1)))
                  have hbel3 := hbj.trans (hb3.mono hwl)
                  have s03 : v3.cell? ⟨w.heap.size, 0, none⟩ = some (.int .i64 a1_0) := by rw [hb3.cell (by show w.heap.size < lo; have := HLO.out; omega)]; exact s0
                  have s13 : v3.cell? ⟨w.heap.size, 1, none⟩ = some (.int .i64 a1_1) := by rw [hb3.cell (by show w.heap.size < lo; have := HLO.out; omega)]; exact s1
                  clear hp3 hb3 hr3
                  go_wp2_with fail
                  go_roundw
                  case rel => exact ⟨i + 1, _, _, by omega, by go_num, HSN, hbel3, s03, s13⟩
                  case measure => simp [intOf]; omega
    ·
      obtain rfl : i = m := by omega
      have hend : ¬ (i : Int) < len0 ∨ ((i : Int) < len0 ∧ ¬ (i : Int) < 40) := by omega
      go_upto_region 3 with (fail)
      go_cut [30] (fun v30 wx => v30 = .bool false ∧ wr = wx)
      case first =>
        rcases hend with hend | ⟨hend1, hend⟩
        all_goals
          go_wp2_with fail
          go_meet
          exact ⟨rfl, rfl⟩
      case rest =>
        obtain ⟨rfl, rfl⟩ := hcut
        clear hend
        as_aux_lemma =>
          have f1 := and1023 a1_0
          have f2 := and255 a1_1
          obtain ⟨L, hL⟩ : ∃ L : Nat, a1_1 % 256 = L := ⟨(a1_1 % 256).toNat, by omega⟩
          obtain ⟨B, hB⟩ : ∃ B : Nat, a1_0 % 1024 = B := ⟨(a1_0 % 1024).toNat, by omega⟩
          have hL2 : L < 256 := by omega
          have hB2 : B < 1024 := by omega
          rw [hL] at f2; rw [hB] at f1
          clear hL hB
          obtain ⟨K, hK⟩ : ∃ K, min L (1024 - B) = K := ⟨_, rfl⟩
          have hKB : B + K ≤ 1024 := by omega
          have hmin : (if (1024 : Int) - (B : Int) < (L : Int) then (1024 : Int) - (B : Int) else (L : Int)) = (K : Int) := by split <;> omega
          have hbs := hbel.size
          have hbb := HS.out.2.1.1
          have hpb := HS.out.2.2.2.2.2
          have hws : w.heap.size < wr.heap.size := by have := HLO.out; have := HS.out.1.1.1; omega
          clear hK
          obtain ⟨z, hz⟩ : ∃ z, decide (0 < K) = z := ⟨_, rfl⟩
          go_upto_region 22 with (fail)
          have HSa : ∀ q, Hid (PtL lo p g p b ((wr.alloc (.cells #[.int .i64 B, .int .i64 K] 29)).drewN q) c ws) := fun q => Lib.hid (HS.out.grow (below_drewN (alc0 _ _) q))
          have HBa : ∀ q, Below w.heap.size w ((wr.alloc (.cells #[.int .i64 B, .int .i64 K] 29)).drewN q) := fun q => below_drewN (alc hbel _) q
          go_cut [14, 15, 16] (fun v14 v15 v16 wx => v14 = .bool false ∧ v15 = .bool z ∧ v16 = .int .i64 0 ∧ Hid (PtL lo p g p b wx c ws) ∧ Below w.heap.size w wx ∧ wx.cell? ⟨wr.heap.size, 0, none⟩ = some (.int .i64 B) ∧ wx.cell? ⟨wr.heap.size, 1, none⟩ = some (.int .i64 K) ∧ wr.heap.size < wx.heap.size)
          case first =>
            go_quiet (fail)
            go_wp2_with fail
            go_meet
            exact ⟨rfl, rfl, rfl, HSa _, HBa _, by simp, by simp, by simp⟩
          case rest =>
            obtain ⟨rfl, rfl, rfl, HSc, hbelc, hc0, hc1, hhc⟩ := hcut
            obtain ⟨h, hh⟩ : ∃ h, wr.heap.size = h := ⟨_, rfl⟩
            rw [hh] at hc0 hc1 hhc hbb hws ⊢
            clear HSa HBa HS hbel s0 s1 hbs
            go_wp2_with fail
            go_loop [14, 15, 17] (fun v14 v15 v17 => ∃ k, k ≤ K ∧ v17 = .int .i64 (k : Nat) ∧ v14 = .bool (someK ws B k) ∧ v15 = .bool (allK ws B z k)) (fun _ _ v17 => K - (intOf v17).toNat)
            case atStart => exact ⟨0, by omega, rfl, rfl, rfl⟩
            case round =>
              obtain ⟨k, hk, rfl, rfl, rfl⟩ := hrel
              by_cases hkK : k < K
              · obtain ⟨q, hq⟩ : ∃ q, (B + k) / 16 = q := ⟨_, rfl⟩
                have hq64 : q < 64 := by omega
                obtain ⟨k1, k2⟩ := HSc.out.2.1.2 q hq64
                obtain ⟨Bq, hBq⟩ : ∃ Bq, bitB ws q = Bq := ⟨_, rfl⟩
                rw [hBq] at k1
                have n1 : someK ws B (k + 1) = (someK ws B k || Bq) := by rw [someK, hq, hBq]
                have n2 : allK ws B z (k + 1) = (allK ws B z k && Bq) := by rw [allK, hq, hBq]
                have HN1 := Lib.hid n1; have HN2 := Lib.hid n2
                clear n1 n2 hBq
                have l1 : (k : Int) < K := by omega
                have g0 : (0 : Int) ≤ (B : Int) + k := by omega
                have g1 : ((B : Int) + (k : Int)).tdiv 16 = (q : Int) := by rw [Int.tdiv_eq_ediv_of_nonneg (by omega)]; omega
                have g2 : ((B : Int) + (k : Int)) / 16 = (q : Int) := by omega
                have q0 : (0 : Int) ≤ (q : Int) := by omega
                have q1 : (q : Int) < 64 := by omega
                have q2 : (q : Int).toNat = q := Int.toNat_natCast q
                clear hq
                generalize someK ws B k = S1 at *
                generalize allK ws B z k = A1 at *
                cases S1 <;> cases A1
                all_goals
                  go_wp2_with fail
                  go_round
                  case rel => exact ⟨k + 1, by omega, by go_num, by rw [HN1.out]; rfl, by rw [HN2.out]; rfl⟩
                  case measure => simp [intOf]; omega
              · obtain rfl : k = K := by omega
                have HSM := Lib.hid (SomeR.bytes (ws := ws) hB2 hKB)
                have hzz : z = decide (0 < k) := hz.symm
                have HWH := Lib.hid (fun (W : World) (h : PtIs lo p g p W c ws) => by
                  have := ptwhole_b (ws := ws) h hB2 hKB
                  rw [← hzz] at this
                  exact this)
                obtain ⟨S1, hS1⟩ : ∃ S1, someK ws B k = S1 := ⟨_, rfl⟩
                obtain ⟨A1, hA1⟩ : ∃ A1, allK ws B z k = A1 := ⟨_, rfl⟩
                rw [hS1] at HSM ⊢
                rw [hA1] at HWH ⊢
                have l1 : ¬ (k : Int) < k := by omega
                obtain ⟨C, hC⟩ : ∃ C, cntB ws 64 = C := ⟨_, rfl⟩
                obtain rfl : c = (C : Int) := by rw [← hC]; exact HSc.out.2.2.2.1
                have HC := Lib.hid hC
                clear hC hS1 hA1 hzz hz
                go_wp2_with fail
                go_loopw [16, 18] (fun v16 v18 wx => ∃ X : Nat, X ≤ 64 ∧ v18 = .int .i64 (X : Nat) ∧ v16 = .int .i64 (cntB ws X : Nat) ∧ Hid (PtL lo p g p b wx C ws) ∧ Below w.heap.size w wx ∧ wx.cell? ⟨h, 0, none⟩ = some (.int .i64 B) ∧ wx.cell? ⟨h, 1, none⟩ = some (.int .i64 k) ∧ h < wx.heap.size) (fun _ v18 _ => 64 - (intOf v18).toNat)
                case atStart => exact ⟨0, by omega, rfl, rfl, HSc, hbelc, hc0, hc1, hhc⟩
                case round =>
                  clear HSc hbelc hc0 hc1 hhc
                  obtain ⟨X, hX, rfl, rfl, HSx, hbelx, hx0, hx1, hhx⟩ := hrel
                  by_cases hX0 : X < 64
                  · obtain ⟨k1, k2⟩ := HSx.out.2.1.2 X hX0
                    obtain ⟨Bx, hBx⟩ : ∃ Bx, bitB ws X = Bx := ⟨_, rfl⟩
                    rw [hBx] at k1
                    have hnx : cntB ws (X + 1) = cntB ws X + (if Bx then 1 else 0) := by rw [cntB, hBx]
                    have HNX := Lib.hid hnx
                    have hle := cntB_le ws X
                    have hbx : b < wr.heap.size := HSx.out.2.1.1
                    have HH := Lib.hid (fun (W : World) (hb : Below wr.heap.size wr W) (x : Int) (hx : x = 16 * X ∨ x = 16 * X + 15) => pthas_at (W := W) Bx X x (HSx.out.1.below hb HSx.out.1.2.1.2 hb.size) hX0 hx hBx (T.out.later (hbelx.trans (hb.mono hbelx.size))))
                    have y0 : (0 : Int) ≤ (X : Int) := by omega
                    have y1 : (X : Int) < 64 := by omega
                    have y2 : (X : Int).toNat = X := Int.toNat_natCast X
                    have y3 : IntKind.i64.wrap (16 * (X : Int)) = 16 * X := IntWalk.i64_in _ (by omega)
                    have y4 : IntKind.i64.wrap (16 * (X : Int) + 15) = 16 * X + 15 := IntWalk.i64_in _ (by omega)
                    clear hBx hnx
                    obtain ⟨Cx, hCx⟩ : ∃ Cx, cntB ws X = Cx := ⟨_, rfl⟩
                    rw [hCx] at hle HNX ⊢
                    clear hCx
                    cases Bx
                    · go_upto_region 33 with (fail)
                      refine wp_region_held_drew (S := fun w' => w'.cell? ⟨b, X, none⟩ = some (.bool false) ∧ Below wr.heap.size wr w') (by kernel_rfl) ?_ (fun hHeld => ?_)
                      · exact ⟨by first | exact k1 | (go_keep; done), (Below.refl _ _).drew⟩
                      refine wpAnyH_take (i := 0) (v := ?_) rfl (by kernel_rfl) (by kernel_rfl) (by kernel_rfl) (fun _ _ _ h => h) (Or.inl ⟨by kernel_rfl, ?_⟩) (by assumption) ?_
                      rotate_left
                      · (intro w hSw; (try dsimp only at hSw); go_simp)
                        try (with_reducible rfl)
                      rotate_left
                      try simp (maxSteps := 4000000) only [Act.put, List.setIfInBounds_toArray, List.set_cons_zero, List.set_cons_succ, List.getElem_toArray, List.getElem_cons_zero, List.getElem_cons_succ]
                      refine wpAnyH_take (i := 1) (v := ?_) rfl (by kernel_rfl) (by kernel_rfl) (by kernel_rfl) (fun _ _ _ h => h) (Or.inl ⟨by kernel_rfl, ?_⟩) (by assumption) ?_
                      rotate_left
                      · (intro w hSw; (try dsimp only at hSw); go_simp)
                        try (with_reducible rfl)
                      rotate_left
                      try simp (maxSteps := 4000000) only [Act.put, List.setIfInBounds_toArray, List.set_cons_zero, List.set_cons_succ, List.getElem_toArray, List.getElem_cons_zero, List.getElem_cons_succ]
                      refine wpAnyH_take (i := 2) (v := ?_) rfl (by kernel_rfl) (by kernel_rfl) (by kernel_rfl) (fun _ _ _ h => h) (Or.inl ⟨by kernel_rfl, ?_⟩) (by assumption) ?_
                      rotate_left
                      · (intro w hSw; (try dsimp only at hSw); go_simp)
                        try (with_reducible rfl)
                      rotate_left
                      try simp (maxSteps := 4000000) only [Act.put, List.setIfInBounds_toArray, List.set_cons_zero, List.set_cons_succ, List.getElem_toArray, List.getElem_cons_zero, List.getElem_cons_succ]
                      refine wpAnyH_take (i := 4) (v := ?_) rfl (by kernel_rfl) (by kernel_rfl) (by kernel_rfl) (fun _ _ _ h => h) (Or.inl ⟨by kernel_rfl, ?_⟩) (by assumption) ?_
                      rotate_left
                      · (intro w hSw; (try dsimp only at hSw); go_simp)
                        try (with_reducible rfl)
                      rotate_left
                      try simp (maxSteps := 4000000) only [Act.put, List.setIfInBounds_toArray, List.set_cons_zero, List.set_cons_succ, List.getElem_toArray, List.getElem_cons_zero, List.getElem_cons_succ]
                      refine wpAnyH_take (i := 5) (v := ?_) rfl (by kernel_rfl) (by kernel_rfl) (by kernel_rfl) (fun _ _ _ h => h) (Or.inl ⟨by kernel_rfl, ?_⟩) (by assumption) ?_
                      rotate_left
                      · (intro w hSw; (try dsimp only at hSw); go_simp)
                        try (with_reducible rfl)
                      rotate_left
                      try simp (maxSteps := 4000000) only [Act.put, List.setIfInBounds_toArray, List.set_cons_zero, List.set_cons_succ, List.getElem_toArray, List.getElem_cons_zero, List.getElem_cons_succ]
                      refine wpAnyH_take (i := 6) (v := ?_) rfl (by kernel_rfl) (by kernel_rfl) (by kernel_rfl) (fun _ _ _ h => h) (Or.inl ⟨by kernel_rfl, ?_⟩) (by assumption) ?_
                      rotate_left
                      · (intro w hSw; (try dsimp only at hSw); go_simp)
                        try (with_reducible rfl)
                      rotate_left
                      try simp (maxSteps := 4000000) only [Act.put, List.setIfInBounds_toArray, List.set_cons_zero, List.set_cons_succ, List.getElem_toArray, List.getElem_cons_zero, List.getElem_cons_succ]
                      refine wpAnyH_ready (rs := [3]) (by kernel_rfl) (by simp) ?_
                      refine AllReadyH.cons rfl (fun K2 hK2 => ?_) AllReadyH.nil
                      go_simp
                      refine (HH.out _ hHeld.2 (16 * (X : Int)) (.inl rfl)).mono ?_
                      rintro e w9 ⟨rfl, hb⟩
                      refine hK2.out _ _ ?_ (fun hHeld2 => ?_)
                      · exact ⟨(hb.cell (Nat.lt_of_lt_of_le hbx hHeld.2.size)).trans hHeld.1, hHeld.2.trans (hb.mono hHeld.2.size)⟩
                      clear hK2 K2 hHeld
                      have hHeld := hHeld2
                      clear hHeld2
                      try simp (maxSteps := 4000000) only [Act.put, List.setIfInBounds_toArray, List.set_cons_zero, List.set_cons_succ, List.getElem_toArray, List.getElem_cons_zero, List.getElem_cons_succ]
                      refine wpAnyH_take (i := 7) (v := ?_) rfl (by kernel_rfl) (by kernel_rfl) (by kernel_rfl) (fun _ _ _ h => h) (Or.inl ⟨by kernel_rfl, ?_⟩) (by assumption) ?_
                      rotate_left
                      · (intro w hSw; (try dsimp only at hSw); go_simp)
                        try (with_reducible rfl)
                      rotate_left
                      try simp (maxSteps := 4000000) only [Act.put, List.setIfInBounds_toArray, List.set_cons_zero, List.set_cons_succ, List.getElem_toArray, List.getElem_cons_zero, List.getElem_cons_succ]
                      refine wpAnyH_take (i := 8) (v := ?_) rfl (by kernel_rfl) (by kernel_rfl) (by kernel_rfl) (fun _ _ _ h => h) (Or.inl ⟨by kernel_rfl, ?_⟩) (by assumption) ?_
                      rotate_left
                      · (intro w hSw; (try dsimp only at hSw); go_simp)
                        try (with_reducible rfl)
                      rotate_left
                      try simp (maxSteps := 4000000) only [Act.put, List.setIfInBounds_toArray, List.set_cons_zero, List.set_cons_succ, List.getElem_toArray, List.getElem_cons_zero, List.getElem_cons_succ]
                      refine wpAnyH_take (i := 9) (v := ?_) rfl (by kernel_rfl) (by kernel_rfl) (by kernel_rfl) (fun _ _ _ h => h) (Or.inl ⟨by kernel_rfl, ?_⟩) (by assumption) ?_
                      rotate_left
                      · (intro w hSw; (try dsimp only at hSw); go_simp)
                        try (with_reducible rfl)
                      rotate_left
                      try simp (maxSteps := 4000000) only [Act.put, List.setIfInBounds_toArray, List.set_cons_zero, List.set_cons_succ, List.getElem_toArray, List.getElem_cons_zero, List.getElem_cons_succ]
                      refine wpAnyH_take (i := 10) (v := ?_) rfl (by kernel_rfl) (by kernel_rfl) (by kernel_rfl) (fun _ _ _ h => h) (Or.inl ⟨by kernel_rfl, ?_⟩) (by assumption) ?_
                      rotate_left
                      · (intro w hSw; (try dsimp only at hSw); go_simp)
                        try (with_reducible rfl)
                      rotate_left
                      try simp (maxSteps := 4000000) only [Act.put, List.setIfInBounds_toArray, List.set_cons_zero, List.set_cons_succ, List.getElem_toArray, List.getElem_cons_zero, List.getElem_cons_succ]
                      refine wpAnyH_take (i := 11) (v := ?_) rfl (by kernel_rfl) (by kernel_rfl) (by kernel_rfl) (fun _ _ _ h => h) (Or.inl ⟨by kernel_rfl, ?_⟩) (by assumption) ?_
                      rotate_left
                      · (intro w hSw; (try dsimp only at hSw); go_simp)
                        try (with_reducible rfl)
                      rotate_left
                      try simp (maxSteps := 4000000) only [Act.put, List.setIfInBounds_toArray, List.set_cons_zero, List.set_cons_succ, List.getElem_toArray, List.getElem_cons_zero, List.getElem_cons_succ]
                      refine wpAnyH_take (i := 12) (v := ?_) rfl (by kernel_rfl) (by kernel_rfl) (by kernel_rfl) (fun _ _ _ h => h) (Or.inl ⟨by kernel_rfl, ?_⟩) (by assumption) ?_
                      rotate_left
                      · (intro w hSw; (try dsimp only at hSw); go_simp)
                        try (with_reducible rfl)
                      rotate_left
                      try simp (maxSteps := 4000000) only [Act.put, List.setIfInBounds_toArray, List.set_cons_zero, List.set_cons_succ, List.getElem_toArray, List.getElem_cons_zero, List.getElem_cons_succ]
                      refine wpAnyH_take (i := 14) (v := ?_) rfl (by kernel_rfl) (by kernel_rfl) (by kernel_rfl) (fun _ _ _ h => h) (Or.inl ⟨by kernel_rfl, ?_⟩) (by assumption) ?_
                      rotate_left
                      · (intro w hSw; (try dsimp only at hSw); go_simp)
                        try (with_reducible rfl)
                      rotate_left
                      try simp (maxSteps := 4000000) only [Act.put, List.setIfInBounds_toArray, List.set_cons_zero, List.set_cons_succ, List.getElem_toArray, List.getElem_cons_zero, List.getElem_cons_succ]
                      refine wpAnyH_take (i := 15) (v := ?_) rfl (by kernel_rfl) (by kernel_rfl) (by kernel_rfl) (fun _ _ _ h => h) (Or.inl ⟨by kernel_rfl, ?_⟩) (by assumption) ?_
                      rotate_left
                      · (intro w hSw; (try dsimp only at hSw); go_simp)
                        try (with_reducible rfl)
                      rotate_left
                      try simp (maxSteps := 4000000) only [Act.put, List.setIfInBounds_toArray, List.set_cons_zero, List.set_cons_succ, List.getElem_toArray, List.getElem_cons_zero, List.getElem_cons_succ]
                      refine wpAnyH_take (i := 16) (v := ?_) rfl (by kernel_rfl) (by kernel_rfl) (by kernel_rfl) (fun _ _ _ h => h) (Or.inl ⟨by kernel_rfl, ?_⟩) (by assumption) ?_
                      rotate_left
                      · (intro w hSw; (try dsimp only at hSw); go_simp)
                        try (with_reducible rfl)
                      rotate_left
                      try simp (maxSteps := 4000000) only [Act.put, List.setIfInBounds_toArray, List.set_cons_zero, List.set_cons_succ, List.getElem_toArray, List.getElem_cons_zero, List.getElem_cons_succ]
                      refine wpAnyH_ready (rs := [13]) (by kernel_rfl) (by simp) ?_
                      refine AllReadyH.cons rfl (fun K2 hK2 => ?_) AllReadyH.nil
                      go_simp
                      refine (HH.out _ hHeld.2 (16 * (X : Int) + 15) (.inr rfl)).mono ?_
                      rintro e w9 ⟨rfl, hb⟩
                      refine hK2.out _ _ ?_ (fun hHeld2 => ?_)
                      · exact ⟨(hb.cell (Nat.lt_of_lt_of_le hbx hHeld.2.size)).trans hHeld.1, hHeld.2.trans (hb.mono hHeld.2.size)⟩
                      clear hK2 K2 hHeld
                      have hHeld := hHeld2
                      clear hHeld2
                      try simp (maxSteps := 4000000) only [Act.put, List.setIfInBounds_toArray, List.set_cons_zero, List.set_cons_succ, List.getElem_toArray, List.getElem_cons_zero, List.getElem_cons_succ]
                      refine wpAnyH_take (i := 17) (v := ?_) rfl (by kernel_rfl) (by kernel_rfl) (by kernel_rfl) (fun _ _ _ h => h) (Or.inl ⟨by kernel_rfl, ?_⟩) (by assumption) ?_
                      rotate_left
                      · (intro w hSw; (try dsimp only at hSw); go_simp)
                        try (with_reducible rfl)
                      rotate_left
                      try simp (maxSteps := 4000000) only [Act.put, List.setIfInBounds_toArray, List.set_cons_zero, List.set_cons_succ, List.getElem_toArray, List.getElem_cons_zero, List.getElem_cons_succ]
                      refine wpAnyH_take (i := 18) (v := ?_) rfl (by kernel_rfl) (by kernel_rfl) (by kernel_rfl) (fun _ _ _ h => h) (Or.inl ⟨by kernel_rfl, ?_⟩) (by assumption) ?_
                      rotate_left
                      · (intro w hSw; (try dsimp only at hSw); go_simp)
                        try (with_reducible rfl)
                      rotate_left
                      try simp (maxSteps := 4000000) only [Act.put, List.setIfInBounds_toArray, List.set_cons_zero, List.set_cons_succ, List.getElem_toArray, List.getElem_cons_zero, List.getElem_cons_succ]
                      refine wpAnyH_done (by kernel_rfl) ?_ _
                      have HSn := Lib.hid (HSx.out.grow hHeld.2)
                      have hbeln := hbelx.trans (hHeld.2.mono hbelx.size)
                      have n0 := (hHeld.2.cell (p := ⟨h, 0, none⟩) hhx).trans hx0
                      have n1 := (hHeld.2.cell (p := ⟨h, 1, none⟩) hhx).trans hx1
                      have n2 := Nat.lt_of_lt_of_le hhx hHeld.2.size
                      clear hHeld
                      go_wp2_with fail
                      go_roundw
                      case rel => exact ⟨X + 1, by omega, by go_num, by rw [HNX.out] <;> go_num, HSn, hbeln, n0, n1, n2⟩
                      case measure => simp [intOf]; omega
                    · go_upto_region 33 with (fail)
                      refine wp_region_held_drew (S := fun w' => w'.cell? ⟨b, X, none⟩ = some (.bool true) ∧ Below wr.heap.size wr w') (by kernel_rfl) ?_ (fun hHeld => ?_)
                      · exact ⟨by first | exact k1 | (go_keep; done), (Below.refl _ _).drew⟩
                      refine wpAnyH_take (i := 0) (v := ?_) rfl (by kernel_rfl) (by kernel_rfl) (by kernel_rfl) (fun _ _ _ h => h) (Or.inl ⟨by kernel_rfl, ?_⟩) (by assumption) ?_
                      rotate_left
                      · (intro w hSw; (try dsimp only at hSw); go_simp)
                        try (with_reducible rfl)
                      rotate_left
                      try simp (maxSteps := 4000000) only [Act.put, List.setIfInBounds_toArray, List.set_cons_zero, List.set_cons_succ, List.getElem_toArray, List.getElem_cons_zero, List.getElem_cons_succ]
                      refine wpAnyH_take (i := 1) (v := ?_) rfl (by kernel_rfl) (by kernel_rfl) (by kernel_rfl) (fun _ _ _ h => h) (Or.inl ⟨by kernel_rfl, ?_⟩) (by assumption) ?_
                      rotate_left
                      · (intro w hSw; (try dsimp only at hSw); go_simp)
                        try (with_reducible rfl)
                      rotate_left
                      try simp (maxSteps := 4000000) only [Act.put, List.setIfInBounds_toArray, List.set_cons_zero, List.set_cons_succ, List.getElem_toArray, List.getElem_cons_zero, List.getElem_cons_succ]
                      refine wpAnyH_take (i := 2) (v := ?_) rfl (by kernel_rfl) (by kernel_rfl) (by kernel_rfl) (fun _ _ _ h => h) (Or.inl ⟨by kernel_rfl, ?_⟩) (by assumption) ?_
                      rotate_left
                      · (intro w hSw; (try dsimp only at hSw); go_simp)
                        try (with_reducible rfl)
                      rotate_left
                      try simp (maxSteps := 4000000) only [Act.put, List.setIfInBounds_toArray, List.set_cons_zero, List.set_cons_succ, List.getElem_toArray, List.getElem_cons_zero, List.getElem_cons_succ]
                      refine wpAnyH_take (i := 4) (v := ?_) rfl (by kernel_rfl) (by kernel_rfl) (by kernel_rfl) (fun _ _ _ h => h) (Or.inl ⟨by kernel_rfl, ?_⟩) (by assumption) ?_
                      rotate_left
                      · (intro w hSw; (try dsimp only at hSw); go_simp)
                        try (with_reducible rfl)
                      rotate_left
                      try simp (maxSteps := 4000000) only [Act.put, List.setIfInBounds_toArray, List.set_cons_zero, List.set_cons_succ, List.getElem_toArray, List.getElem_cons_zero, List.getElem_cons_succ]
                      refine wpAnyH_take (i := 5) (v := ?_) rfl (by kernel_rfl) (by kernel_rfl) (by kernel_rfl) (fun _ _ _ h => h) (Or.inl ⟨by kernel_rfl, ?_⟩) (by assumption) ?_
                      rotate_left
                      · (intro w hSw; (try dsimp only at hSw); go_simp)
                        try (with_reducible rfl)
                      rotate_left
                      try simp (maxSteps := 4000000) only [Act.put, List.setIfInBounds_toArray, List.set_cons_zero, List.set_cons_succ, List.getElem_toArray, List.getElem_cons_zero, List.getElem_cons_succ]
                      refine wpAnyH_take (i := 6) (v := ?_) rfl (by kernel_rfl) (by kernel_rfl) (by kernel_rfl) (fun _ _ _ h => h) (Or.inl ⟨by kernel_rfl, ?_⟩) (by assumption) ?_
                      rotate_left
                      · (intro w hSw; (try dsimp only at hSw); go_simp)
                        try (with_reducible rfl)
                      rotate_left
                      try simp (maxSteps := 4000000) only [Act.put, List.setIfInBounds_toArray, List.set_cons_zero, List.set_cons_succ, List.getElem_toArray, List.getElem_cons_zero, List.getElem_cons_succ]
                      refine wpAnyH_ready (rs := [3]) (by kernel_rfl) (by simp) ?_
                      refine AllReadyH.cons rfl (fun K2 hK2 => ?_) AllReadyH.nil
                      go_simp
                      refine (HH.out _ hHeld.2 (16 * (X : Int)) (.inl rfl)).mono ?_
                      rintro e w9 ⟨rfl, hb⟩
                      refine hK2.out _ _ ?_ (fun hHeld2 => ?_)
                      · exact ⟨(hb.cell (Nat.lt_of_lt_of_le hbx hHeld.2.size)).trans hHeld.1, hHeld.2.trans (hb.mono hHeld.2.size)⟩
                      clear hK2 K2 hHeld
                      have hHeld := hHeld2
                      clear hHeld2
                      try simp (maxSteps := 4000000) only [Act.put, List.setIfInBounds_toArray, List.set_cons_zero, List.set_cons_succ, List.getElem_toArray, List.getElem_cons_zero, List.getElem_cons_succ]
                      refine wpAnyH_take (i := 7) (v := ?_) rfl (by kernel_rfl) (by kernel_rfl) (by kernel_rfl) (fun _ _ _ h => h) (Or.inl ⟨by kernel_rfl, ?_⟩) (by assumption) ?_
                      rotate_left
                      · (intro w hSw; (try dsimp only at hSw); go_simp)
                        try (with_reducible rfl)
                      rotate_left
                      try simp (maxSteps := 4000000) only [Act.put, List.setIfInBounds_toArray, List.set_cons_zero, List.set_cons_succ, List.getElem_toArray, List.getElem_cons_zero, List.getElem_cons_succ]
                      refine wpAnyH_take (i := 8) (v := ?_) rfl (by kernel_rfl) (by kernel_rfl) (by kernel_rfl) (fun _ _ _ h => h) (Or.inl ⟨by kernel_rfl, ?_⟩) (by assumption) ?_
                      rotate_left
                      · (intro w hSw; (try dsimp only at hSw); go_simp)
                        try (with_reducible rfl)
                      rotate_left
                      try simp (maxSteps := 4000000) only [Act.put, List.setIfInBounds_toArray, List.set_cons_zero, List.set_cons_succ, List.getElem_toArray, List.getElem_cons_zero, List.getElem_cons_succ]
                      refine wpAnyH_take (i := 9) (v := ?_) rfl (by kernel_rfl) (by kernel_rfl) (by kernel_rfl) (fun _ _ _ h => h) (Or.inl ⟨by kernel_rfl, ?_⟩) (by assumption) ?_
                      rotate_left
                      · (intro w hSw; (try dsimp only at hSw); go_simp)
                        try (with_reducible rfl)
                      rotate_left
                      try simp (maxSteps := 4000000) only [Act.put, List.setIfInBounds_toArray, List.set_cons_zero, List.set_cons_succ, List.getElem_toArray, List.getElem_cons_zero, List.getElem_cons_succ]
                      refine wpAnyH_take (i := 10) (v := ?_) rfl (by kernel_rfl) (by kernel_rfl) (by kernel_rfl) (fun _ _ _ h => h) (Or.inl ⟨by kernel_rfl, ?_⟩) (by assumption) ?_
                      rotate_left
                      · (intro w hSw; (try dsimp only at hSw); go_simp)
                        try (with_reducible rfl)
                      rotate_left
                      try simp (maxSteps := 4000000) only [Act.put, List.setIfInBounds_toArray, List.set_cons_zero, List.set_cons_succ, List.getElem_toArray, List.getElem_cons_zero, List.getElem_cons_succ]
                      refine wpAnyH_take (i := 11) (v := ?_) rfl (by kernel_rfl) (by kernel_rfl) (by kernel_rfl) (fun _ _ _ h => h) (Or.inl ⟨by kernel_rfl, ?_⟩) (by assumption) ?_
                      rotate_left
                      · (intro w hSw; (try dsimp only at hSw); go_simp)
                        try (with_reducible rfl)
                      rotate_left
                      try simp (maxSteps := 4000000) only [Act.put, List.setIfInBounds_toArray, List.set_cons_zero, List.set_cons_succ, List.getElem_toArray, List.getElem_cons_zero, List.getElem_cons_succ]
                      refine wpAnyH_take (i := 12) (v := ?_) rfl (by kernel_rfl) (by kernel_rfl) (by kernel_rfl) (fun _ _ _ h => h) (Or.inl ⟨by kernel_rfl, ?_⟩) (by assumption) ?_
                      rotate_left
                      · (intro w hSw; (try dsimp only at hSw); go_simp)
                        try (with_reducible rfl)
                      rotate_left
                      try simp (maxSteps := 4000000) only [Act.put, List.setIfInBounds_toArray, List.set_cons_zero, List.set_cons_succ, List.getElem_toArray, List.getElem_cons_zero, List.getElem_cons_succ]
                      refine wpAnyH_take (i := 14) (v := ?_) rfl (by kernel_rfl) (by kernel_rfl) (by kernel_rfl) (fun _ _ _ h => h) (Or.inl ⟨by kernel_rfl, ?_⟩) (by assumption) ?_
                      rotate_left
                      · (intro w hSw; (try dsimp only at hSw); go_simp)
                        try (with_reducible rfl)
                      rotate_left
                      try simp (maxSteps := 4000000) only [Act.put, List.setIfInBounds_toArray, List.set_cons_zero, List.set_cons_succ, List.getElem_toArray, List.getElem_cons_zero, List.getElem_cons_succ]
                      refine wpAnyH_take (i := 15) (v := ?_) rfl (by kernel_rfl) (by kernel_rfl) (by kernel_rfl) (fun _ _ _ h => h) (Or.inl ⟨by kernel_rfl, ?_⟩) (by assumption) ?_
                      rotate_left
                      · (intro w hSw; (try dsimp only at hSw); go_simp)
                        try (with_reducible rfl)
                      rotate_left
                      try simp (maxSteps := 4000000) only [Act.put, List.setIfInBounds_toArray, List.set_cons_zero, List.set_cons_succ, List.getElem_toArray, List.getElem_cons_zero, List.getElem_cons_succ]
                      refine wpAnyH_take (i := 16) (v := ?_) rfl (by kernel_rfl) (by kernel_rfl) (by kernel_rfl) (fun _ _ _ h => h) (Or.inl ⟨by kernel_rfl, ?_⟩) (by assumption) ?_
                      rotate_left
                      · (intro w hSw; (try dsimp only at hSw); go_simp)
                        try (with_reducible rfl)
                      rotate_left
                      try simp (maxSteps := 4000000) only [Act.put, List.setIfInBounds_toArray, List.set_cons_zero, List.set_cons_succ, List.getElem_toArray, List.getElem_cons_zero, List.getElem_cons_succ]
                      refine wpAnyH_ready (rs := [13]) (by kernel_rfl) (by simp) ?_
                      refine AllReadyH.cons rfl (fun K2 hK2 => ?_) AllReadyH.nil
                      go_simp
                      refine (HH.out _ hHeld.2 (16 * (X : Int) + 15) (.inr rfl)).mono ?_
                      rintro e w9 ⟨rfl, hb⟩
                      refine hK2.out _ _ ?_ (fun hHeld2 => ?_)
                      · exact ⟨(hb.cell (Nat.lt_of_lt_of_le hbx hHeld.2.size)).trans hHeld.1, hHeld.2.trans (hb.mono hHeld.2.size)⟩
                      clear hK2 K2 hHeld
                      have hHeld := hHeld2
                      clear hHeld2
                      try simp (maxSteps := 4000000) only [Act.put, List.setIfInBounds_toArray, List.set_cons_zero, List.set_cons_succ, List.getElem_toArray, List.getElem_cons_zero, List.getElem_cons_succ]
                      refine wpAnyH_take (i := 17) (v := ?_) rfl (by kernel_rfl) (by kernel_rfl) (by kernel_rfl) (fun _ _ _ h => h) (Or.inl ⟨by kernel_rfl, ?_⟩) (by assumption) ?_
                      rotate_left
                      · (intro w hSw; (try dsimp only at hSw); go_simp)
                        try (with_reducible rfl)
                      rotate_left
                      try simp (maxSteps := 4000000) only [Act.put, List.setIfInBounds_toArray, List.set_cons_zero, List.set_cons_succ, List.getElem_toArray, List.getElem_cons_zero, List.getElem_cons_succ]
                      refine wpAnyH_take (i := 18) (v := ?_) rfl (by kernel_rfl) (by kernel_rfl) (by kernel_rfl) (fun _ _ _ h => h) (Or.inl ⟨by kernel_rfl, ?_⟩) (by assumption) ?_
                      rotate_left
                      · (intro w hSw; (try dsimp only at hSw); go_simp)
                        try (with_reducible rfl)
                      rotate_left
                      try simp (maxSteps := 4000000) only [Act.put, List.setIfInBounds_toArray, List.set_cons_zero, List.set_cons_succ, List.getElem_toArray, List.getElem_cons_zero, List.getElem_cons_succ]
                      refine wpAnyH_done (by kernel_rfl) ?_ _
                      have HSn := Lib.hid (HSx.out.grow hHeld.2)
                      have hbeln := hbelx.trans (hHeld.2.mono hbelx.size)
                      have n0 := (hHeld.2.cell (p := ⟨h, 0, none⟩) hhx).trans hx0
                      have n1 := (hHeld.2.cell (p := ⟨h, 1, none⟩) hhx).trans hx1
                      have n2 := Nat.lt_of_lt_of_le hhx hHeld.2.size
                      clear hHeld
                      go_wp2_with fail
                      go_roundw
                      case rel => exact ⟨X + 1, by omega, by go_num, by rw [HNX.out] <;> go_num, HSn, hbeln, n0, n1, n2⟩
                      case measure => simp [intOf]; omega
                  · as_aux_lemma =>
                      obtain rfl : X = 64 := by omega
                      have hlen := HSx.out.2.2.1
                      have hcc := HSx.out.2.2.2.1
                      have HLC := Lib.hid (And.intro hlen hcc)
                      clear hlen hcc
                      rw [HC.out]
                      go_wp2_with fail
                      refine (pttwin HSx.out.1).mono ?_
                      rintro e v2 ⟨g2, p2, rfl, hp2, hb2⟩
                      have HP2 := Lib.hid hp2
                      have HB2 := Lib.hid hb2
                      clear hp2 hb2
                      go_wp2_with fail
                      refine (ptput_all HP2.out HLC.out.1 HLC.out.2).mono ?_
                      rintro e v3 ⟨vv, ws', rfl, hp3, hb3, hr3, hs3⟩
                      have HBB := HB2.out.trans hb3
                      have HE := Lib.hid (show PEnd lo p g _ p2 g2 h B k C ws ws' w v3 from ⟨HSx.out.1.below HBB HSx.out.1.2.1.2 HBB.size, hp3, hbelx.trans (HBB.mono hbelx.size), ⟨(HBB.cell hhx).trans hx0, (HBB.cell hhx).trans hx1⟩, Nat.lt_of_lt_of_le hhx HBB.size⟩)
                      clear hp3 hb3 hr3 hs3 HBB HB2 HP2 HSx hbelx hx0 hx1 hhx
                      obtain ⟨lo2, hlo2⟩ : ∃ lo2, wr.heap.size = lo2 := ⟨_, rfl⟩
                      rw [hlo2] at HE
                      clear hlo2
                      obtain ⟨k0, k1⟩ := HE.out.2.2.2.1
                      go_wp2_with fail
                      try simp only [List.append_eq, List.cons_append, List.nil_append]
                      refine wp_region_held_drew (S := fun w' => w'.cell? ⟨h, 0, none⟩ = some (.int .i64 B) ∧ w'.cell? ⟨h, 1, none⟩ = some (.int .i64 k) ∧ Hid (PEnd lo p g lo2 p2 g2 h B k C ws ws' w w')) (by kernel_rfl) ?_ (fun hHeld => ?_)
                      · exact ⟨k0, k1, Lib.hid (HE.out.grow (Below.refl _ _).drew)⟩
                      clear HE k0 k1
                      refine wpAnyH_ready (rs := [0]) (by kernel_rfl) (by simp) ?_
                      refine AllReadyH.cons rfl (fun K2 hK2 => ?_) AllReadyH.nil
                      go_simp
                      refine (s33awake_any _ (T.out.later hHeld.2.2.out.2.2.1)).mono ?_
                      rintro e w9 ⟨rfl, hb⟩
                      refine hK2.out _ _ ?_ (fun hHeld2 => ?_)
                      · exact ⟨(hb.cell (p := ⟨h, 0, none⟩) hHeld.2.2.out.2.2.2.2).trans hHeld.1, (hb.cell (p := ⟨h, 1, none⟩) hHeld.2.2.out.2.2.2.2).trans hHeld.2.1, Lib.hid (hHeld.2.2.out.grow hb)⟩
                      clear hK2 K2 hHeld
                      have hHeld := hHeld2
                      clear hHeld2
                      try simp (maxSteps := 4000000) only [Act.put, List.setIfInBounds_toArray, List.set_cons_zero, List.set_cons_succ]
                      refine wpAnyH_take (i := 1) (v := ?_) rfl (by kernel_rfl) (by kernel_rfl) (by kernel_rfl) (fun _ _ _ h => h) (Or.inl ⟨by kernel_rfl, ?_⟩) (by assumption) ?_
                      rotate_left
                      · (intro w hSw; (try dsimp only at hSw); go_simp)
                        try (with_reducible rfl)
                      rotate_left
                      try simp (maxSteps := 4000000) only [Act.put, List.setIfInBounds_toArray, List.set_cons_zero, List.set_cons_succ, List.getElem_toArray, List.getElem_cons_zero, List.getElem_cons_succ]
                      refine wpAnyH_take (i := 2) (v := ?_) rfl (by kernel_rfl) (by kernel_rfl) (by kernel_rfl) (fun _ _ _ h => h) (Or.inl ⟨by kernel_rfl, ?_⟩) (by assumption) ?_
                      rotate_left
                      · (intro w hSw; (try dsimp only at hSw); go_simp)
                        try (with_reducible rfl)
                      rotate_left
                      try simp (maxSteps := 4000000) only [Act.put, List.setIfInBounds_toArray, List.set_cons_zero, List.set_cons_succ, List.getElem_toArray, List.getElem_cons_zero, List.getElem_cons_succ]
                      refine wpAnyH_take (i := 3) (v := ?_) rfl (by kernel_rfl) (by kernel_rfl) (by kernel_rfl) (fun _ _ _ h => h) (Or.inl ⟨by kernel_rfl, ?_⟩) (by assumption) ?_
                      rotate_left
                      · (intro w hSw; (try dsimp only at hSw); go_simp)
                        try (with_reducible rfl)
                      rotate_left
                      try simp (maxSteps := 4000000) only [Act.put, List.setIfInBounds_toArray, List.set_cons_zero, List.set_cons_succ, List.getElem_toArray, List.getElem_cons_zero, List.getElem_cons_succ]
                      refine wpAnyH_take (i := 5) (v := ?_) rfl (by kernel_rfl) (by kernel_rfl) (by kernel_rfl) (fun _ _ _ h => h) (Or.inl ⟨by kernel_rfl, ?_⟩) (by assumption) ?_
                      rotate_left
                      · (intro w hSw; (try dsimp only at hSw); go_simp)
                        try (with_reducible rfl)
                      rotate_left
                      try simp (maxSteps := 4000000) only [Act.put, List.setIfInBounds_toArray, List.set_cons_zero, List.set_cons_succ, List.getElem_toArray, List.getElem_cons_zero, List.getElem_cons_succ]
                      refine wpAnyH_ready (rs := [4]) (by kernel_rfl) (by simp) ?_
                      refine AllReadyH.cons rfl (fun K2 hK2 => ?_) AllReadyH.nil
                      go_simp
                      refine (ptsome (B : Int) (k : Int) S1 hHeld.2.2.out.1 HSM.out (T.out.later hHeld.2.2.out.2.2.1)).mono ?_
                      rintro e w9 ⟨rfl, hb⟩
                      refine hK2.out _ _ ?_ (fun hHeld2 => ?_)
                      · exact ⟨(hb.cell (p := ⟨h, 0, none⟩) hHeld.2.2.out.2.2.2.2).trans hHeld.1, (hb.cell (p := ⟨h, 1, none⟩) hHeld.2.2.out.2.2.2.2).trans hHeld.2.1, Lib.hid (hHeld.2.2.out.grow hb)⟩
                      clear hK2 K2 hHeld
                      have hHeld := hHeld2
                      clear hHeld2
                      try simp (maxSteps := 4000000) only [Act.put, List.setIfInBounds_toArray, List.set_cons_zero, List.set_cons_succ]
                      refine wpAnyH_take (i := 6) (v := ?_) rfl (by kernel_rfl) (by kernel_rfl) (by kernel_rfl) (fun _ _ _ h => h) (Or.inl ⟨by kernel_rfl, ?_⟩) (by assumption) ?_
                      rotate_left
                      · (intro w hSw; (try dsimp only at hSw); go_simp)
                        try (with_reducible rfl)
                      rotate_left
                      try simp (maxSteps := 4000000) only [Act.put, List.setIfInBounds_toArray, List.set_cons_zero, List.set_cons_succ, List.getElem_toArray, List.getElem_cons_zero, List.getElem_cons_succ]
                      refine wpAnyH_take (i := 7) (v := ?_) rfl (by kernel_rfl) (by kernel_rfl) (by kernel_rfl) (fun _ _ _ h => h) (Or.inl ⟨by kernel_rfl, ?_⟩) (by assumption) ?_
                      rotate_left
                      · (intro w hSw; (try dsimp only at hSw); go_simp)
                        try (with_reducible rfl)
                      rotate_left
                      try simp (maxSteps := 4000000) only [Act.put, List.setIfInBounds_toArray, List.set_cons_zero, List.set_cons_succ, List.getElem_toArray, List.getElem_cons_zero, List.getElem_cons_succ]
                      refine wpAnyH_take (i := 8) (v := ?_) rfl (by kernel_rfl) (by kernel_rfl) (by kernel_rfl) (fun _ _ _ h => h) (Or.inl ⟨by kernel_rfl, ?_⟩) (by assumption) ?_
                      rotate_left
                      · (intro w hSw; (try dsimp only at hSw); go_simp)
                        try (with_reducible rfl)
                      rotate_left
                      try simp (maxSteps := 4000000) only [Act.put, List.setIfInBounds_toArray, List.set_cons_zero, List.set_cons_succ, List.getElem_toArray, List.getElem_cons_zero, List.getElem_cons_succ]
                      refine wpAnyH_take (i := 9) (v := ?_) rfl (by kernel_rfl) (by kernel_rfl) (by kernel_rfl) (fun _ _ _ h => h) (Or.inl ⟨by kernel_rfl, ?_⟩) (by assumption) ?_
                      rotate_left
                      · (intro w hSw; (try dsimp only at hSw); go_simp)
                        try (with_reducible rfl)
                      rotate_left
                      try simp (maxSteps := 4000000) only [Act.put, List.setIfInBounds_toArray, List.set_cons_zero, List.set_cons_succ, List.getElem_toArray, List.getElem_cons_zero, List.getElem_cons_succ]
                      refine wpAnyH_take (i := 10) (v := ?_) rfl (by kernel_rfl) (by kernel_rfl) (by kernel_rfl) (fun _ _ _ h => h) (Or.inl ⟨by kernel_rfl, ?_⟩) (by assumption) ?_
                      rotate_left
                      · (intro w hSw; (try dsimp only at hSw); go_simp)
                        try (with_reducible rfl)
                      rotate_left
                      try simp (maxSteps := 4000000) only [Act.put, List.setIfInBounds_toArray, List.set_cons_zero, List.set_cons_succ, List.getElem_toArray, List.getElem_cons_zero, List.getElem_cons_succ]
                      refine wpAnyH_take (i := 12) (v := ?_) rfl (by kernel_rfl) (by kernel_rfl) (by kernel_rfl) (fun _ _ _ h => h) (Or.inl ⟨by kernel_rfl, ?_⟩) (by assumption) ?_
                      rotate_left
                      · (intro w hSw; (try dsimp only at hSw); go_simp)
                        try (with_reducible rfl)
                      rotate_left
                      try simp (maxSteps := 4000000) only [Act.put, List.setIfInBounds_toArray, List.set_cons_zero, List.set_cons_succ, List.getElem_toArray, List.getElem_cons_zero, List.getElem_cons_succ]
                      refine wpAnyH_ready (rs := [11]) (by kernel_rfl) (by simp) ?_
                      refine AllReadyH.cons rfl (fun K2 hK2 => ?_) AllReadyH.nil
                      go_simp
                      refine (HWH.out _ hHeld.2.2.out.1).mono ?_
                      rintro e w9 ⟨rfl, hb⟩
                      refine hK2.out _ _ ?_ (fun hHeld2 => ?_)
                      · exact ⟨(hb.cell (p := ⟨h, 0, none⟩) hHeld.2.2.out.2.2.2.2).trans hHeld.1, (hb.cell (p := ⟨h, 1, none⟩) hHeld.2.2.out.2.2.2.2).trans hHeld.2.1, Lib.hid (hHeld.2.2.out.grow hb)⟩
                      clear hK2 K2 hHeld
                      have hHeld := hHeld2
                      clear hHeld2
                      try simp (maxSteps := 4000000) only [Act.put, List.setIfInBounds_toArray, List.set_cons_zero, List.set_cons_succ]
                      refine wpAnyH_take (i := 13) (v := ?_) rfl (by kernel_rfl) (by kernel_rfl) (by kernel_rfl) (fun _ _ _ h => h) (Or.inl ⟨by kernel_rfl, ?_⟩) (by assumption) ?_
                      rotate_left
                      · (intro w hSw; (try dsimp only at hSw); go_simp)
                        try (with_reducible rfl)
                      rotate_left
                      try simp (maxSteps := 4000000) only [Act.put, List.setIfInBounds_toArray, List.set_cons_zero, List.set_cons_succ, List.getElem_toArray, List.getElem_cons_zero, List.getElem_cons_succ]
                      refine wpAnyH_take (i := 14) (v := ?_) rfl (by kernel_rfl) (by kernel_rfl) (by kernel_rfl) (fun _ _ _ h => h) (Or.inl ⟨by kernel_rfl, ?_⟩) (by assumption) ?_
                      rotate_left
                      · (intro w hSw; (try dsimp only at hSw); go_simp)
                        try (with_reducible rfl)
                      rotate_left
                      try simp (maxSteps := 4000000) only [Act.put, List.setIfInBounds_toArray, List.set_cons_zero, List.set_cons_succ, List.getElem_toArray, List.getElem_cons_zero, List.getElem_cons_succ]
                      refine wpAnyH_take (i := 15) (v := ?_) rfl (by kernel_rfl) (by kernel_rfl) (by kernel_rfl) (fun _ _ _ h => h) (Or.inl ⟨by kernel_rfl, ?_⟩) (by assumption) ?_
                      rotate_left
                      · (intro w hSw; (try dsimp only at hSw); go_simp)
                        try (with_reducible rfl)
                      rotate_left
                      try simp (maxSteps := 4000000) only [Act.put, List.setIfInBounds_toArray, List.set_cons_zero, List.set_cons_succ, List.getElem_toArray, List.getElem_cons_zero, List.getElem_cons_succ]
                      refine wpAnyH_take (i := 16) (v := ?_) rfl (by kernel_rfl) (by kernel_rfl) (by kernel_rfl) (fun _ _ _ h => h) (Or.inl ⟨by kernel_rfl, ?_⟩) (by assumption) ?_
                      rotate_left
                      · (intro w hSw; (try dsimp only at hSw); go_simp)
                        try (with_reducible rfl)
                      rotate_left
                      try simp (maxSteps := 4000000) only [Act.put, List.setIfInBounds_toArray, List.set_cons_zero, List.set_cons_succ, List.getElem_toArray, List.getElem_cons_zero, List.getElem_cons_succ]
                      refine wpAnyH_take (i := 18) (v := ?_) rfl (by kernel_rfl) (by kernel_rfl) (by kernel_rfl) (fun _ _ _ h => h) (Or.inl ⟨by kernel_rfl, ?_⟩) (by assumption) ?_
                      rotate_left
                      · (intro w hSw; (try dsimp only at hSw); go_simp)
                        try (with_reducible rfl)
                      rotate_left
                      try simp (maxSteps := 4000000) only [Act.put, List.setIfInBounds_toArray, List.set_cons_zero, List.set_cons_succ, List.getElem_toArray, List.getElem_cons_zero, List.getElem_cons_succ]
                      refine wpAnyH_ready (rs := [17]) (by kernel_rfl) (by simp) ?_
                      refine AllReadyH.cons rfl (fun K2 hK2 => ?_) AllReadyH.nil
                      go_simp
                      refine (ptcount hHeld.2.2.out.1).mono ?_
                      rintro e w' ⟨rfl, rfl⟩
                      refine hK2.out _ _ hHeld (fun hHeld2 => ?_)
                      clear hK2 K2 hHeld
                      have hHeld := hHeld2
                      clear hHeld2
                      try simp (maxSteps := 4000000) only [Act.put, List.setIfInBounds_toArray, List.set_cons_zero, List.set_cons_succ]
                      refine wpAnyH_take (i := 19) (v := ?_) rfl (by kernel_rfl) (by kernel_rfl) (by kernel_rfl) (fun _ _ _ h => h) (Or.inl ⟨by kernel_rfl, ?_⟩) (by assumption) ?_
                      rotate_left
                      · (intro w hSw; (try dsimp only at hSw); go_simp)
                        try (with_reducible rfl)
                      rotate_left
                      try simp (maxSteps := 4000000) only [Act.put, List.setIfInBounds_toArray, List.set_cons_zero, List.set_cons_succ, List.getElem_toArray, List.getElem_cons_zero, List.getElem_cons_succ]
                      refine wpAnyH_take (i := 20) (v := ?_) rfl (by kernel_rfl) (by kernel_rfl) (by kernel_rfl) (fun _ _ _ h => h) (Or.inl ⟨by kernel_rfl, ?_⟩) (by assumption) ?_
                      rotate_left
                      · (intro w hSw; (try dsimp only at hSw); go_simp)
                        try (with_reducible rfl)
                      rotate_left
                      try simp (maxSteps := 4000000) only [Act.put, List.setIfInBounds_toArray, List.set_cons_zero, List.set_cons_succ, List.getElem_toArray, List.getElem_cons_zero, List.getElem_cons_succ]
                      refine wpAnyH_take (i := 21) (v := ?_) rfl (by kernel_rfl) (by kernel_rfl) (by kernel_rfl) (fun _ _ _ h => h) (Or.inl ⟨by kernel_rfl, ?_⟩) (by assumption) ?_
                      rotate_left
                      · (intro w hSw; (try dsimp only at hSw); go_simp)
                        try (with_reducible rfl)
                      rotate_left
                      try simp (maxSteps := 4000000) only [Act.put, List.setIfInBounds_toArray, List.set_cons_zero, List.set_cons_succ, List.getElem_toArray, List.getElem_cons_zero, List.getElem_cons_succ]
                      refine wpAnyH_take (i := 22) (v := ?_) rfl (by kernel_rfl) (by kernel_rfl) (by kernel_rfl) (fun _ _ _ h => h) (Or.inl ⟨by kernel_rfl, ?_⟩) (by assumption) ?_
                      rotate_left
                      · (intro w hSw; (try dsimp only at hSw); go_simp)
                        try (with_reducible rfl)
                      rotate_left
                      try simp (maxSteps := 4000000) only [Act.put, List.setIfInBounds_toArray, List.set_cons_zero, List.set_cons_succ, List.getElem_toArray, List.getElem_cons_zero, List.getElem_cons_succ]
                      refine wpAnyH_ready (rs := [23]) (by kernel_rfl) (by simp) ?_
                      refine AllReadyH.cons rfl (fun K2 hK2 => ?_) AllReadyH.nil
                      go_simp
                      refine (ptcount hHeld.2.2.out.2.1).mono ?_
                      rintro e w' ⟨rfl, rfl⟩
                      refine hK2.out _ _ hHeld (fun hHeld2 => ?_)
                      clear hK2 K2 hHeld
                      have hHeld := hHeld2
                      clear hHeld2
                      try simp (maxSteps := 4000000) only [Act.put, List.setIfInBounds_toArray, List.set_cons_zero, List.set_cons_succ]
                      refine wpAnyH_take (i := 24) (v := ?_) rfl (by kernel_rfl) (by kernel_rfl) (by kernel_rfl) (fun _ _ _ h => h) (Or.inl ⟨by kernel_rfl, ?_⟩) (by assumption) ?_
                      rotate_left
                      · (intro w hSw; (try dsimp only at hSw); go_simp)
                        try (with_reducible rfl)
                      rotate_left
                      try simp (maxSteps := 4000000) only [Act.put, List.setIfInBounds_toArray, List.set_cons_zero, List.set_cons_succ, List.getElem_toArray, List.getElem_cons_zero, List.getElem_cons_succ]
                      refine wpAnyH_take (i := 25) (v := ?_) rfl (by kernel_rfl) (by kernel_rfl) (by kernel_rfl) (fun _ _ _ h => h) (Or.inl ⟨by kernel_rfl, ?_⟩) (by assumption) ?_
                      rotate_left
                      · (intro w hSw; (try dsimp only at hSw); go_simp)
                        try (with_reducible rfl)
                      rotate_left
                      try simp (maxSteps := 4000000) only [Act.put, List.setIfInBounds_toArray, List.set_cons_zero, List.set_cons_succ, List.getElem_toArray, List.getElem_cons_zero, List.getElem_cons_succ]
                      refine wpAnyH_take (i := 26) (v := ?_) rfl (by kernel_rfl) (by kernel_rfl) (by kernel_rfl) (fun _ _ _ h => h) (Or.inl ⟨by kernel_rfl, ?_⟩) (by assumption) ?_
                      rotate_left
                      · (intro w hSw; (try dsimp only at hSw); go_simp)
                        try (with_reducible rfl)
                      rotate_left
                      try simp (maxSteps := 4000000) only [Act.put, List.setIfInBounds_toArray, List.set_cons_zero, List.set_cons_succ, List.getElem_toArray, List.getElem_cons_zero, List.getElem_cons_succ]
                      refine wpAnyH_take (i := 27) (v := ?_) rfl (by kernel_rfl) (by kernel_rfl) (by kernel_rfl) (fun _ _ _ h => h) (Or.inl ⟨by kernel_rfl, ?_⟩) (by assumption) ?_
                      rotate_left
                      · (intro w hSw; (try dsimp only at hSw); go_simp)
                        try (with_reducible rfl)
                      rotate_left
                      try simp (maxSteps := 4000000) only [Act.put, List.setIfInBounds_toArray, List.set_cons_zero, List.set_cons_succ, List.getElem_toArray, List.getElem_cons_zero, List.getElem_cons_succ]
                      refine wpAnyH_ready (rs := [28]) (by kernel_rfl) (by simp) ?_
                      refine AllReadyH.cons rfl (fun K2 hK2 => ?_) AllReadyH.nil
                      go_simp
                      refine (pthas_out hHeld.2.2.out.1 (T.out.later hHeld.2.2.out.2.2.1)).mono ?_
                      rintro e w9 ⟨rfl, hb⟩
                      refine hK2.out _ _ ?_ (fun hHeld2 => ?_)
                      · exact ⟨(hb.cell (p := ⟨h, 0, none⟩) hHeld.2.2.out.2.2.2.2).trans hHeld.1, (hb.cell (p := ⟨h, 1, none⟩) hHeld.2.2.out.2.2.2.2).trans hHeld.2.1, Lib.hid (hHeld.2.2.out.grow hb)⟩
                      clear hK2 K2 hHeld
                      have hHeld := hHeld2
                      clear hHeld2
                      try simp (maxSteps := 4000000) only [Act.put, List.setIfInBounds_toArray, List.set_cons_zero, List.set_cons_succ]
                      refine wpAnyH_take (i := 29) (v := ?_) rfl (by kernel_rfl) (by kernel_rfl) (by kernel_rfl) (fun _ _ _ h => h) (Or.inl ⟨by kernel_rfl, ?_⟩) (by assumption) ?_
                      rotate_left
                      · (intro w hSw; (try dsimp only at hSw); go_simp)
                        try (with_reducible rfl)
                      rotate_left
                      try simp (maxSteps := 4000000) only [Act.put, List.setIfInBounds_toArray, List.set_cons_zero, List.set_cons_succ, List.getElem_toArray, List.getElem_cons_zero, List.getElem_cons_succ]
                      refine wpAnyH_take (i := 30) (v := ?_) rfl (by kernel_rfl) (by kernel_rfl) (by kernel_rfl) (fun _ _ _ h => h) (Or.inl ⟨by kernel_rfl, ?_⟩) (by assumption) ?_
                      rotate_left
                      · (intro w hSw; (try dsimp only at hSw); go_simp)
                        try (with_reducible rfl)
                      rotate_left
                      try simp (maxSteps := 4000000) only [Act.put, List.setIfInBounds_toArray, List.set_cons_zero, List.set_cons_succ, List.getElem_toArray, List.getElem_cons_zero, List.getElem_cons_succ]
                      refine wpAnyH_take (i := 31) (v := ?_) rfl (by kernel_rfl) (by kernel_rfl) (by kernel_rfl) (fun _ _ _ h => h) (Or.inl ⟨by kernel_rfl, ?_⟩) (by assumption) ?_
                      rotate_left
                      · (intro w hSw; (try dsimp only at hSw); go_simp)
                        try (with_reducible rfl)
                      rotate_left
                      try simp (maxSteps := 4000000) only [Act.put, List.setIfInBounds_toArray, List.set_cons_zero, List.set_cons_succ, List.getElem_toArray, List.getElem_cons_zero, List.getElem_cons_succ]
                      refine wpAnyH_take (i := 32) (v := ?_) rfl (by kernel_rfl) (by kernel_rfl) (by kernel_rfl) (fun _ _ _ h => h) (Or.inl ⟨by kernel_rfl, ?_⟩) (by assumption) ?_
                      rotate_left
                      · (intro w hSw; (try dsimp only at hSw); go_simp)
                        try (with_reducible rfl)
                      rotate_left
                      try simp (maxSteps := 4000000) only [Act.put, List.setIfInBounds_toArray, List.set_cons_zero, List.set_cons_succ, List.getElem_toArray, List.getElem_cons_zero, List.getElem_cons_succ]
                      refine wpAnyH_take (i := 33) (v := ?_) rfl (by kernel_rfl) (by kernel_rfl) (by kernel_rfl) (fun _ _ _ h => h) (Or.inl ⟨by kernel_rfl, ?_⟩) (by assumption) ?_
                      rotate_left
                      · (intro w hSw; (try dsimp only at hSw); go_simp)
                        try (with_reducible rfl)
                      rotate_left
                      try simp (maxSteps := 4000000) only [Act.put, List.setIfInBounds_toArray, List.set_cons_zero, List.set_cons_succ, List.getElem_toArray, List.getElem_cons_zero, List.getElem_cons_succ]
                      refine wpAnyH_take (i := 35) (v := ?_) rfl (by kernel_rfl) (by kernel_rfl) (by kernel_rfl) (fun _ _ _ h => h) (Or.inl ⟨by kernel_rfl, ?_⟩) (by assumption) ?_
                      rotate_left
                      · (intro w hSw; (try dsimp only at hSw); go_simp)
                        try (with_reducible rfl)
                      rotate_left
                      try simp (maxSteps := 4000000) only [Act.put, List.setIfInBounds_toArray, List.set_cons_zero, List.set_cons_succ, List.getElem_toArray, List.getElem_cons_zero, List.getElem_cons_succ]
                      refine wpAnyH_take (i := 36) (v := ?_) rfl (by kernel_rfl) (by kernel_rfl) (by kernel_rfl) (fun _ _ _ h => h) (Or.inl ⟨by kernel_rfl, ?_⟩) (by assumption) ?_
                      rotate_left
                      · (intro w hSw; (try dsimp only at hSw); go_simp)
                        try (with_reducible rfl)
                      rotate_left
                      try simp (maxSteps := 4000000) only [Act.put, List.setIfInBounds_toArray, List.set_cons_zero, List.set_cons_succ, List.getElem_toArray, List.getElem_cons_zero, List.getElem_cons_succ]
                      refine wpAnyH_take (i := 39) (v := ?_) rfl (by kernel_rfl) (by kernel_rfl) (by kernel_rfl) (fun _ _ _ h => h) (Or.inl ⟨by kernel_rfl, ?_⟩) (by assumption) ?_
                      rotate_left
                      · (intro w hSw; (try dsimp only at hSw); go_simp)
                        try (with_reducible rfl)
                      rotate_left
                      try simp (maxSteps := 4000000) only [Act.put, List.setIfInBounds_toArray, List.set_cons_zero, List.set_cons_succ, List.getElem_toArray, List.getElem_cons_zero, List.getElem_cons_succ]
                      refine wpAnyH_ready (rs := [34]) (by kernel_rfl) (by simp) ?_
                      refine AllReadyH.cons rfl (fun K2 hK2 => ?_) AllReadyH.nil
                      go_simp
                      refine (nptput _ _ _).mono ?_
                      rintro e w9 ⟨rfl, hb⟩
                      refine hK2.out _ _ ?_ (fun hHeld2 => ?_)
                      · exact ⟨(hb.cell (p := ⟨h, 0, none⟩) hHeld.2.2.out.2.2.2.2).trans hHeld.1, (hb.cell (p := ⟨h, 1, none⟩) hHeld.2.2.out.2.2.2.2).trans hHeld.2.1, Lib.hid (hHeld.2.2.out.grow hb)⟩
                      clear hK2 K2 hHeld
                      have hHeld := hHeld2
                      clear hHeld2
                      try simp (maxSteps := 4000000) only [Act.put, List.setIfInBounds_toArray, List.set_cons_zero, List.set_cons_succ]
                      refine wpAnyH_ready (rs := [37]) (by kernel_rfl) (by simp) ?_
                      refine AllReadyH.cons rfl (fun K2 hK2 => ?_) AllReadyH.nil
                      go_simp
                      refine (nptclean _ _ _).mono ?_
                      rintro e w9 ⟨rfl, hb⟩
                      refine hK2.out _ _ ?_ (fun hHeld2 => ?_)
                      · exact ⟨(hb.cell (p := ⟨h, 0, none⟩) hHeld.2.2.out.2.2.2.2).trans hHeld.1, (hb.cell (p := ⟨h, 1, none⟩) hHeld.2.2.out.2.2.2.2).trans hHeld.2.1, Lib.hid (hHeld.2.2.out.grow hb)⟩
                      clear hK2 K2 hHeld
                      have hHeld := hHeld2
                      clear hHeld2
                      try simp (maxSteps := 4000000) only [Act.put, List.setIfInBounds_toArray, List.set_cons_zero, List.set_cons_succ]
                      refine wpAnyH_take (i := 38) (v := ?_) rfl (by kernel_rfl) (by kernel_rfl) (by kernel_rfl) (fun _ _ _ h => h) (Or.inl ⟨by kernel_rfl, ?_⟩) (by assumption) ?_
                      rotate_left
                      · (intro w hSw; (try dsimp only at hSw); go_simp)
                        try (with_reducible rfl)
                      rotate_left
                      try simp (maxSteps := 4000000) only [Act.put, List.setIfInBounds_toArray, List.set_cons_zero, List.set_cons_succ, List.getElem_toArray, List.getElem_cons_zero, List.getElem_cons_succ]
                      refine wpAnyH_ready (rs := [40]) (by kernel_rfl) (by simp) ?_
                      refine AllReadyH.cons rfl (fun K2 hK2 => ?_) AllReadyH.nil
                      go_simp
                      refine (nptcount _).mono ?_
                      rintro e w' ⟨rfl, rfl⟩
                      refine hK2.out _ _ hHeld (fun hHeld2 => ?_)
                      clear hK2 K2 hHeld
                      have hHeld := hHeld2
                      clear hHeld2
                      try simp (maxSteps := 4000000) only [Act.put, List.setIfInBounds_toArray, List.set_cons_zero, List.set_cons_succ]
                      refine wpAnyH_take (i := 41) (v := ?_) rfl (by kernel_rfl) (by kernel_rfl) (by kernel_rfl) (fun _ _ _ h => h) (Or.inl ⟨by kernel_rfl, ?_⟩) (by assumption) ?_
                      rotate_left
                      · (intro w hSw; (try dsimp only at hSw); go_simp)
                        try (with_reducible rfl)
                      rotate_left
                      try simp (maxSteps := 4000000) only [Act.put, List.setIfInBounds_toArray, List.set_cons_zero, List.set_cons_succ, List.getElem_toArray, List.getElem_cons_zero, List.getElem_cons_succ]
                      refine wpAnyH_take (i := 42) (v := ?_) rfl (by kernel_rfl) (by kernel_rfl) (by kernel_rfl) (fun _ _ _ h => h) (Or.inl ⟨by kernel_rfl, ?_⟩) (by assumption) ?_
                      rotate_left
                      · (intro w hSw; (try dsimp only at hSw); go_simp)
                        try (with_reducible rfl)
                      rotate_left
                      try simp (maxSteps := 4000000) only [Act.put, List.setIfInBounds_toArray, List.set_cons_zero, List.set_cons_succ, List.getElem_toArray, List.getElem_cons_zero, List.getElem_cons_succ]
                      refine wpAnyH_take (i := 43) (v := ?_) rfl (by kernel_rfl) (by kernel_rfl) (by kernel_rfl) (fun _ _ _ h => h) (Or.inl ⟨by kernel_rfl, ?_⟩) (by assumption) ?_
                      rotate_left
                      · (intro w hSw; (try dsimp only at hSw); go_simp)
                        try (with_reducible rfl)
                      rotate_left
                      try simp (maxSteps := 4000000) only [Act.put, List.setIfInBounds_toArray, List.set_cons_zero, List.set_cons_succ, List.getElem_toArray, List.getElem_cons_zero, List.getElem_cons_succ]
                      refine wpAnyH_take (i := 44) (v := ?_) rfl (by kernel_rfl) (by kernel_rfl) (by kernel_rfl) (fun _ _ _ h => h) (Or.inl ⟨by kernel_rfl, ?_⟩) (by assumption) ?_
                      rotate_left
                      · (intro w hSw; (try dsimp only at hSw); go_simp)
                        try (with_reducible rfl)
                      rotate_left
                      try simp (maxSteps := 4000000) only [Act.put, List.setIfInBounds_toArray, List.set_cons_zero, List.set_cons_succ, List.getElem_toArray, List.getElem_cons_zero, List.getElem_cons_succ]
                      refine wpAnyH_take (i := 45) (v := ?_) rfl (by kernel_rfl) (by kernel_rfl) (by kernel_rfl) (fun _ _ _ h => h) (Or.inl ⟨by kernel_rfl, ?_⟩) (by assumption) ?_
                      rotate_left
                      · (intro w hSw; (try dsimp only at hSw); go_simp)
                        try (with_reducible rfl)
                      rotate_left
                      try simp (maxSteps := 4000000) only [Act.put, List.setIfInBounds_toArray, List.set_cons_zero, List.set_cons_succ, List.getElem_toArray, List.getElem_cons_zero, List.getElem_cons_succ]
                      refine wpAnyH_ready (rs := [46]) (by kernel_rfl) (by simp) ?_
                      refine AllReadyH.cons rfl (fun K2 hK2 => ?_) AllReadyH.nil
                      go_simp
                      refine (npthas _ _).mono ?_
                      rintro e w9 ⟨rfl, hb⟩
                      refine hK2.out _ _ ?_ (fun hHeld2 => ?_)
                      · exact ⟨(hb.cell (p := ⟨h, 0, none⟩) hHeld.2.2.out.2.2.2.2).trans hHeld.1, (hb.cell (p := ⟨h, 1, none⟩) hHeld.2.2.out.2.2.2.2).trans hHeld.2.1, Lib.hid (hHeld.2.2.out.grow hb)⟩
                      clear hK2 K2 hHeld
                      have hHeld := hHeld2
                      clear hHeld2
                      try simp (maxSteps := 4000000) only [Act.put, List.setIfInBounds_toArray, List.set_cons_zero, List.set_cons_succ]
                      refine wpAnyH_take (i := 47) (v := ?_) rfl (by kernel_rfl) (by kernel_rfl) (by kernel_rfl) (fun _ _ _ h => h) (Or.inl ⟨by kernel_rfl, ?_⟩) (by assumption) ?_
                      rotate_left
                      · (intro w hSw; (try dsimp only at hSw); go_simp)
                        try (with_reducible rfl)
                      rotate_left
                      try simp (maxSteps := 4000000) only [Act.put, List.setIfInBounds_toArray, List.set_cons_zero, List.set_cons_succ, List.getElem_toArray, List.getElem_cons_zero, List.getElem_cons_succ]
                      refine wpAnyH_take (i := 48) (v := ?_) rfl (by kernel_rfl) (by kernel_rfl) (by kernel_rfl) (fun _ _ _ h => h) (Or.inl ⟨by kernel_rfl, ?_⟩) (by assumption) ?_
                      rotate_left
                      · (intro w hSw; (try dsimp only at hSw); go_simp)
                        try (with_reducible rfl)
                      rotate_left
                      try simp (maxSteps := 4000000) only [Act.put, List.setIfInBounds_toArray, List.set_cons_zero, List.set_cons_succ, List.getElem_toArray, List.getElem_cons_zero, List.getElem_cons_succ]
                      refine wpAnyH_take (i := 49) (v := ?_) rfl (by kernel_rfl) (by kernel_rfl) (by kernel_rfl) (fun _ _ _ h => h) (Or.inl ⟨by kernel_rfl, ?_⟩) (by assumption) ?_
                      rotate_left
                      · (intro w hSw; (try dsimp only at hSw); go_simp)
                        try (with_reducible rfl)
                      rotate_left
                      try simp (maxSteps := 4000000) only [Act.put, List.setIfInBounds_toArray, List.set_cons_zero, List.set_cons_succ, List.getElem_toArray, List.getElem_cons_zero, List.getElem_cons_succ]
                      refine wpAnyH_take (i := 50) (v := ?_) rfl (by kernel_rfl) (by kernel_rfl) (by kernel_rfl) (fun _ _ _ h => h) (Or.inl ⟨by kernel_rfl, ?_⟩) (by assumption) ?_
                      rotate_left
                      · (intro w hSw; (try dsimp only at hSw); go_simp)
                        try (with_reducible rfl)
                      rotate_left
                      try simp (maxSteps := 4000000) only [Act.put, List.setIfInBounds_toArray, List.set_cons_zero, List.set_cons_succ, List.getElem_toArray, List.getElem_cons_zero, List.getElem_cons_succ]
                      refine wpAnyH_take (i := 51) (v := ?_) rfl (by kernel_rfl) (by kernel_rfl) (by kernel_rfl) (fun _ _ _ h => h) (Or.inl ⟨by kernel_rfl, ?_⟩) (by assumption) ?_
                      rotate_left
                      · (intro w hSw; (try dsimp only at hSw); go_simp)
                        try (with_reducible rfl)
                      rotate_left
                      try simp (maxSteps := 4000000) only [Act.put, List.setIfInBounds_toArray, List.set_cons_zero, List.set_cons_succ, List.getElem_toArray, List.getElem_cons_zero, List.getElem_cons_succ]
                      refine wpAnyH_ready (rs := [52]) (by kernel_rfl) (by simp) ?_
                      refine AllReadyH.cons rfl (fun K2 hK2 => ?_) AllReadyH.nil
                      go_simp
                      refine (nptsome _ _ _).mono ?_
                      rintro e w9 ⟨rfl, hb⟩
                      refine hK2.out _ _ ?_ (fun hHeld2 => ?_)
                      · exact ⟨(hb.cell (p := ⟨h, 0, none⟩) hHeld.2.2.out.2.2.2.2).trans hHeld.1, (hb.cell (p := ⟨h, 1, none⟩) hHeld.2.2.out.2.2.2.2).trans hHeld.2.1, Lib.hid (hHeld.2.2.out.grow hb)⟩
                      clear hK2 K2 hHeld
                      have hHeld := hHeld2
                      clear hHeld2
                      try simp (maxSteps := 4000000) only [Act.put, List.setIfInBounds_toArray, List.set_cons_zero, List.set_cons_succ]
                      refine wpAnyH_take (i := 53) (v := ?_) rfl (by kernel_rfl) (by kernel_rfl) (by kernel_rfl) (fun _ _ _ h => h) (Or.inl ⟨by kernel_rfl, ?_⟩) (by assumption) ?_
                      rotate_left
                      · (intro w hSw; (try dsimp only at hSw); go_simp)
                        try (with_reducible rfl)
                      rotate_left
                      try simp (maxSteps := 4000000) only [Act.put, List.setIfInBounds_toArray, List.set_cons_zero, List.set_cons_succ, List.getElem_toArray, List.getElem_cons_zero, List.getElem_cons_succ]
                      refine wpAnyH_take (i := 54) (v := ?_) rfl (by kernel_rfl) (by kernel_rfl) (by kernel_rfl) (fun _ _ _ h => h) (Or.inl ⟨by kernel_rfl, ?_⟩) (by assumption) ?_
                      rotate_left
                      · (intro w hSw; (try dsimp only at hSw); go_simp)
                        try (with_reducible rfl)
                      rotate_left
                      try simp (maxSteps := 4000000) only [Act.put, List.setIfInBounds_toArray, List.set_cons_zero, List.set_cons_succ, List.getElem_toArray, List.getElem_cons_zero, List.getElem_cons_succ]
                      refine wpAnyH_take (i := 55) (v := ?_) rfl (by kernel_rfl) (by kernel_rfl) (by kernel_rfl) (fun _ _ _ h => h) (Or.inl ⟨by kernel_rfl, ?_⟩) (by assumption) ?_
                      rotate_left
                      · (intro w hSw; (try dsimp only at hSw); go_simp)
                        try (with_reducible rfl)
                      rotate_left
                      try simp (maxSteps := 4000000) only [Act.put, List.setIfInBounds_toArray, List.set_cons_zero, List.set_cons_succ, List.getElem_toArray, List.getElem_cons_zero, List.getElem_cons_succ]
                      refine wpAnyH_take (i := 56) (v := ?_) rfl (by kernel_rfl) (by kernel_rfl) (by kernel_rfl) (fun _ _ _ h => h) (Or.inl ⟨by kernel_rfl, ?_⟩) (by assumption) ?_
                      rotate_left
                      · (intro w hSw; (try dsimp only at hSw); go_simp)
                        try (with_reducible rfl)
                      rotate_left
                      try simp (maxSteps := 4000000) only [Act.put, List.setIfInBounds_toArray, List.set_cons_zero, List.set_cons_succ, List.getElem_toArray, List.getElem_cons_zero, List.getElem_cons_succ]
                      refine wpAnyH_take (i := 57) (v := ?_) rfl (by kernel_rfl) (by kernel_rfl) (by kernel_rfl) (fun _ _ _ h => h) (Or.inl ⟨by kernel_rfl, ?_⟩) (by assumption) ?_
                      rotate_left
                      · (intro w hSw; (try dsimp only at hSw); go_simp)
                        try (with_reducible rfl)
                      rotate_left
                      try simp (maxSteps := 4000000) only [Act.put, List.setIfInBounds_toArray, List.set_cons_zero, List.set_cons_succ, List.getElem_toArray, List.getElem_cons_zero, List.getElem_cons_succ]
                      refine wpAnyH_ready (rs := [58]) (by kernel_rfl) (by simp) ?_
                      refine AllReadyH.cons rfl (fun K2 hK2 => ?_) AllReadyH.nil
                      go_simp
                      refine (nptwhole _ _ _).mono ?_
                      rintro e w9 ⟨rfl, hb⟩
                      refine hK2.out _ _ ?_ (fun hHeld2 => ?_)
                      · exact ⟨(hb.cell (p := ⟨h, 0, none⟩) hHeld.2.2.out.2.2.2.2).trans hHeld.1, (hb.cell (p := ⟨h, 1, none⟩) hHeld.2.2.out.2.2.2.2).trans hHeld.2.1, Lib.hid (hHeld.2.2.out.grow hb)⟩
                      clear hK2 K2 hHeld
                      have hHeld := hHeld2
                      clear hHeld2
                      try simp (maxSteps := 4000000) only [Act.put, List.setIfInBounds_toArray, List.set_cons_zero, List.set_cons_succ]
                      refine wpAnyH_take (i := 59) (v := ?_) rfl (by kernel_rfl) (by kernel_rfl) (by kernel_rfl) (fun _ _ _ h => h) (Or.inl ⟨by kernel_rfl, ?_⟩) (by assumption) ?_
                      rotate_left
                      · (intro w hSw; (try dsimp only at hSw); go_simp)
                        try (with_reducible rfl)
                      rotate_left
                      try simp (maxSteps := 4000000) only [Act.put, List.setIfInBounds_toArray, List.set_cons_zero, List.set_cons_succ, List.getElem_toArray, List.getElem_cons_zero, List.getElem_cons_succ]
                      refine wpAnyH_take (i := 60) (v := ?_) rfl (by kernel_rfl) (by kernel_rfl) (by kernel_rfl) (fun _ _ _ h => h) (Or.inl ⟨by kernel_rfl, ?_⟩) (by assumption) ?_
                      rotate_left
                      · (intro w hSw; (try dsimp only at hSw); go_simp)
                        try (with_reducible rfl)
                      rotate_left
                      try simp (maxSteps := 4000000) only [Act.put, List.setIfInBounds_toArray, List.set_cons_zero, List.set_cons_succ, List.getElem_toArray, List.getElem_cons_zero, List.getElem_cons_succ]
                      refine wpAnyH_take (i := 61) (v := ?_) rfl (by kernel_rfl) (by kernel_rfl) (by kernel_rfl) (fun _ _ _ h => h) (Or.inl ⟨by kernel_rfl, ?_⟩) (by assumption) ?_
                      rotate_left
                      · (intro w hSw; (try dsimp only at hSw); go_simp)
                        try (with_reducible rfl)
                      rotate_left
                      try simp (maxSteps := 4000000) only [Act.put, List.setIfInBounds_toArray, List.set_cons_zero, List.set_cons_succ, List.getElem_toArray, List.getElem_cons_zero, List.getElem_cons_succ]
                      refine wpAnyH_take (i := 62) (v := ?_) rfl (by kernel_rfl) (by kernel_rfl) (by kernel_rfl) (fun _ _ _ h => h) (Or.inl ⟨by kernel_rfl, ?_⟩) (by assumption) ?_
                      rotate_left
                      · (intro w hSw; (try dsimp only at hSw); go_simp)
                        try (with_reducible rfl)
                      rotate_left
                      try simp (maxSteps := 4000000) only [Act.put, List.setIfInBounds_toArray, List.set_cons_zero, List.set_cons_succ, List.getElem_toArray, List.getElem_cons_zero, List.getElem_cons_succ]
                      refine wpAnyH_ready (rs := [63]) (by kernel_rfl) (by simp) ?_
                      refine AllReadyH.cons rfl (fun K2 hK2 => ?_) AllReadyH.nil
                      go_simp
                      refine (npttwin _).mono ?_
                      rintro e w' ⟨rfl, rfl⟩
                      refine hK2.out _ _ hHeld (fun hHeld2 => ?_)
                      clear hK2 K2 hHeld
                      have hHeld := hHeld2
                      clear hHeld2
                      try simp (maxSteps := 4000000) only [Act.put, List.setIfInBounds_toArray, List.set_cons_zero, List.set_cons_succ]
                      refine wpAnyH_take (i := 64) (v := ?_) rfl (by kernel_rfl) (by kernel_rfl) (by kernel_rfl) (fun _ _ _ h => h) (Or.inl ⟨by kernel_rfl, ?_⟩) (by assumption) ?_
                      rotate_left
                      · (intro w hSw; (try dsimp only at hSw); go_simp)
                        try (with_reducible rfl)
                      rotate_left
                      try simp (maxSteps := 4000000) only [Act.put, List.setIfInBounds_toArray, List.set_cons_zero, List.set_cons_succ, List.getElem_toArray, List.getElem_cons_zero, List.getElem_cons_succ]
                      refine wpAnyH_take (i := 65) (v := ?_) rfl (by kernel_rfl) (by kernel_rfl) (by kernel_rfl) (fun _ _ _ h => h) (Or.inl ⟨by kernel_rfl, ?_⟩) (by assumption) ?_
                      rotate_left
                      · (intro w hSw; (try dsimp only at hSw); go_simp)
                        try (with_reducible rfl)
                      rotate_left
                      try simp (maxSteps := 4000000) only [Act.put, List.setIfInBounds_toArray, List.set_cons_zero, List.set_cons_succ, List.getElem_toArray, List.getElem_cons_zero, List.getElem_cons_succ]
                      refine wpAnyH_take (i := 66) (v := ?_) rfl (by kernel_rfl) (by kernel_rfl) (by kernel_rfl) (fun _ _ _ h => h) (Or.inl ⟨by kernel_rfl, ?_⟩) (by assumption) ?_
                      rotate_left
                      · (intro w hSw; (try dsimp only at hSw); go_simp)
                        try (with_reducible rfl)
                      rotate_left
                      try simp (maxSteps := 4000000) only [Act.put, List.setIfInBounds_toArray, List.set_cons_zero, List.set_cons_succ, List.getElem_toArray, List.getElem_cons_zero, List.getElem_cons_succ]
                      refine wpAnyH_done (by kernel_rfl) ?_ _
                      go_wp2
                      go_ret
                      exact ⟨rfl, hHeld.2.2.out.2.2.1⟩
end Go.Proofs.YtfeinfmfbbpbjaaDoor
