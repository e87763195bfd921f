/- The walk of MemTagged. -/
import Derived.Test.YtjbddhjjhjkpiaaDoorRRRMtA
namespace Go.Proofs.YtjbddhjjhjkpiaaDoorRRR
set_option maxRecDepth 100000
open Go.RowKit Go.ChangeMaps Go.MapKept
set_option linter.unusedVariables false
set_option linter.unusedSimpArgs false

set_option maxHeartbeats 3200000 in
theorem walkMemTagged (a0 : Int) (a1 : Option Addr) (len1 cap1 : Nat) (z1 : List Int) (a2_0 : Int) (a2_1 : Int) (a2_2 : Int) (w : World) (w0 : (Lit.int .i64 a0).wf = true) (w1 : IsRow .i64 w a1 len1 cap1 z1) (w2_0 : (Lit.int .i64 a2_0).wf = true) (w2_1 : (Lit.int .i64 a2_1).wf = true) (w2_2 : (Lit.int .i64 a2_2).wf = true) (ht : TzTab w) :
    Calls Tryd.prog 4 #[.int .i64 a0, .slice a1 len1 cap1, .agg #[.int .i64 a2_0, .int .i64 a2_1, .int .i64 a2_2]] w fun e w' => e = .returned (.bool true) ∧ Below w.heap.size w w' := by
  have T := Lib.hid ht; clear ht
  have HI := Lib.hid w1.ints; clear w1
  obtain ⟨zv, zi⟩ := zero_of_info infoRz
  have zb := fun W : World => run_build (P := Tryd.prog) W 34 #[] zeroR.l.toArray builtR
  have zs1 := fun W : World => run_storeAt_new (P := Tryd.prog) W 34 zeroR.l.toArray zeroR.l.toArray (RS.infoA _) rfl (RS.one zeroR_one)
  have zs2 := fun W : World => run_storeCells_new (P := Tryd.prog) W 34 zeroR.l.toArray zeroR.l.toArray (RS.infoA _) rfl (RS.one zeroR_one)
  have HR2 := Lib.hid (fun W => RAt.new W zeroR 34)
  have hZs : zeroR.l.toArray.size = 3080 := by rw [List.size_toArray, RS.len]
  have hZ1 := RS.one zeroR_one
  generalize zeroR.l.toArray = Z at *
  obtain ⟨m, hm1, hm2, hm3⟩ : ∃ m : Nat, m ≤ len1 ∧ m ≤ 128 ∧ (m < len1 → m = 128) := ⟨min len1 128, by omega, by omega, by omega⟩
  go_enter Tryd.func4, Tryd.ntmps4
  go_wp2_with fail
  refine (w08awake _ (T.out.later (alc0 _ _))).mono ?_
  rintro e v0 ⟨rfl, hb0⟩
  have hz0 : w.heap.size < v0.heap.size := by have := hb0.size; simp at this; omega
  have HS0 : Hid (v0.cell? ⟨w.heap.size, 0, none⟩ = some (.int .i64 a2_0) ∧ v0.cell? ⟨w.heap.size, 1, none⟩ = some (.int .i64 a2_1) ∧ v0.cell? ⟨w.heap.size, 2, none⟩ = some (.int .i64 a2_2)) := Lib.hid ⟨by rw [(bcell hb0).1 _ _ (by simp)]; simp, by rw [(bcell hb0).1 _ _ (by simp)]; simp, by rw [(bcell hb0).1 _ _ (by simp)]; simp⟩
  have HB0 : Hid (Below w.heap.size w v0) := Lib.hid (thn (alc0 _ _) hb0)
  have HX0 := Lib.hid hz0
  clear hb0 hz0
  go_wp2_with fail
  refine (mnew 8 8 _ (T.out.later HB0.out) (by decide)).mono ?_
  rintro e v1 ⟨M, col, rfl, hm, hb1⟩
  have HM := Lib.hid hm
  have HB1 := Lib.hid hb1
  clear hm hb1
  go_wp2_with fail
  have HA : Hid (RAt v1.heap.size (v1.alloc (.cells Z 34)) zeroR) := Lib.hid (HR2.out v1)
  have HM1 : Hid (MEM v0.heap.size col M (v1.alloc (.cells Z 34)) (newS 8) ∧ col v1.heap.size = 0) := Lib.hid ⟨HM.out.later (alc0 _ _), HM.out.old (Nat.le_refl _)⟩
  have HB2 : Hid (Below v0.heap.size v0 (v1.alloc (.cells Z 34))) := Lib.hid (alc HB1.out _)
  have HV : Hid (v0.heap.size ≤ v1.heap.size) := Lib.hid HB1.out.size
  clear HM HB1 HR2 zv zi zb zs1 zs2 hZs hZ1
  go_loopw [9] (fun v9 wr => ∃ (x : Nat) (σ : MS) (r : RS) (cl : Nat → Nat), x ≤ 8 ∧ v9 = .int .i64 x ∧ Hid (MEM v0.heap.size cl M wr σ ∧ cl v1.heap.size = 0) ∧ Hid (RAt v1.heap.size wr r ∧ r.One) ∧ Hid (LK1 σ r x) ∧ Hid (Below v0.heap.size v0 wr)) (fun v9 _ => 8 - (intOf v9).toNat)
  case atStart => exact ⟨0, newS 8, zeroR, col, by omega, rfl, HM1, Lib.hid ⟨HA.out, zeroR_one⟩, Lib.hid LK1.start, HB2⟩
  case round =>
    clear HA HM1 HB2
    obtain ⟨x, σ, r, cl, hx, rfl, HM, HA, HL, HB⟩ := hrel
    by_cases hlt : x < 8
    · have l1 : (x : Int) < 8 := by omega
      have q0 : (0 : Int) ≤ (x : Int) := by omega
      have q2 : (x : Int).toNat = x := Int.toNat_natCast x
      go_upto_if 31 with (fail)
      obtain ⟨q, hq⟩ : ∃ q, (bits .and .i64 (a0 / 2 ^ x) 1 == 1) = q := ⟨_, rfl⟩
      rw [hq]
      clear hq
      cases q with
      | false =>
        go_wp2_with fail
        go_roundw
        case rel => exact ⟨x + 1, σ, r, cl, by omega, by go_num, HM, HA, Lib.hid HL.out.skip, HB⟩
        case measure => simp [intOf]; omega
      | true =>
        have K1 := Lib.hid (mmap_free (x : Int) 1 HM.out.1 (by unfold thereI; omega) (fun y y1 _ => HL.out.high y (by omega)))
        go_wp2_with fail
        refine K1.out.mono ?_
        rintro e w2 (⟨h, _⟩ | ⟨-, rfl, hs, -⟩)
        · exfalso
          have h1 := cntF_high HL.out.high 1024
          rw [HL.out.most] at h
          omega
        obtain ⟨cl2, hm2, hc2, ho2, hb2⟩ := hs
        have hAz := HA.out.1.1
        have hA2 : RAt v1.heap.size w2 r := HA.out.1.keep hb2.size (ho2 _ hAz (by rw [HM.out.2]; decide))
        have HM2 : Hid (MEM v0.heap.size cl2 M w2 { σ with pg := onF σ.pg x 1, peak := max σ.peak ((cntF σ.pg 1024 : Nat) + 1) } ∧ cl2 v1.heap.size = 0) := Lib.hid ⟨hm2, by rw [hc2 _ hAz]; exact HM.out.2⟩
        have HB2 : Hid (Below v0.heap.size v0 w2) := Lib.hid (HB.out.trans hb2)
        have HA2 := Lib.hid hA2
        have HRG := Lib.hid hA2.range
        have HI1 := Lib.hid (RS.info r)
        have HO := Lib.hid HA.out.2
        have HL2 := Lib.hid (HL.out.page (pk := max σ.peak ((cntF σ.pg 1024 : Nat) + 1)))
        clear hm2 hc2 ho2 hb2 hA2 K1 HM HA HL HB hAz
        go_wp2_with (refine wpList_load_mid rfl 34 (.tmp 8) rfl v1.heap.size 0 rfl r.l _ HRG.out Tryd.underlying34 rfl HI1.out ?_)
        refine (rfresh r HO.out x true hlt w2).mono ?_
        rintro e w3 ⟨rfl, hb3⟩
        have hA3 := HA2.out.below hb3
        have HTH : Hid (w3.there v1.heap.size 0 (freshN r x true 256 16).l.toArray.size) := Lib.hid (by rw [show (freshN r x true 256 16).l.toArray.size = 3080 by rw [List.size_toArray, RS.len]]; exact hA3.there)
        have HI2 := Lib.hid (RS.infoA (freshN r x true 256 16))
        have HON := Lib.hid (RS.one (freshN_one HO.out x true 256 16))
        have HM4 : Hid (MEM v0.heap.size cl2 M (w3.setCells v1.heap.size 0 (freshN r x true 256 16).l) { σ with pg := onF σ.pg x 1, peak := max σ.peak ((cntF σ.pg 1024 : Nat) + 1) } ∧ cl2 v1.heap.size = 0) := Lib.hid ⟨(HM2.out.1.later hb3).ob (ob_cells _ _ _ _).1 HM2.out.2 HV.out, HM2.out.2⟩
        have HA4 : Hid (RAt v1.heap.size (w3.setCells v1.heap.size 0 (freshN r x true 256 16).l) (freshN r x true 256 16) ∧ (freshN r x true 256 16).One) := Lib.hid ⟨hA3.cells, freshN_one HO.out x true 256 16⟩
        have HB4 : Hid (Below v0.heap.size v0 (w3.setCells v1.heap.size 0 (freshN r x true 256 16).l)) := Lib.hid ((HB2.out.trans (hb3.mono (by have := HB2.out.size; omega))).trans ((ob_cells _ _ _ _).1.2.2 _ HV.out (by have := HB2.out.size; have := hb3.size; omega)))
        clear hA3 hb3 HM2 HA2 HRG HI1 HB2
        go_wp2_with (refine wpList_store_mid rfl 34 (.tmp 8) (.tmp 37) rfl v1.heap.size 0 (freshN r x true 256 16).l.toArray rfl rfl ?ht ?hi ?h1 ?_; simpa using HTH.out; exact HI2.out; exact HON.out)
        go_roundw
        case rel => exact ⟨x + 1, _, _, cl2, by omega, by go_num, HM4, HA4, HL2, HB4⟩
        case measure => simp [intOf]; omega
    · have HL8 : Hid (LK2 σ r) := Lib.hid (by
        have := HL.out
        rw [show x = 8 by omega] at this
        exact this.two)
      have l1 : ¬ (x : Int) < 8 := by omega
      clear HL hx hlt
      rename World => wo
      go_wp2_with fail
      go_loopw [10] (fun v10 ws => ∃ (i : Nat) (σ : MS) (r : RS) (cl : Nat → Nat), i ≤ m ∧ v10 = .int .i64 i ∧ Hid (MEM v0.heap.size cl M ws σ ∧ cl v1.heap.size = 0) ∧ Hid (RAt v1.heap.size ws r ∧ r.One) ∧ Hid (LK2 σ r) ∧ Hid (Below v0.heap.size v0 ws)) (fun v10 _ => m - (intOf v10).toNat)
      case atStart => exact ⟨0, σ, r, cl, by omega, rfl, HM, HA, HL8, HB⟩
      case round =>
        clear HL8 HM HA HB l1
        obtain ⟨i, σ, r, cl, hi, rfl, HM, HA, HL, HB⟩ := hrel
        by_cases hlt : i < m
        · have l1 : (i : Int) < (len1 : Int) := by omega
          have l2 : (i : Int) < 128 := by omega
          have q0 : (0 : Int) ≤ (i : Int) := by omega
          have q2 : (i : Int).toNat = i := Int.toNat_natCast i
          have g1 : (i : Int).tdiv 16 = ((i / 16 : Nat) : Int) := by rw [Int.tdiv_eq_ediv_of_nonneg (by omega)]; omega
          have g2 : (i : Int) / 16 = ((i / 16 : Nat) : Int) := by omega
          have k1 := (HA.out.1.2 (i / 16) (by omega)).1
          rw [RS.co _ (by omega)] at k1
          obtain ⟨y, hy⟩ : ∃ y, i / 16 = y := ⟨_, rfl⟩
          rw [hy] at g1 g2 k1
          have HY := Lib.hid hy
          have y0 : (0 : Int) ≤ (y : Int) := by omega
          have y1 : (y : Int) < 8 := by omega
          have y2 : (y : Int).toNat = y := Int.toNat_natCast y
          clear hy
          cases ho : r.o y with
          | false =>
            rw [ho] at k1
            clear ho
            go_wp2_with fail
            go_roundw
            case rel => exact ⟨i + 1, σ, r, cl, by omega, by go_num, HM, HA, HL, HB⟩
            case measure => simp [intOf]; omega
          | true =>
            rw [ho] at k1
            have HOY := Lib.hid ho
            clear ho
            obtain ⟨_, hin⟩ := HI.out
            rcases hin with h0 | ⟨rb, off, rfl, hrl, hrm, hrc⟩
            · exfalso; omega
            have HRC := Lib.hid (hrc i (by omega))
            clear hrc
            generalize (List.take len1 z1).getD i 0 = z at *
            have e1 := and1 z
            obtain ⟨t, htt⟩ : ∃ t : Nat, z % 2 = t := ⟨(z % 2).toNat, by omega⟩
            have HT2 : Hid (t < 2) := Lib.hid (by omega)
            rw [htt] at e1
            clear htt
            have c1 : wr.cell? ⟨rb, off + i, none⟩ = some (.int .i64 z) := (HB.out.cell (p := ⟨rb, off + i, none⟩) (by have := HX0.out; show rb < v0.heap.size; omega)).trans ((HB0.out.cell (p := ⟨rb, off + i, none⟩) hrl).trans HRC.out)
            have hop : openB σ.pg (16 * (i : Int)) 1 = true := by
              rw [open_same HL.out.same HL.out.high, openR, decide_eq_true (by omega), Bool.true_and, wholeF_iff]
              intro n n1 n2
              rw [show n = y by have := HY.out; omega]
              exact HOY.out
            have HOP := Lib.hid hop
            clear hop
            have HIX := Lib.hid (And.intro hrl hrm)
            clear hrl hrm
            go_wp2_with fail
            refine (msettag_ok (16 * (i : Int)) 1 t HM.out.1 (by have := HT2.out; omega) HOP.out).mono ?_
            rintro e w2 ⟨rfl, cl2, hm2, hc2, ho2, hb2⟩
            have hAz := HA.out.1.1
            have hA2 : RAt v1.heap.size w2 r := HA.out.1.keep hb2.size (ho2 _ hAz (by rw [HM.out.2]; decide))
            have hcl2 : cl2 v1.heap.size = 0 := by rw [hc2 _ hAz]; exact HM.out.2
            have hB2 : Below v0.heap.size v0 w2 := HB.out.trans hb2
            have c2 : w2.cell? ⟨rb, off + i, none⟩ = some (.int .i64 z) := (hb2.cell (p := ⟨rb, off + i, none⟩) (by have := HX0.out; have := HIX.out; show rb < v0.heap.size; omega)).trans c1
            have k3 := (hA2.2 (2056 + i) (by omega)).1
            have k4 := (hA2.2 (2056 + i) (by omega)).2
            rw [RS.ct _ (by omega)] at k3
            have HA4 : Hid (RAt v1.heap.size (w2.setCell ⟨v1.heap.size, 2056 + i, none⟩ (.int .i64 (t : Int))) (setT r i t) ∧ (setT r i t).One) := Lib.hid ⟨hA2.tag (by omega) t, setT_one HA.out.2 i t⟩
            have HM4 : Hid (MEM v0.heap.size cl2 M (w2.setCell ⟨v1.heap.size, 2056 + i, none⟩ (.int .i64 (t : Int))) { σ with f := setF σ.f (grF (16 * (i : Int))) (grN (16 * (i : Int)) 1) t } ∧ cl2 v1.heap.size = 0) := Lib.hid ⟨hm2.ob (ob_set _ _ _ _) hcl2 HV.out, hcl2⟩
            have HB4 : Hid (Below v0.heap.size v0 (w2.setCell ⟨v1.heap.size, 2056 + i, none⟩ (.int .i64 (t : Int)))) := Lib.hid (hB2.setCell HV.out _)
            have HL4 : Hid (LK2 { σ with f := setF σ.f (grF (16 * (i : Int))) (grN (16 * (i : Int)) 1) t } (setT r i t)) := Lib.hid (HL.out.set_ (by unfold grF; omega) (by unfold grN; omega))
            clear hm2 hc2 ho2 hb2 hA2 hcl2 hB2 HM HA HL HB hAz c1 k1
            generalize r.t i = tx at k3
            go_wp2_with fail
            go_roundw
            case rel => exact ⟨i + 1, _, _, cl2, by omega, by go_num, HM4, HA4, HL4, HB4⟩
            case measure => simp [intOf]; omega
        · obtain rfl : i = m := by omega
          go_upto_region 11 with (fail)
          go_cut [45] (fun v45 wx => v45 = .bool false ∧ wr = wx)
          case first =>
            by_cases hm : i < len1
            · have l1 : (i : Int) < (len1 : Int) := by omega
              have l2 : ¬ (i : Int) < 128 := by have := hm3 hm; omega
              go_wp2_with fail
              go_meet
              exact ⟨rfl, rfl⟩
            · have l1 : ¬ (i : Int) < (len1 : Int) := by omega
              go_wp2_with fail
              go_meet
              exact ⟨rfl, rfl⟩
          case rest =>
            obtain ⟨rfl, rfl⟩ := hcut
            clear hm1 hm2 hm3 hi hlt HI
            have s0 := (HB.out.cell (p := ⟨w.heap.size, 0, none⟩) HX0.out).trans HS0.out.1
            have s1 := (HB.out.cell (p := ⟨w.heap.size, 1, none⟩) HX0.out).trans HS0.out.2.1
            have s2 := (HB.out.cell (p := ⟨w.heap.size, 2, none⟩) HX0.out).trans HS0.out.2.2
            have e1 := and2047 a2_0
            have e2 := and127 a2_1
            have e3 := and1 a2_2
            obtain ⟨a, ha⟩ : ∃ a : Nat, a2_0 % 2048 = a := ⟨(a2_0 % 2048).toNat, by omega⟩
            obtain ⟨n, hn⟩ : ∃ n : Nat, a2_1 % 128 = n := ⟨(a2_1 % 128).toNat, by omega⟩
            obtain ⟨t, ht⟩ : ∃ t : Nat, a2_2 % 2 = t := ⟨(a2_2 % 2).toNat, by omega⟩
            rw [ha] at e1
            rw [hn] at e2
            rw [ht] at e3
            have HAN : Hid (a < 2048 ∧ n < 128 ∧ t < 2) := Lib.hid (by omega)
            clear ha hn ht
            go_upto_region 16 with (fail)
            go_quiet (fail)
            have hb5 : Below wr.heap.size wr (wr.drewN nq) := below_drewN (Below.refl _ _) nq
            generalize wr.drewN nq = w5 at *
            have HA5 := Lib.hid (And.intro (HA.out.1.below hb5) HA.out.2)
            have HM5 := Lib.hid (HM.out.1.later hb5)
            have HB5 : Hid (Below v0.heap.size v0 w5) := Lib.hid (HB.out.trans (hb5.mono HB.out.size))
            have HRG := Lib.hid HA5.out.1.range
            have HI1 := Lib.hid (RS.info r)
            obtain ⟨O, hO⟩ : ∃ O, openR r.o a n = O := ⟨_, rfl⟩
            have HO := Lib.hid hO
            clear hO hb5 HA HM HB s0 s1 s2 e1 e2 e3
            have ga : (a : Int).tdiv 16 = ((a / 16 : Nat) : Int) := by rw [Int.tdiv_eq_ediv_of_nonneg (by omega)]; omega
            have ga2 : (a : Int) / 16 = ((a / 16 : Nat) : Int) := by omega
            have HGA := Lib.hid (And.intro ga ga2)
            clear ga ga2
            go_wp2_with (refine wpList_load_mid rfl 34 (.tmp 8) rfl v1.heap.size 0 rfl r.l _ HRG.out Tryd.underlying34 rfl HI1.out ?_)
            refine (ropen r O HA5.out.2 a n (by have := HAN.out; omega) _ HO.out).mono ?_
            rintro e w6 ⟨rfl, hb6⟩
            have HM6 := Lib.hid (HM5.out.later hb6)
            have HA6 := Lib.hid (HA5.out.1.below hb6)
            have HB6 : Hid (Below v0.heap.size v0 w6) := Lib.hid (HB5.out.trans (hb6.mono HB5.out.size))
            clear hb6 HM5 HA5 HB5 HRG HI1
            obtain ⟨ga, ga2⟩ := HGA.out
            obtain ⟨F, hF⟩ : ∃ F, a / 16 = F := ⟨_, rfl⟩
            rw [hF] at ga ga2
            have HF := Lib.hid hF
            have f0 : (0 : Int) ≤ (F : Int) := by omega
            have f1 : (F : Int) < 128 := by have := HAN.out; omega
            clear hF
            cases O with
            | false =>
              go_wp2_with fail
              go_loop [15, 16] (fun v15 v16 => v15 = .bool false ∧ v16 = .int .i64 (F : Int)) (fun _ _ => 0)
              case atStart => exact ⟨rfl, rfl⟩
              case round =>
                obtain ⟨rfl, rfl⟩ := hrel
                go_wp2_with fail
                refine (mopen false a n (HM6.out.later (alc0 _ _)) (by rw [open_same HL.out.same HL.out.high]; exact HO.out)).mono ?_
                rintro e w7 ⟨rfl, hb7⟩
                have z7 : w6.heap.size < w7.heap.size := by have := hb7.size; simp at this; omega
                have c0 : w7.cell? ⟨w6.heap.size, 0, none⟩ = some (.int .i64 (a : Int)) := by rw [(bcell hb7).1 _ _ (by simp)]; simp
                have c1 : w7.cell? ⟨w6.heap.size, 1, none⟩ = some (.int .i64 (n : Int)) := by rw [(bcell hb7).1 _ _ (by simp)]; simp
                have HB7 : Hid (Below w6.heap.size w6 w7) := Lib.hid (thn (alc0 _ _) hb7)
                clear hb7
                go_wp2_with fail
                refine (mtagged false a n t (HM6.out.later HB7.out) (by rw [open_same HL.out.same HL.out.high, HO.out]; rfl)).mono ?_
                rintro e w8 ⟨rfl, hb8⟩
                have HB8 : Hid (Below w6.heap.size w6 w8) := Lib.hid (thn HB7.out hb8)
                clear hb8
                go_wp2_with fail
                refine (mtag (-1) (-1) (HM6.out.later HB8.out) (by unfold tagI; rw [if_neg (by unfold openB; rw [show mayB (-1) 1 = false from by decide, Bool.false_and]; decide)])).mono ?_
                rintro e w9 ⟨rfl, hb9⟩
                have HB9 : Hid (Below w6.heap.size w6 w9) := Lib.hid (thn HB8.out hb9)
                clear hb9
                go_wp2
                go_ret
                exact ⟨rfl, HB0.out.trans ((HB6.out.trans (HB9.out.mono HB6.out.size)).mono HB0.out.size)⟩
            | true =>
              have hop : 0 ≤ (a : Int) ∧ 1 ≤ (n : Int) ∧ (a : Int) ≤ 2048 - n := by
                have := HO.out
                rw [openR, Bool.and_eq_true, decide_eq_true_eq] at this
                exact this.1
              obtain ⟨E, hE⟩ : ∃ E, (a + n - 1) / 16 = E := ⟨_, rfl⟩
              have ge : ((a : Int) + n - 1).tdiv 16 = (E : Int) := by rw [Int.tdiv_eq_ediv_of_nonneg (by omega)]; omega
              have ge2 : ((a : Int) + n - 1) / 16 = (E : Int) := by omega
              have hFE : F ≤ E ∧ E < 128 ∧ grF a = F ∧ grN a n = E - F + 1 := by
                have := HF.out
                unfold grF grN
                omega
              have HFE := Lib.hid hFE
              have a1 : (a : Int) < 2048 := by omega
              have n1 : (n : Int) < 128 := by have := HAN.out; omega
              clear hop hE hFE
              go_wp2_with fail
              go_loop [15, 16] (fun v15 v16 => ∃ j : Nat, j ≤ E - F + 1 ∧ v16 = .int .i64 ((F + j : Nat) : Int) ∧ v15 = .bool (allT r.t F t j)) (fun _ v16 => E + 1 - (intOf v16).toNat)
              case atStart => exact ⟨0, by omega, rfl, rfl⟩
              case round =>
                obtain ⟨j, hj, rfl, rfl⟩ := hrel
                obtain ⟨x, hx⟩ : ∃ x, F + j = x := ⟨_, rfl⟩
                rw [hx]
                have HX := Lib.hid hx
                by_cases hlt : x ≤ E
                · have l1 : (x : Int) ≤ (E : Int) := by omega
                  have q0 : (0 : Int) ≤ (x : Int) := by omega
                  have q1 : (x : Int) < 128 := by have := HFE.out; omega
                  have q2 : (x : Int).toNat = x := Int.toNat_natCast x
                  have k1 := (HA6.out.2 (2056 + x) (by omega)).1
                  rw [RS.ct _ (by omega)] at k1
                  have hnx : allT r.t F t (j + 1) = (allT r.t F t j && (r.t x == (t : Int))) := by rw [allT, hx]
                  have HNX := Lib.hid hnx
                  have HJ := Lib.hid (And.intro hj hlt)
                  generalize r.t x = tx at *
                  clear hnx hj hlt hx
                  cases hB : allT r.t F t j with
                  | true =>
                    have HBB := Lib.hid hB
                    clear hB
                    go_wp2_with fail
                    go_round
                    case rel => exact ⟨j + 1, by have := HJ.out; have := HX.out; have := HFE.out; omega, congrArg (Value.int .i64) (by have := HX.out; omega), by rw [HNX.out, HBB.out, Bool.true_and]⟩
                    case measure => (have := HJ.out; simp [intOf]; omega)
                  | false =>
                    have HBB := Lib.hid hB
                    clear hB
                    go_wp2_with fail
                    go_round
                    case rel => exact ⟨j + 1, by have := HJ.out; have := HX.out; have := HFE.out; omega, congrArg (Value.int .i64) (by have := HX.out; omega), by rw [HNX.out, HBB.out, Bool.false_and]⟩
                    case measure => (have := HJ.out; simp [intOf]; omega)
                · have l1 : ¬ (x : Int) ≤ (E : Int) := by omega
                  have HALL : Hid ((openB σ.pg a n && allR σ.f (grF a) t (grN a n)) = allT r.t F t j) := Lib.hid (by
                    have h1 := HFE.out
                    rw [open_same HL.out.same HL.out.high, HO.out, Bool.true_and, h1.2.2.1, h1.2.2.2, ← allT_R HL.out (by omega), show j = E - F + 1 by omega])
                  generalize allT r.t F t j = ALL at *
                  clear hx hlt hj
                  go_wp2_with fail
                  refine (mopen true a n (HM6.out.later (alc0 _ _)) (by rw [open_same HL.out.same HL.out.high]; exact HO.out)).mono ?_
                  rintro e w7 ⟨rfl, hb7⟩
                  have z7 : w6.heap.size < w7.heap.size := by have := hb7.size; simp at this; omega
                  have c0 : w7.cell? ⟨w6.heap.size, 0, none⟩ = some (.int .i64 (a : Int)) := by rw [(bcell hb7).1 _ _ (by simp)]; simp
                  have c1 : w7.cell? ⟨w6.heap.size, 1, none⟩ = some (.int .i64 (n : Int)) := by rw [(bcell hb7).1 _ _ (by simp)]; simp
                  have HB7 : Hid (Below w6.heap.size w6 w7) := Lib.hid (thn (alc0 _ _) hb7)
                  clear hb7
                  go_wp2_with fail
                  refine (mtagged ALL a n t (HM6.out.later HB7.out) HALL.out).mono ?_
                  rintro e w8 ⟨rfl, hb8⟩
                  have HB8 : Hid (Below w6.heap.size w6 w8) := Lib.hid (thn HB7.out hb8)
                  clear hb8
                  go_wp2_with fail
                  refine (mtag (-1) (-1) (HM6.out.later HB8.out) (by unfold tagI; rw [if_neg (by unfold openB; rw [show mayB (-1) 1 = false from by decide, Bool.false_and]; decide)])).mono ?_
                  rintro e w9 ⟨rfl, hb9⟩
                  have HB9 : Hid (Below w6.heap.size w6 w9) := Lib.hid (thn HB8.out hb9)
                  clear hb9
                  go_wp2
                  go_ret
                  exact ⟨rfl, HB0.out.trans ((HB6.out.trans (HB9.out.mono HB6.out.size)).mono HB0.out.size)⟩
end Go.Proofs.YtjbddhjjhjkpiaaDoorRRR
