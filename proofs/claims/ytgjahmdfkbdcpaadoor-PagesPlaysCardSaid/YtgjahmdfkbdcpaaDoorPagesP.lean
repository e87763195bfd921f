/- The walk of PagesPlays. -/
import Derived.Test.YtgjahmdfkbdcpaaDoorPagesZ
namespace Go.Proofs.YtgjahmdfkbdcpaaDoor
open Go.RowKit
set_option linter.unusedVariables false
set_option linter.unusedSimpArgs false

set_option maxRecDepth 8000 in
set_option maxHeartbeats 40000000 in
theorem walkPagesPlays (a0 : Int) (a1 : Option Addr) (len1 cap1 : Nat) (z1 : List Int) (w : World) (w0 : (Lit.int .i64 a0).wf = true) (w1 : IsRecs 3 w a1 len1 cap1 z1) (ht : TzTab w) :
    Calls Tryd.prog 4 #[.int .i64 a0, .slice a1 len1 cap1] w fun e w' => e = .returned (.bool true) ∧ Below w.heap.size w w' := by
  have T := Lib.hid ht; clear ht
  have HI := Lib.hid (w1.recs (by decide)); clear w1
  have e31 := and31 a0
  have k0 : 0 ≤ a0 % 32 := Int.emod_nonneg _ (by decide)
  have k1 : a0 % 32 < 32 := Int.emod_lt_of_pos _ (by decide)
  generalize a0 % 32 = k at *
  obtain ⟨zv, zi⟩ := zero_of_info arrInfo
  have zb := fun W : World => run_build (P := Tryd.prog) W 40 #[] arrZ arrBuilt
  have zs1 := fun W : World => run_storeAt_new (P := Tryd.prog) W 40 arrZ arrZ (by rw [arrSize]; exact zi) rfl arrOne
  have zs2 := fun W : World => run_storeCells_new (P := Tryd.prog) W 40 arrZ arrZ (by rw [arrSize]; exact zi) rfl arrOne
  have hZs := arrSize
  have HZ := Lib.hid arrAt
  generalize arrZ = Z at *
  obtain ⟨m, hm1, hm2, hm3⟩ : ∃ m : Nat, m ≤ len1 ∧ m ≤ 40 ∧ (m < len1 → m = 40) := ⟨min len1 40, by omega, by omega, by omega⟩
  go_enter Tryd.func4, Tryd.ntmps4
  go_wp2_with fail
  refine (pnew_any k k _ (by omega)).mono ?_
  rintro e v1 ⟨g, p, rfl, hp, hb1⟩
  go_wp2_with fail
  have HS0 := Lib.hid (stp_new (T := 40) hp HZ.out)
  have hbx := alc hb1 (.cells Z 40)
  have hlb : w.heap.size ≤ v1.heap.size := hb1.size
  obtain ⟨b, hb⟩ : ∃ b, v1.heap.size = b := ⟨_, rfl⟩
  rw [hb] at HS0 hlb ⊢
  have hpb : p < b := HS0.out.2.2.2.2.2
  clear hp hb1 HZ zv zi zb zs1 zs2 hZs
  go_loopw [8, 9, 10] (fun v8 v9 v10 wr => ∃ (i : Nat) (c pk : Int) (ws : List Nat), i ≤ m ∧ v8 = .int .i64 c ∧ v9 = .int .i64 pk ∧ v10 = .int .i64 i ∧ Hid (StP w.heap.size p g p b wr c k pk ws) ∧ Below w.heap.size w wr) (fun _ _ i _ => m - (intOf i).toNat)
  case atStart => exact ⟨0, 0, 0, _, by omega, rfl, rfl, rfl, HS0, hbx⟩
  case round =>
    clear HS0 hbx hb
    obtain ⟨i, c, pk, ws, him, rfl, rfl, rfl, HS, hbel⟩ := hrel
    have hbd := HS.out.1.2.2.1
    obtain ⟨c0, c1, p0, p1⟩ : 0 ≤ c ∧ c ≤ 1024 ∧ 0 ≤ pk ∧ pk ≤ 1024 := ⟨hbd.2.2.1, hbd.2.2.2.1, hbd.2.2.2.2⟩
    clear hbd
    by_cases hlt : i < m
    · obtain ⟨_, _, hin⟩ := HI.out
      rcases hin with h0 | ⟨rb, off, rfl, hrl, hrm, hrc⟩
      · exfalso; omega
      · have RW := Lib.hid (hrc (i * 3) (by omega))
        have r0 := (hbel.cell hrl).trans (hrc (i * 3) (by omega))
        have r1 := (hbel.cell hrl).trans (hrc (i * 3 + 1) (by omega))
        have r2 := (hbel.cell hrl).trans (hrc (i * 3 + 2) (by omega))
        rw [← Nat.add_assoc] at r1 r2
        clear hrc
        have HIx := HI
        clear HI
        generalize z1.getD (i * 3) 0 = A0 at *
        generalize z1.getD (i * 3 + 1) 0 = A1 at *
        generalize z1.getD (i * 3 + 2) 0 = A2 at *
        have f1 := and63 A1
        have f2 := and15 A2
        have f0 := and1 A0
        have s0 : 0 ≤ A1 % 64 := Int.emod_nonneg _ (by decide)
        have s1 : A1 % 64 < 64 := Int.emod_lt_of_pos _ (by decide)
        have s2 : 0 ≤ A2 % 16 := Int.emod_nonneg _ (by decide)
        have s3 : A2 % 16 < 16 := Int.emod_lt_of_pos _ (by decide)
        have s4 : A0 % 2 = 0 ∨ A0 % 2 = 1 := by omega
        generalize A1 % 64 = q1 at *
        generalize A2 % 16 = q2 at *
        generalize A0 % 2 = t at *
        obtain ⟨y, hy⟩ : ∃ y, q2 - 1 = y := ⟨_, rfl⟩
        have y0 : -1 ≤ y := by omega
        have y1 : y ≤ 14 := by omega
        have t1 : (i : Int) < len1 := by omega
        have t2 : (i : Int) < 40 := by omega
        have HSL := Lib.hid HS.out.2.2.1
        go_wp2_with fail
        go_quiet (fail)
        have HS2 : Hid (StP w.heap.size p g p b (wr.drewN nq) c k pk ws) := Lib.hid HS.out
        clear HS
        have HS := HS2; clear HS2
        have r3 : (wr.drewN nq).cell? ⟨rb, off + i * 3, none⟩ = some (.int .i64 A0) := r0
        have r4 : (wr.drewN nq).cell? ⟨rb, off + i * 3 + 1, none⟩ = some (.int .i64 A1) := r1
        have hbel3 := below_drewN hbel nq
        clear r0 r1 r2 hbel f2 hy s2 s3
        have hbel := hbel3; clear hbel3
        generalize wr.drewN nq = wr at *
        go_upto_if 59 with (fail)
        go_cut [11] (fun v11 wx => wr = wx ∧ ∃ x, v11 = .int .i64 x ∧ -4 ≤ x ∧ x ≤ 1059)
        case first =>
          go_wp2_with fail
          all_goals
            go_meet
            exact ⟨rfl, _, rfl, by omega, by omega⟩
        case rest =>
          obtain ⟨rfl, x, rfl, x0, x1⟩ := hcut
          clear f1 s0 s1 r4
          by_cases hth : thereI x y
          · as_aux_lemma =>
              have HTH := Lib.hid hth
              have hth2 : 0 ≤ x ∧ x < 1024 ∧ 1 ≤ y ∧ y ≤ 1024 - x := hth
              clear hth
              obtain ⟨h1, h2, h3, h4⟩ := hth2
              obtain ⟨X, rfl⟩ : ∃ X : Nat, x = X := ⟨x.toNat, by omega⟩
              obtain ⟨N, rfl⟩ : ∃ N : Nat, y = N := ⟨y.toNat, by omega⟩
              have hXN : X + N ≤ 1024 := by omega
              have hN1 : 1 ≤ N := by omega
              go_wp2_with fail
              go_loop [14, 15, 16] (fun v14 v15 v16 => ∃ j : Nat, j ≤ N ∧ v14 = .bool (someB ws X j) ∧ v15 = .bool (wholeB ws X j) ∧ v16 = .int .i64 ((X : Int) + j)) (fun _ _ v16 => ((X : Int) + N - intOf v16).toNat)
              case atStart => exact ⟨0, by omega, rfl, rfl, congrArg (Value.int .i64) (by omega)⟩
              case round =>
                obtain ⟨j, hj, rfl, rfl, rfl⟩ := hrel
                by_cases hjN : j < N
                · have l1 : (X : Int) + j < X + N := by omega
                  have l2 : (X : Int) + j < 1024 := by omega
                  have X2 : ((X : Int) + (j : Int)).toNat = X + j := by omega
                  have X0 : (0 : Int) ≤ (X : Int) + (j : Int) := by omega
                  obtain ⟨k1, k2⟩ := HS.out.2.1.2 (X + j) (by omega)
                  have n1 : someB ws X (j + 1) = (someB ws X j || bitB ws (X + j)) := rfl
                  have n2 : wholeB ws X (j + 1) = (wholeB ws X j && bitB ws (X + j)) := rfl
                  obtain ⟨Bx, hBx⟩ : ∃ Bx, bitB ws (X + j) = Bx := ⟨_, rfl⟩
                  rw [hBx] at k1 n1 n2
                  clear hBx
                  obtain ⟨s1, hs1⟩ : ∃ s1, someB ws X j = s1 := ⟨_, rfl⟩
                  obtain ⟨s2, hs2⟩ : ∃ s2, wholeB ws X j = s2 := ⟨_, rfl⟩
                  rw [hs1] at n1
                  rw [hs2] at n2
                  rw [hs1, hs2]
                  have HN1 := Lib.hid n1; have HN2 := Lib.hid n2
                  clear n1 n2 hs1 hs2
                  cases s1 <;> cases s2
                  all_goals
                    go_wp2_with fail
                    go_round
                    case rel => exact ⟨j + 1, by omega, by rw [HN1.out]; simp, by rw [HN2.out]; simp, by go_num⟩
                    case measure => simp [intOf] <;> omega
                · obtain rfl : N = j := by omega
                  have l1 : ¬ (X : Int) + N < X + N := by omega
                  rcases s4 with rfl | rfl
                  · cases hS : someB ws X N
                    · have hB0 := some_no hS
                      have HB0 := Lib.hid hB0
                      have hW0 : wholeB ws X N = false := whole_zero hN1 (hB0 X (Nat.le_refl _) (by omega))
                      rw [hW0]
                      have HW0 := Lib.hid hW0
                      clear hS hB0 hW0
                      go_wp2_with fail
                      refine (pmap_free (X : Int) (N : Int) HS.out.1 HTH.out (fun y y1 y2 => HB0.out y (by omega) (by omega)) (T.out.later hbel)).mono ?_
                      rintro e v2 (⟨hn, rfl, q2, hw2⟩ | ⟨hn, rfl, hp2, ho2⟩)
                      · have HS2 : Hid (StP w.heap.size p g p b v2 c k pk ws) := Lib.hid (by rw [hw2]; exact HS.out)
                        have hbel2 : Below w.heap.size w v2 := by rw [hw2]; exact below_drewN hbel q2
                        have r5 := (hbel2.cell hrl).trans RW.out
                        have hn2 : k < c + N := by omega
                        clear hw2 HB0 hn r3
                        go_wp2_with fail
                        go_loop [19] (fun v => v = .int .i64 (X : Int)) (fun _ => 0)
                        case atStart => rfl
                        case round =>
                          subst hrel
                          go_wp2_with fail
                          refine (pused HS2.out.1).mono ?_
                          rintro e w' ⟨rfl, rfl⟩
                          go_wp2_with fail
                          refine (ppeak HS2.out.1).mono ?_
                          rintro e w' ⟨rfl, rfl⟩
                          go_wp2_with fail
                          refine (pmost HS2.out.1).mono ?_
                          rintro e w' ⟨rfl, rfl⟩
                          go_wp2_with fail
                          refine (pwhole false _ _ HS2.out.1 (by rw [Int.toNat_natCast, Int.toNat_natCast, HW0.out, Bool.and_false])).mono ?_
                          rintro e w' ⟨rfl, rfl⟩
                          go_wp2_with fail
                          go_roundw
                          case rel => exact ⟨i + 1, c, pk, ws, by omega, rfl, rfl, by go_num, HS2, hbel2⟩
                          case measure => simp [intOf]; omega
                      · rw [Int.toNat_natCast, Int.toNat_natCast] at hp2
                        have hbel2 := below_only hbel ho2 (Nat.le_refl _)
                        have HA2 : Hid (ArrS b 1024 v2 ws) := Lib.hid (HS.out.2.1.keep (Nat.le_of_eq ho2.2.1.symm) (ho2.2.2 b (by omega)))
                        have hmx : (c + N ≤ pk ∧ max pk (c + N) = pk) ∨ (pk < c + N ∧ max pk (c + N) = c + N) := by omega
                        have hn2 : ¬ k < c + N := by omega
                        have hWN : wholeB (putN ws X N).1 X N = true := whole_bits (fun y y1 y2 => by rw [putN_bits ws X N y (by have := HSL.out; omega), decide_eq_true ⟨y1, y2⟩, Bool.or_true])
                        have HWN := Lib.hid hWN
                        clear ho2 hWN hn HW0 r3
                        rcases hmx with ⟨m1, m2⟩ | ⟨m1, m2⟩
                        · rw [m2] at hp2
                          have HP2 := Lib.hid hp2
                          clear hp2 m2
                          go_wp2_with fail
                          go_loopw [19] (fun v19 wx => ∃ j : Nat, j ≤ N ∧ v19 = .int .i64 ((X : Int) + j) ∧ Hid (PgIs w.heap.size p g p wx (c + N) k pk (putN ws X N).1 ∧ ArrS b 1024 wx (putN ws X j).1) ∧ Below w.heap.size w wx) (fun v19 _ => ((X : Int) + N - intOf v19).toNat)
                          case atStart => exact ⟨0, by omega, congrArg (Value.int .i64) (by omega), Lib.hid ⟨HP2.out, HA2.out⟩, hbel2⟩
                          case round =>
                            obtain ⟨j, hj, rfl, HR, hbj⟩ := hrel
                            have r0 := (hbj.cell hrl).trans RW.out
                            by_cases hjN : j < N
                            · have l1 : (X : Int) + j < X + N := by omega
                              have l2 : (X : Int) + j < 1024 := by omega
                              have X2 : ((X : Int) + (j : Int)).toNat = X + j := by omega
                              have X0 : (0 : Int) ≤ (X : Int) + (j : Int) := by omega
                              obtain ⟨k1, k2⟩ := HR.out.2.2 (X + j) (by omega)
                              have hnx := (putN_next (ws := ws) (x := X) (j := j) (by have := HSL.out; omega)).1
                              have HN1 := Lib.hid hnx; clear hnx
                              go_wp2_with fail
                              go_roundw
                              case rel => exact ⟨j + 1, by omega, by go_num, Lib.hid ⟨pgset HR.out.1 hpb, HR.out.2.put (by omega) HN1.out⟩, hbj.setCell (by omega) _⟩
                              case measure => simp [intOf]; omega
                            · obtain rfl : N = j := by omega
                              have l1 : ¬ (X : Int) + N < X + N := by omega
                              have HSN := Lib.hid (HS.out.puts hXN HB0.out HR.out.1 HR.out.2)
                              have HPN := Lib.hid HR.out.1
                              clear HR HP2 HA2
                              generalize (putN ws X N).1 = ws' at *
                              go_wp2_with fail
                              refine (pused HPN.out).mono ?_
                              rintro e w' ⟨rfl, rfl⟩
                              go_wp2_with fail
                              refine (ppeak HPN.out).mono ?_
                              rintro e w' ⟨rfl, rfl⟩
                              go_wp2_with fail
                              refine (pmost HPN.out).mono ?_
                              rintro e w' ⟨rfl, rfl⟩
                              go_wp2_with fail
                              refine (pwhole true _ _ HPN.out (by rw [Int.toNat_natCast, Int.toNat_natCast, HWN.out, Bool.and_true]; exact decide_eq_true (by omega))).mono ?_
                              rintro e w' ⟨rfl, rfl⟩
                              go_wp2_with fail
                              go_roundw
                              case rel => exact ⟨i + 1, c + N, pk, ws', by omega, rfl, rfl, by go_num, HSN, hbj⟩
                              case measure => simp [intOf]; omega
                        · rw [m2] at hp2
                          have HP2 := Lib.hid hp2
                          clear hp2 m2
                          go_wp2_with fail
                          go_loopw [19] (fun v19 wx => ∃ j : Nat, j ≤ N ∧ v19 = .int .i64 ((X : Int) + j) ∧ Hid (PgIs w.heap.size p g p wx (c + N) k (c + N) (putN ws X N).1 ∧ ArrS b 1024 wx (putN ws X j).1) ∧ Below w.heap.size w wx) (fun v19 _ => ((X : Int) + N - intOf v19).toNat)
                          case atStart => exact ⟨0, by omega, congrArg (Value.int .i64) (by omega), Lib.hid ⟨HP2.out, HA2.out⟩, hbel2⟩
                          case round =>
                            obtain ⟨j, hj, rfl, HR, hbj⟩ := hrel
                            have r0 := (hbj.cell hrl).trans RW.out
                            by_cases hjN : j < N
                            · have l1 : (X : Int) + j < X + N := by omega
                              have l2 : (X : Int) + j < 1024 := by omega
                              have X2 : ((X : Int) + (j : Int)).toNat = X + j := by omega
                              have X0 : (0 : Int) ≤ (X : Int) + (j : Int) := by omega
                              obtain ⟨k1, k2⟩ := HR.out.2.2 (X + j) (by omega)
                              have hnx := (putN_next (ws := ws) (x := X) (j := j) (by have := HSL.out; omega)).1
                              have HN1 := Lib.hid hnx; clear hnx
                              go_wp2_with fail
                              go_roundw
                              case rel => exact ⟨j + 1, by omega, by go_num, Lib.hid ⟨pgset HR.out.1 hpb, HR.out.2.put (by omega) HN1.out⟩, hbj.setCell (by omega) _⟩
                              case measure => simp [intOf]; omega
                            · obtain rfl : N = j := by omega
                              have l1 : ¬ (X : Int) + N < X + N := by omega
                              have HSN := Lib.hid (HS.out.puts hXN HB0.out HR.out.1 HR.out.2)
                              have HPN := Lib.hid HR.out.1
                              clear HR HP2 HA2
                              generalize (putN ws X N).1 = ws' at *
                              go_wp2_with fail
                              refine (pused HPN.out).mono ?_
                              rintro e w' ⟨rfl, rfl⟩
                              go_wp2_with fail
                              refine (ppeak HPN.out).mono ?_
                              rintro e w' ⟨rfl, rfl⟩
                              go_wp2_with fail
                              refine (pmost HPN.out).mono ?_
                              rintro e w' ⟨rfl, rfl⟩
                              go_wp2_with fail
                              refine (pwhole true _ _ HPN.out (by rw [Int.toNat_natCast, Int.toNat_natCast, HWN.out, Bool.and_true]; exact decide_eq_true (by omega))).mono ?_
                              rintro e w' ⟨rfl, rfl⟩
                              go_wp2_with fail
                              go_roundw
                              case rel => exact ⟨i + 1, c + N, (c + N), ws', by omega, rfl, rfl, by go_num, HSN, hbj⟩
                              case measure => simp [intOf]; omega
                    · obtain ⟨y3, y4, y5, y6⟩ := some_yes hS
                      have HY : Hid (∃ y : Nat, (X : Int) ≤ y ∧ (y : Int) < X + N ∧ bitB ws y = true) := Lib.hid ⟨y3, by omega, by omega, y6⟩
                      clear y4 y5 y6 hS
                      cases hW : wholeB ws X N
                      · have HW0 := Lib.hid hW; clear hW
                        go_wp2_with fail
                        refine (pmap_mapped (X : Int) (N : Int) HS.out.1 HTH.out HY.out (T.out.later hbel)).mono ?_
                        rintro e w' ⟨rfl, rfl⟩
                        go_wp2_with fail
                        go_loop [19] (fun v => v = .int .i64 (X : Int)) (fun _ => 0)
                        case atStart => rfl
                        case round =>
                          subst hrel
                          go_wp2_with fail
                          refine (pused HS.out.1).mono ?_
                          rintro e w' ⟨rfl, rfl⟩
                          go_wp2_with fail
                          refine (ppeak HS.out.1).mono ?_
                          rintro e w' ⟨rfl, rfl⟩
                          go_wp2_with fail
                          refine (pmost HS.out.1).mono ?_
                          rintro e w' ⟨rfl, rfl⟩
                          go_wp2_with fail
                          refine (pwhole false _ _ HS.out.1 (by rw [Int.toNat_natCast, Int.toNat_natCast, HW0.out, Bool.and_false])).mono ?_
                          rintro e w' ⟨rfl, rfl⟩
                          go_wp2_with fail
                          go_roundw
                          case rel => exact ⟨i + 1, c, pk, ws, by omega, rfl, rfl, by go_num, HS, hbel⟩
                          case measure => simp [intOf]; omega
                      · have HW0 := Lib.hid hW; clear hW
                        go_wp2_with fail
                        refine (pmap_mapped (X : Int) (N : Int) HS.out.1 HTH.out HY.out (T.out.later hbel)).mono ?_
                        rintro e w' ⟨rfl, rfl⟩
                        go_wp2_with fail
                        go_loop [19] (fun v => v = .int .i64 (X : Int)) (fun _ => 0)
                        case atStart => rfl
                        case round =>
                          subst hrel
                          go_wp2_with fail
                          refine (pused HS.out.1).mono ?_
                          rintro e w' ⟨rfl, rfl⟩
                          go_wp2_with fail
                          refine (ppeak HS.out.1).mono ?_
                          rintro e w' ⟨rfl, rfl⟩
                          go_wp2_with fail
                          refine (pmost HS.out.1).mono ?_
                          rintro e w' ⟨rfl, rfl⟩
                          go_wp2_with fail
                          refine (pwhole true _ _ HS.out.1 (by rw [Int.toNat_natCast, Int.toNat_natCast, HW0.out, Bool.and_true]; exact decide_eq_true (by omega))).mono ?_
                          rintro e w' ⟨rfl, rfl⟩
                          go_wp2_with fail
                          go_roundw
                          case rel => exact ⟨i + 1, c, pk, ws, by omega, rfl, rfl, by go_num, HS, hbel⟩
                          case measure => simp [intOf]; omega
                  · generalize someB ws X N = S0
                    cases hW : wholeB ws X N
                    · have HW0 := Lib.hid hW; clear hW
                      go_wp2_with fail
                      refine (punmap_not (X : Int) (N : Int) HS.out.1 HTH.out (by rw [Int.toNat_natCast, Int.toNat_natCast]; exact HW0.out)).mono ?_
                      rintro e w' ⟨rfl, rfl⟩
                      go_wp2_with fail
                      go_loop [19] (fun v => v = .int .i64 (X : Int)) (fun _ => 0)
                      case atStart => rfl
                      case round =>
                        subst hrel
                        go_wp2_with fail
                        refine (pused HS.out.1).mono ?_
                        rintro e w' ⟨rfl, rfl⟩
                        go_wp2_with fail
                        refine (ppeak HS.out.1).mono ?_
                        rintro e w' ⟨rfl, rfl⟩
                        go_wp2_with fail
                        refine (pmost HS.out.1).mono ?_
                        rintro e w' ⟨rfl, rfl⟩
                        go_wp2_with fail
                        refine (pwhole false _ _ HS.out.1 (by rw [Int.toNat_natCast, Int.toNat_natCast, HW0.out, Bool.and_false])).mono ?_
                        rintro e w' ⟨rfl, rfl⟩
                        go_wp2_with fail
                        go_roundw
                        case rel => exact ⟨i + 1, c, pk, ws, by omega, rfl, rfl, by go_num, HS, hbel⟩
                        case measure => simp [intOf]; omega
                    · have hB0 := whole_yes hW
                      have HB0 := Lib.hid hB0
                      have HW0 := Lib.hid hW
                      have hle := HS.out.drops_le hXN hB0
                      have hWN : wholeB (dropN ws X N).1 X N = false := whole_zero hN1 (by rw [dropN_bits ws X N X (by have := HSL.out; omega), decide_eq_true ⟨Nat.le_refl _, by omega⟩, Bool.not_true, Bool.and_false])
                      have HWN := Lib.hid hWN
                      clear hB0 hW hWN
                      go_wp2_with fail
                      refine (punmap_ok (X : Int) (N : Int) HS.out.1 HTH.out (by rw [Int.toNat_natCast, Int.toNat_natCast]; exact HW0.out) hle).mono ?_
                      rintro e v2 ⟨rfl, hp2, ho2⟩
                      rw [Int.toNat_natCast, Int.toNat_natCast] at hp2
                      have hbel2 := below_only hbel ho2 (Nat.le_refl _)
                      have HA2 : Hid (ArrS b 1024 v2 ws) := Lib.hid (HS.out.2.1.keep (Nat.le_of_eq ho2.2.1.symm) (ho2.2.2 b (by omega)))
                      have HP2 := Lib.hid hp2
                      clear ho2 hp2 r3 HW0
                      go_wp2_with fail
                      go_loopw [19] (fun v19 wx => ∃ j : Nat, j ≤ N ∧ v19 = .int .i64 ((X : Int) + j) ∧ Hid (PgIs w.heap.size p g p wx (c - N) k pk (dropN ws X N).1 ∧ ArrS b 1024 wx (dropN ws X j).1) ∧ Below w.heap.size w wx) (fun v19 _ => ((X : Int) + N - intOf v19).toNat)
                      case atStart => exact ⟨0, by omega, congrArg (Value.int .i64) (by omega), Lib.hid ⟨HP2.out, HA2.out⟩, hbel2⟩
                      case round =>
                        obtain ⟨j, hj, rfl, HR, hbj⟩ := hrel
                        have r0 := (hbj.cell hrl).trans RW.out
                        by_cases hjN : j < N
                        · have l1 : (X : Int) + j < X + N := by omega
                          have l2 : (X : Int) + j < 1024 := by omega
                          have X2 : ((X : Int) + (j : Int)).toNat = X + j := by omega
                          have X0 : (0 : Int) ≤ (X : Int) + (j : Int) := by omega
                          obtain ⟨k1, k2⟩ := HR.out.2.2 (X + j) (by omega)
                          have hnx := (dropN_next (ws := ws) (x := X) (j := j) (by have := HSL.out; omega)).1
                          have HN1 := Lib.hid hnx; clear hnx
                          go_wp2_with fail
                          go_roundw
                          case rel => exact ⟨j + 1, by omega, by go_num, Lib.hid ⟨pgset HR.out.1 hpb, HR.out.2.drop (by omega) HN1.out⟩, hbj.setCell (by omega) _⟩
                          case measure => simp [intOf]; omega
                        · obtain rfl : N = j := by omega
                          have l1 : ¬ (X : Int) + N < X + N := by omega
                          have HSN := Lib.hid (HS.out.drops hXN HB0.out HR.out.1 HR.out.2)
                          have HPN := Lib.hid HR.out.1
                          clear HR HP2 HA2
                          generalize (dropN ws X N).1 = ws' at *
                          go_wp2_with fail
                          refine (pused HPN.out).mono ?_
                          rintro e w' ⟨rfl, rfl⟩
                          go_wp2_with fail
                          refine (ppeak HPN.out).mono ?_
                          rintro e w' ⟨rfl, rfl⟩
                          go_wp2_with fail
                          refine (pmost HPN.out).mono ?_
                          rintro e w' ⟨rfl, rfl⟩
                          go_wp2_with fail
                          refine (pwhole false _ _ HPN.out (by rw [Int.toNat_natCast, Int.toNat_natCast, HWN.out, Bool.and_false])).mono ?_
                          rintro e w' ⟨rfl, rfl⟩
                          go_wp2_with fail
                          go_roundw
                          case rel => exact ⟨i + 1, c - N, pk, ws', by omega, rfl, rfl, by go_num, HSN, hbj⟩
                          case measure => simp [intOf]; omega
          · as_aux_lemma =>
              have hc : decide (0 ≤ x) = false ∨ (0 ≤ x ∧ decide (x < 1024) = false) ∨ (0 ≤ x ∧ x < 1024 ∧ decide (1 ≤ y) = false) ∨ (0 ≤ x ∧ x < 1024 ∧ 1 ≤ y ∧ decide (y ≤ 1024 - x) = false) := by unfold thereI at hth; simp only [decide_eq_false_iff_not]; omega
              have hd : decide (1 ≤ y ∧ 0 ≤ x ∧ x ≤ 1024 - y) = false := decide_eq_false (by unfold thereI at hth; omega)
              have HTH := Lib.hid hth; have HD := Lib.hid hd
              clear hth hd
              go_upto_region 9 with (fail)
              go_cut [13] (fun v13 wx => v13 = .bool false ∧ wr = wx)
              case first =>
                rcases hc with h1 | ⟨h1, h2⟩ | ⟨h1, h2, h3⟩ | ⟨h1, h2, h3, h4⟩
                all_goals
                  go_wp2_with fail
                  go_meet
                  exact ⟨rfl, rfl⟩
              case rest =>
                obtain ⟨rfl, rfl⟩ := hcut
                clear hc
                rcases s4 with rfl | rfl
                ·
                  go_wp2_with fail
                  go_loop [14, 15, 16] (fun v14 v15 v16 => v14 = .bool false ∧ v15 = .bool false ∧ v16 = .int .i64 x) (fun _ _ _ => 0)
                  case atStart => exact ⟨rfl, rfl, rfl⟩
                  case round =>
                    obtain ⟨rfl, rfl, rfl⟩ := hrel
                    go_wp2_with fail
                    refine (pmap_in x y HS.out.1 HTH.out).mono ?_
                    rintro e w' ⟨rfl, rfl⟩
                    go_wp2_with fail
                    go_loop [19] (fun v => v = .int .i64 x) (fun _ => 0)
                    case atStart => rfl
                    case round =>
                      subst hrel
                      go_wp2_with fail
                      refine (pused HS.out.1).mono ?_
                      rintro e w' ⟨rfl, rfl⟩
                      go_wp2_with fail
                      refine (ppeak HS.out.1).mono ?_
                      rintro e w' ⟨rfl, rfl⟩
                      go_wp2_with fail
                      refine (pmost HS.out.1).mono ?_
                      rintro e w' ⟨rfl, rfl⟩
                      go_wp2_with fail
                      refine (pwhole false _ _ HS.out.1 (by rw [HD.out]; rfl)).mono ?_
                      rintro e w' ⟨rfl, rfl⟩
                      go_wp2_with fail
                      go_roundw
                      case rel => exact ⟨i + 1, c, pk, ws, by omega, rfl, rfl, by go_num, HS, hbel⟩
                      case measure => simp [intOf]; omega
                ·
                  go_wp2_with fail
                  go_loop [14, 15, 16] (fun v14 v15 v16 => v14 = .bool false ∧ v15 = .bool false ∧ v16 = .int .i64 x) (fun _ _ _ => 0)
                  case atStart => exact ⟨rfl, rfl, rfl⟩
                  case round =>
                    obtain ⟨rfl, rfl, rfl⟩ := hrel
                    go_wp2_with fail
                    refine (punmap_in x y HS.out.1 HTH.out).mono ?_
                    rintro e w' ⟨rfl, rfl⟩
                    go_wp2_with fail
                    go_loop [19] (fun v => v = .int .i64 x) (fun _ => 0)
                    case atStart => rfl
                    case round =>
                      subst hrel
                      go_wp2_with fail
                      refine (pused HS.out.1).mono ?_
                      rintro e w' ⟨rfl, rfl⟩
                      go_wp2_with fail
                      refine (ppeak HS.out.1).mono ?_
                      rintro e w' ⟨rfl, rfl⟩
                      go_wp2_with fail
                      refine (pmost HS.out.1).mono ?_
                      rintro e w' ⟨rfl, rfl⟩
                      go_wp2_with fail
                      refine (pwhole false _ _ HS.out.1 (by rw [HD.out]; rfl)).mono ?_
                      rintro e w' ⟨rfl, rfl⟩
                      go_wp2_with fail
                      go_roundw
                      case rel => exact ⟨i + 1, c, pk, ws, by omega, rfl, rfl, by go_num, HS, hbel⟩
                      case measure => simp [intOf]; omega
    ·
      obtain ⟨C, hC⟩ : ∃ C, cntB ws 1024 = C := ⟨_, rfl⟩
      obtain rfl : c = (C : Int) := by rw [← hC]; exact HS.out.2.2.2.1
      have HC := Lib.hid hC
      have hCK : C ≤ 1024 := by rw [← hC]; exact cntB_le ws 1024
      clear hC
      obtain rfl : i = m := by omega
      have hend : ¬ (i : Int) < len1 ∨ ((i : Int) < len1 ∧ ¬ (i : Int) < 40) := by omega
      go_upto_region 4 with (fail)
      go_cut [35] (fun v35 wx => v35 = .bool false ∧ wr = wx)
      case first =>
        rcases hend with hend | ⟨hend1, hend⟩
        all_goals
          go_wp2_with fail
          go_meet
          exact ⟨rfl, rfl⟩
      case rest =>
        obtain ⟨rfl, rfl⟩ := hcut
        clear hend
        as_aux_lemma =>
          go_wp2_with fail
          refine (plist HS.out.1 HS.out.2.2.2.2.1 (T.out.later hbel)).mono ?_
          rintro e v3 ⟨la, lc, rfl, hl3, hb3⟩
          rw [listB_len, HC.out] at hl3 ⊢
          have hbel3 := hbel.trans (hb3.mono hbel.size)
          have HS3 : Hid (StP w.heap.size p g p b v3 C k pk ws) := Lib.hid (HS.out.grow hb3)
          obtain ⟨_, hlr⟩ := hl3
          have HLR := Lib.hid hlr
          clear hlr hb3
          go_wp2_with fail
          go_loopw [21, 22] (fun v21 v22 wx => ∃ x q : Nat, x ≤ 1024 ∧ v21 = .int .i64 (cntB ws x : Nat) ∧ v22 = .int .i64 x ∧ wx = v3.drewN q) (fun _ v22 _ => 1024 - (intOf v22).toNat)
          case atStart => exact ⟨0, 0, by omega, rfl, rfl, rfl⟩
          case round =>
            obtain ⟨x, q, hx, rfl, rfl, hwx⟩ := hrel
            have HW := Lib.hid hwx
            have HSx : Hid (StP w.heap.size p g p b wr C k pk ws) := Lib.hid (by rw [hwx]; exact HS3.out)
            have hbelx : Below w.heap.size w wr := by rw [hwx]; exact below_drewN hbel3 q
            clear hwx
            by_cases hxK : x < 1024
            · have x1 : (x : Int) < 1024 := by omega
              have x0 : (0 : Int) ≤ (x : Int) := by omega
              have x2 : (x : Int).toNat = x := Int.toNat_natCast x
              obtain ⟨k1, k2⟩ := HSx.out.2.1.2 x hxK
              obtain ⟨B, hB⟩ : ∃ B, bitB ws x = B := ⟨_, rfl⟩
              rw [hB] at k1
              have HH := Lib.hid (fun n => phas (W := wr.drewN n) (lo := w.heap.size) (hi := p) (g := g) (p := p) (c := C) (most := k) (peak := pk) (ws := ws) B x HSx.out.1 (by rw [Int.toNat_natCast, hB, decide_eq_true ⟨by omega, x1⟩, Bool.true_and]))
              have hnx : cntB ws (x + 1) = cntB ws x + if B then 1 else 0 := by rw [cntB, hB]
              have hcx : cntB ws x ≤ 1024 := by have := cntB_le ws x; omega
              cases B
              · clear hB
                have HNX := Lib.hid hnx; clear hnx
                obtain ⟨Cx, hCx⟩ : ∃ Cx, cntB ws x = Cx := ⟨_, rfl⟩
                rw [hCx] at HNX hcx ⊢
                clear hCx
                go_wp2_with fail
                go_quiet (exact Calls.quiet_of_same ((HH.out _).mono fun _ _ ⟨he, hm⟩ => ⟨he, hm.symm⟩))
                go_wp2_with fail
                go_roundw
                case rel => exact ⟨x + 1, q + nq, by omega, by rw [HNX.out]; simp, by go_num, by rw [HW.out]; simp⟩
                case measure => simp [intOf]; omega
              · obtain ⟨c1, c2⟩ := listB_at hxK hB
                rw [HC.out] at c1
                have HN := Lib.hid (fun n => pnext_is (W := wr.drewN n) (lo := w.heap.size) (hi := p) (g := g) (p := p) (c := C) (k := k) (pk := pk) (ws := ws) x HSx.out.1 hxK HSx.out.2.2.1 hB (T.out.later (below_drewN hbelx n)))
                clear hB
                rcases HLR.out with h0 | ⟨lb, loff, rfl, hlb, _, hcell⟩
                · exfalso; omega
                · have k3 : wr.cell? ⟨lb, loff + cntB ws x, none⟩ = some (.int .i64 x) := by
                    rw [HW.out, ← c2]; exact hcell (cntB ws x) c1
                  have HNX := Lib.hid hnx
                  clear hcell hnx c2
                  obtain ⟨Cx, hCx⟩ : ∃ Cx, cntB ws x = Cx := ⟨_, rfl⟩
                  rw [hCx] at HNX hcx k3 c1 ⊢
                  clear hCx
                  have d1 : decide ((C : Int) ≤ (Cx : Int)) = false := decide_eq_false (by omega)
                  have d2 : (0 : Int) ≤ (Cx : Int) := by omega
                  have d3 : (Cx : Int) < C := by omega
                  have d4 : (Cx : Int).toNat = Cx := Int.toNat_natCast Cx
                  go_wp2_with fail
                  go_quiet (first | exact Calls.quiet_of_same ((HH.out _).mono fun _ _ ⟨he, hm⟩ => ⟨he, hm.symm⟩) | exact Calls.quiet_of_same ((HN.out _).mono fun _ _ ⟨he, hm⟩ => ⟨he, hm.symm⟩))
                  go_wp2_with fail
                  go_roundw
                  case rel => exact ⟨x + 1, q + nq, by omega, by rw [HNX.out]; go_num, by go_num, by rw [HW.out]; simp⟩
                  case measure => simp [intOf]; omega
            · obtain rfl : x = 1024 := by omega
              rw [HC.out]
              go_wp2_with fail
              refine (s04awake_any _ (T.out.later hbelx)).mono ?_
              rintro e v4 ⟨rfl, hb4⟩
              have hbel4 := hbelx.trans (hb4.mono hbelx.size)
              have HP4 := Lib.hid (HSx.out.1.below hb4 HSx.out.1.2.1.2 hb4.size)
              clear hb4
              go_wp2_with fail
              refine (phas false (-1) HP4.out (by rw [decide_eq_false (by omega)]; rfl)).mono ?_
              rintro e w' ⟨rfl, rfl⟩
              go_wp2_with fail
              refine (phas false 1024 HP4.out (by rw [decide_eq_false (by omega)]; rfl)).mono ?_
              rintro e w' ⟨rfl, rfl⟩
              go_wp2
              go_ret
              exact ⟨rfl, hbel4⟩
end Go.Proofs.YtgjahmdfkbdcpaaDoor
