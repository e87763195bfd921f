/- The walk of GapsPlays. -/
import Derived.Test.YtjblgamngnnccaaDoorGapV
namespace Go.Proofs.YtjblgamngnnccaaDoor
open Go.RowKit
set_option linter.unusedVariables false
set_option linter.unusedSimpArgs false

set_option maxRecDepth 100000 in
set_option maxHeartbeats 40000000 in
theorem walkGapsPlays (a0 : Option Addr) (len0 cap0 : Nat) (z0 : List Int) (a1 : Int) (w : World) (w0 : IsRecs 3 w a0 len0 cap0 z0) (w1 : (Lit.int .i64 a1).wf = true) (ht : TzTab w) :
    Calls Tryd.prog 5 #[.slice a0 len0 cap0, .int .i64 a1] w fun e w' => e = .returned (.bool true) ∧ Below w.heap.size w w' := by
  have T := Lib.hid ht
  clear ht
  have HR := Lib.hid (w0.recs (by decide))
  clear w0
  obtain ⟨n1, hn1, hn2, hn3⟩ : ∃ n : Nat, n ≤ len0 ∧ n ≤ 30 ∧ (n < len0 → n = 30) := ⟨min len0 30, by omega, by omega, by omega⟩
  obtain ⟨B0, hB0⟩ : ∃ B0, w.heap.size = B0 := ⟨_, rfl⟩
  obtain ⟨zv, zi⟩ := zero_of_info arrInfo
  have zb := fun W : World => run_build (P := Tryd.prog) W 41 #[] arrZ arrBuilt
  have zs1 := fun W : World => run_storeAt_new (P := Tryd.prog) W 41 arrZ arrZ (by rw [arrSize]; exact zi) rfl arrOne
  have zs2 := fun W : World => run_storeCells_new (P := Tryd.prog) W 41 arrZ arrZ (by rw [arrSize]; exact zi) rfl arrOne
  have hZs := arrSize
  have HZ := Lib.hid arrAt
  generalize arrZ = Z at *
  go_enter Tryd.func5, Tryd.ntmps5
  go_wp2_with fail
  refine (gnew_yes 5 40 w ⟨by decide, by decide, by decide, by decide⟩).mono ?_
  rintro e v1 ⟨lo, hi, s, g, ws0, rfl, hg, hbits, hb1, hl1, hl2⟩
  have HS0 : Hid (SG B0 lo hi s g v1.heap.size w (v1.alloc (.cells Z 41)) ws0) := Lib.hid (by
    have hcnt : ∀ n, n ≤ 40 → cntB ws0 n = n := by
      intro n
      induction n with
      | zero => intro _; rfl
      | succ n ih => intro hn; rw [cntB, ih (by omega), hbits, if_pos (by simp; omega)]
    have hg2 : GpAt lo hi s g v1 5 ((40 : Nat) : Int) (cntB ws0 40) ws0 := by rw [hcnt 40 (Nat.le_refl _)]; exact hg
    have hgs := hg.1
    have hhs := hg.2.2.2.2.2.1.1.2.2
    refine ⟨hg2.below (alc0 _ _), fun y hy => by rw [hbits]; simp; omega, ⟨by simp, fun i hi => ⟨?_, by simp⟩⟩, ⟨by omega, .inr hhs⟩, ⟨by omega, by omega, by simp; omega⟩, ?_⟩
    · rw [World.cell?_alloc_mark, HZ.out i hi, hbits]
      simp
      omega
    · rw [← hB0]; exact alc hb1 _)
  go_wp2_with fail
  obtain ⟨b, hb⟩ : ∃ b, v1.heap.size = b := ⟨_, rfl⟩
  rw [hb] at HS0 ⊢
  clear hg hbits hb1 hl1 hl2 HZ zv zi zb zs1 zs2 hZs
  go_loopw [7] (fun v7 wr => ∃ (i : Nat) (ws : List Nat), i ≤ n1 ∧ v7 = .int .i64 i ∧ Hid (SG B0 lo hi s g b w wr ws)) (fun v7 _ => n1 - (intOf v7).toNat)
  case atStart => exact ⟨0, ws0, by omega, rfl, HS0⟩
  case round =>
    clear HS0 hb
    obtain ⟨i, ws, hi9, rfl, HN⟩ := hrel
    have hN40 : ((40 : Nat) : Int) = 40 := rfl
    by_cases hlt : i < n1
    · obtain ⟨_, hbd, h0 | ⟨bb, off, rfl, hbb, _, hc⟩⟩ := HR.out
      · omega
      · have hbelW := HN.out.2.2.2.2.2
        rw [hB0] at hbb
        have R0 := Lib.hid (hc (i * 3) (by omega))
        have r0 := (hbelW.cell (p := ⟨bb, off + i * 3, none⟩) hbb).trans (hc (i * 3) (by omega))
        have r1 := (hbelW.cell (p := ⟨bb, off + (i * 3 + 1), none⟩) hbb).trans (hc (i * 3 + 1) (by omega))
        have r2 := (hbelW.cell (p := ⟨bb, off + (i * 3 + 2), none⟩) hbb).trans (hc (i * 3 + 2) (by omega))
        rw [← Nat.add_assoc] at r1 r2
        have HRx := HR
        clear hc hbd HR hbelW
        generalize z0.getD (i * 3) 0 = A0 at *
        generalize z0.getD (i * 3 + 1) 0 = A1 at *
        generalize z0.getD (i * 3 + 2) 0 = A2 at *
        have f0 := and1 A0
        have f3 := and3 A0
        have f1 := and63 A1
        have f2 := and7 A2
        have s0 : A0 % 2 = 0 ∨ A0 % 2 = 1 := by omega
        have s1 : 0 ≤ A1 % 64 ∧ A1 % 64 < 64 := ⟨Int.emod_nonneg _ (by decide), Int.emod_lt_of_pos _ (by decide)⟩
        have s2 : 0 ≤ A2 % 8 ∧ A2 % 8 < 8 := ⟨Int.emod_nonneg _ (by decide), Int.emod_lt_of_pos _ (by decide)⟩
        generalize A1 % 64 = f at *
        generalize A2 % 8 = m at *
        generalize A0 % 2 = t at *
        generalize A0 % 4 = t4 at *
        have t1 : (i : Int) < len0 := by omega
        have t2 : (i : Int) < 30 := by omega
        go_wp2_with fail
        go_quiet (fail)
        have HN5 := Lib.hid (HN.out.drw nq)
        have q0 : (wr.drewN nq).cell? ⟨bb, off + i * 3, none⟩ = some (.int .i64 A0) := r0
        generalize wr.drewN nq = W5 at *
        clear r0 r1 r2 HN
        go_upto_if 60 with (fail)
        go_cut [8] (fun v8 wx => ∃ f : Int, v8 = .int .i64 f ∧ -1 ≤ f ∧ f ≤ 63 ∧ Hid (SG B0 lo hi s g b w wx ws))
        case first =>
          skip
          as_aux_lemma =>
            by_cases hq : t4 = 2
            · have hq2 : (t4 == 2) = true := by simpa using hq
              have hfb := find_bd ws m
              go_wp2_with fail
              refine (gfind_is lo hi s g _ 5 _ 40 ws m HN5.out.1 HN5.out.2.1 (T.out.later (by rw [hB0]; exact HN5.out.2.2.2.2.2)) (by decide)).mono ?_
              rintro e w9 ⟨rfl, hb9⟩
              have HN9 := Lib.hid (HN5.out.below hb9)
              obtain ⟨fv, hfv⟩ : ∃ fv, (if m < 1 then -1 else findL m (runs 5 (listB ws 40))) = fv := ⟨_, rfl⟩
              rw [hfv] at hfb ⊢
              clear hb9 hfv
              go_wp2_with fail
              go_meet
              exact ⟨fv, rfl, by omega, by omega, HN9⟩
            · have hq2 : (t4 == 2) = false := by simpa using hq
              go_wp2_with fail
              go_meet
              exact ⟨f, rfl, by omega, by omega, HN5⟩
        case rest =>
          obtain ⟨f, rfl, f0', f1', HN⟩ := hcut
          clear HN5 q0 s1 f1 f3
          have q0 := (HN.out.2.2.2.2.2.cell (p := ⟨bb, off + i * 3, none⟩) (by exact hbb)).trans R0.out
          go_upto_region 8 with (fail)
          go_cut [10] (fun v10 wx => ∃ X : Bool, v10 = .bool X ∧ (X = true → 5 ≤ f ∧ 1 ≤ m ∧ f + m ≤ 45) ∧ (X = false → ¬ (5 ≤ f ∧ 1 ≤ m ∧ f + m ≤ 45)) ∧ wc = wx)
          case first =>
            skip
            as_aux_lemma =>
              by_cases c1 : 5 ≤ f
              · by_cases c2 : 1 ≤ m
                · by_cases c3 : f + m ≤ 45
                  · have hX : Hid (5 ≤ f ∧ 1 ≤ m ∧ f + m ≤ 45) := Lib.hid ⟨c1, c2, c3⟩
                    go_wp2_with fail
                    go_meet
                    exact ⟨true, rfl, fun _ => hX.out, fun h => by simp at h, rfl⟩
                  · have hX : Hid (¬ (5 ≤ f ∧ 1 ≤ m ∧ f + m ≤ 45)) := Lib.hid (fun h => c3 h.2.2)
                    have d3 : decide (f + m ≤ 45) = false := by simpa using c3
                    go_wp2_with fail
                    go_meet
                    exact ⟨false, rfl, fun h => by simp at h, fun _ => hX.out, rfl⟩
                · have hX : Hid (¬ (5 ≤ f ∧ 1 ≤ m ∧ f + m ≤ 45)) := Lib.hid (fun h => c2 h.2.1)
                  have d2 : decide (1 ≤ m) = false := by simpa using c2
                  go_wp2_with fail
                  go_meet
                  exact ⟨false, rfl, fun h => by simp at h, fun _ => hX.out, rfl⟩
              · have hX : Hid (¬ (5 ≤ f ∧ 1 ≤ m ∧ f + m ≤ 45)) := Lib.hid (fun h => c1 h.1)
                have d1 : decide (5 ≤ f) = false := by simpa using c1
                go_wp2_with fail
                go_meet
                exact ⟨false, rfl, fun h => by simp at h, fun _ => hX.out, rfl⟩
          case rest =>
            obtain ⟨X, rfl, x1, x2, rfl⟩ := hcut
            cases X with
            | false =>
              have hin := x2 rfl
              clear x1 x2
              as_aux_lemma =>
                have hng : Hid (¬ InG 5 ((40 : Nat) : Int) f m) := Lib.hid (fun h => hin (by obtain ⟨h1, h2, h3, h4⟩ := h; omega))
                have HNq : ∀ q, Hid (SG B0 lo hi s g b w (wc.drewN q) ws) := fun q => Lib.hid (HN.out.drw q)
                clear hin
                rcases s0 with rfl | rfl
                all_goals
                  go_wp2_with fail
                  go_loop [11, 12, 13] (fun v11 v12 v13 => v11 = .bool false ∧ v12 = .bool false ∧ v13 = .int .i64 (f - 5)) (fun _ _ _ => 0)
                  case atStart => exact ⟨rfl, rfl, rfl⟩
                  case round =>
                    obtain ⟨rfl, rfl, rfl⟩ := hrel
                    go_wp2_with fail
                    first
                      | (refine (gtake_out lo hi s g _ 5 _ _ f m ws HN.out.1 hng.out).mono ?_
                         rintro e w9 ⟨rfl, q, rfl⟩)
                      | (refine (ggive_out lo hi s g _ 5 _ _ f m ws HN.out.1 hng.out).mono ?_
                         rintro e w9 ⟨rfl, q, rfl⟩)
                    go_wp2_with fail
                    go_loop [17] (fun v17 => v17 = .int .i64 (f - 5)) (fun _ => 0)
                    case atStart => exact rfl
                    case round =>
                      obtain rfl := hrel
                      go_wp2_with fail
                      go_roundw
                      case rel => exact ⟨i + 1, ws, by omega, by go_num, HNq _⟩
                      case measure => simp [intOf] <;> omega
            | true =>
              obtain ⟨i1, i2, i3⟩ := x1 rfl
              clear x1 x2
              as_aux_lemma =>
                clear f2 s2
                obtain ⟨X, rfl⟩ : ∃ X : Nat, f = (X : Int) + 5 := ⟨(f - 5).toNat, by omega⟩
                obtain ⟨n, rfl⟩ : ∃ n : Nat, m = n := ⟨m.toNat, by omega⟩
                have hXn : X + n ≤ 40 := by omega
                have hn1' : 1 ≤ n := by omega
                have hlw : 40 ≤ 64 * ws.length := by
                  have := HN.out.1.2.2.2.2.2.1.2.1.2.2.1
                  omega
                have hx5 : ((X : Int) + 5 - 5).toNat = X := by omega
                have HX5 := Lib.hid hx5
                have HIN : Hid (InG 5 ((40 : Nat) : Int) ((X : Int) + 5) n) := Lib.hid ⟨by omega, by omega, by omega, by omega⟩
                clear i1 i2 i3 f0' f1' hx5
                go_wp2_with fail
                go_loop [11, 12, 13] (fun v11 v12 v13 => ∃ j : Nat, j ≤ n ∧ v11 = .bool (anyB ws X j) ∧ v12 = .bool (wholeB ws X j) ∧ v13 = .int .i64 ((X : Int) + j)) (fun _ _ v13 => ((X : Int) + n - intOf v13).toNat)
                case atStart => exact ⟨0, by omega, rfl, rfl, congrArg (Value.int .i64) (by omega)⟩
                case round =>
                  obtain ⟨j, hj, rfl, rfl, rfl⟩ := hrel
                  by_cases hjn : j < n
                  · have l1 : (X : Int) + j < X + n := by omega
                    have l2 : (X : Int) + j < 40 := by omega
                    have X2 : ((X : Int) + (j : Int)).toNat = X + j := by omega
                    have X0 : (0 : Int) ≤ (X : Int) + (j : Int) := by omega
                    obtain ⟨k1, k2⟩ := HN.out.2.2.1.2 (X + j) (by omega)
                    have e1 : anyB ws X (j + 1) = (anyB ws X j || bitB ws (X + j)) := rfl
                    have e2 : wholeB ws X (j + 1) = (wholeB ws X j && bitB ws (X + j)) := rfl
                    obtain ⟨Bx, hBx⟩ : ∃ Bx, bitB ws (X + j) = Bx := ⟨_, rfl⟩
                    rw [hBx] at k1 e1 e2
                    clear hBx
                    obtain ⟨y1, hy1⟩ : ∃ y1, anyB ws X j = y1 := ⟨_, rfl⟩
                    obtain ⟨y2, hy2⟩ : ∃ y2, wholeB ws X j = y2 := ⟨_, rfl⟩
                    rw [hy1] at e1
                    rw [hy2] at e2
                    rw [hy1, hy2]
                    have HE1 := Lib.hid e1; have HE2 := Lib.hid e2
                    clear e1 e2 hy1 hy2
                    cases y1 <;> cases y2 <;> cases Bx
                    all_goals
                      go_wp2_with fail
                      go_round
                      case rel => exact ⟨j + 1, by omega, by rw [HE1.out]; simp, by rw [HE2.out]; simp, by go_num⟩
                      case measure => simp [intOf] <;> omega
                  · obtain rfl : n = j := by omega
                    have l1 : ¬ (X : Int) + n < X + n := by omega
                    obtain ⟨S1, hS1⟩ : ∃ S1, anyB ws X n = S1 := ⟨_, rfl⟩
                    obtain ⟨S2, hS2⟩ : ∃ S2, wholeB ws X n = S2 := ⟨_, rfl⟩
                    rw [hS1, hS2]
                    have HS1 := Lib.hid hS1; have HS2 := Lib.hid hS2
                    clear hS1 hS2
                    have HNq : ∀ q, Hid (SG B0 lo hi s g b w (wc.drewN q) ws) := fun q => Lib.hid (HN.out.drw q)
                    have TT : Hid (TzTab wc) := Lib.hid (T.out.later (by rw [hB0]; exact HN.out.2.2.2.2.2))
                    rcases s0 with rfl | rfl
                    · cases S2
                      · skip
                        as_aux_lemma =>
                          go_wp2_with fail
                          refine (gtake_twice lo hi s g _ 5 _ _ _ _ ws HN.out.1 HIN.out (by rw [HX5.out, Int.toNat_natCast]; exact HS2.out)).mono ?_
                          rintro e w9 ⟨rfl, q, rfl⟩
                          go_wp2_with fail
                          go_loop [17] (fun v17 => v17 = .int .i64 (X : Int)) (fun _ => 0)
                          case atStart => exact by go_num
                          case round =>
                            obtain rfl := hrel
                            go_wp2_with fail
                            go_roundw
                            case rel => exact ⟨i + 1, ws, by omega, by go_num, HNq _⟩
                            case measure => simp [intOf] <;> omega
                      · skip
                        as_aux_lemma =>
                          obtain ⟨d1, d2, d3, d4⟩ := drop_say hXn hlw HS2.out HN.out.2.1
                          have HD2 := Lib.hid d2; have HD3 := Lib.hid d3; have HD4 := Lib.hid d4
                          have HCt := gtake_in lo hi s g wc 5 ((40 : Nat) : Int) (cntB ws 40) ((X : Int) + 5) n ws HN.out.1 HIN.out (by rw [HX5.out, Int.toNat_natCast]; exact HS2.out) (by rw [HX5.out, Int.toNat_natCast, d1]; omega)
                          rw [HX5.out, Int.toNat_natCast, d1] at HCt
                          have HCT := Lib.hid HCt
                          clear HCt d1 d2 d3 d4
                          obtain ⟨ws2, hws2⟩ : ∃ ws2, (dropN ws X n).1 = ws2 := ⟨_, rfl⟩
                          rw [hws2] at HD2 HD3 HD4 HCT
                          clear hws2
                          go_wp2_with fail
                          refine HCT.out.mono ?_
                          rintro e w9 ⟨rfl, hg9, ho9⟩
                          rw [← HD2.out] at hg9
                          have hb9 : w9.heap[b]? = wc.heap[b]? := by
                            rcases HN.out.2.2.2.1.2 with h | h
                            · exact ho9.1.block b h
                            · exact ho9.2.2 b h
                          have HA9 : Hid (ArrM b w9 ws X 0 true) := Lib.hid ((HN.out.2.2.1.keep (Nat.le_of_eq ho9.2.1.symm) hb9).m X true)
                          have HG9 := Lib.hid hg9
                          have HB9 : Hid (Below B0 w w9) := Lib.hid (HN.out.2.2.2.2.2.trans (ho9.1.mono HN.out.2.2.2.2.1.1))
                          have HZ9 : Hid (B0 ≤ w9.heap.size) := Lib.hid (by rw [ho9.2.1]; exact HN.out.2.2.2.2.1.2.2)
                          have HK9 := Lib.hid HN.out.2.2.2.1
                          have HL9 := Lib.hid HN.out.2.2.2.2.1
                          clear hg9 ho9 hb9 HNq HN HCT HD2 q0
                          go_wp2_with fail
                          go_loopw [17] (fun v17 wx => ∃ j : Nat, j ≤ n ∧ v17 = .int .i64 ((X : Int) + j) ∧ Hid (GpAt lo hi s g wx 5 ((40 : Nat) : Int) (cntB ws2 40) ws2) ∧ Hid (ArrM b wx ws X j true) ∧ Hid (Below B0 w wx) ∧ Hid (B0 ≤ wx.heap.size)) (fun v17 _ => ((X : Int) + n - intOf v17).toNat)
                          case atStart => exact ⟨0, by omega, by go_num, HG9, HA9, HB9, HZ9⟩
                          case round =>
                            clear HG9 HA9 HB9 HZ9
                            obtain ⟨j, hj, rfl, HG9, HA9, HB9, HZ9⟩ := hrel
                            by_cases hjn : j < n
                            · have l1' : (X : Int) + j < X + n := by omega
                              have l2 : (X : Int) + j < 40 := by omega
                              have X2 : ((X : Int) + (j : Int)).toNat = X + j := by omega
                              have X0 : (0 : Int) ≤ (X : Int) + (j : Int) := by omega
                              obtain ⟨k1, k2⟩ := HA9.out.2 (X + j) (by omega)
                              have HA10 : Hid (ArrM b (wr.setCell ⟨b, X + j, none⟩ (.bool true)) ws X (j + 1) true) := Lib.hid (HA9.out.set_ (by omega))
                              have HG10 : Hid (GpAt lo hi s g (wr.setCell ⟨b, X + j, none⟩ (.bool true)) 5 ((40 : Nat) : Int) (cntB ws2 40) ws2) := Lib.hid (HG9.out.far HK9.out.1 HK9.out.2)
                              have HB10 : Hid (Below B0 w (wr.setCell ⟨b, X + j, none⟩ (.bool true))) := Lib.hid (HB9.out.setCell HL9.out.2.1 _)
                              have HZ10 : Hid (B0 ≤ (wr.setCell ⟨b, X + j, none⟩ (.bool true)).heap.size) := Lib.hid (by rw [v_size_set]; exact HZ9.out)
                              clear HA9 HG9 HB9 HZ9
                              go_wp2_with fail
                              go_roundw
                              case rel => exact ⟨j + 1, by omega, by go_num, HG10, HA10, HB10, HZ10⟩
                              case measure => simp [intOf] <;> omega
                            · obtain rfl : n = j := by omega
                              have HSN : Hid (SG B0 lo hi s g b w wr ws2) := Lib.hid ⟨HG9.out, HD3.out, HA9.out.n HD4.out, HK9.out, ⟨HL9.out.1, HL9.out.2.1, HZ9.out⟩, HB9.out⟩
                              go_wp2_with fail
                              go_roundw
                              case rel => exact ⟨i + 1, ws2, by omega, by go_num, HSN⟩
                              case measure => simp [intOf] <;> omega
                    · cases S1
                      · skip
                        as_aux_lemma =>
                          obtain ⟨d1, d2, d3, d4⟩ := put_say hXn hlw HS1.out HN.out.2.1
                          have HD2 := Lib.hid d2; have HD3 := Lib.hid d3; have HD4 := Lib.hid d4
                          have HCt := ggive_in lo hi s g wc 5 ((40 : Nat) : Int) (cntB ws 40) ((X : Int) + 5) n ws HN.out.1 HIN.out TT.out (fun y y1 y2 => any_none HS1.out y (by omega) (by omega)) (by rw [HX5.out, Int.toNat_natCast, d1]; have := cntB_le (putN ws X n).1 40; omega)
                          rw [HX5.out, Int.toNat_natCast, d1] at HCt
                          have HCT := Lib.hid HCt
                          clear HCt d1 d2 d3 d4
                          obtain ⟨ws2, hws2⟩ : ∃ ws2, (putN ws X n).1 = ws2 := ⟨_, rfl⟩
                          rw [hws2] at HD2 HD3 HD4 HCT
                          clear hws2
                          go_wp2_with fail
                          refine HCT.out.mono ?_
                          rintro e w9 ⟨rfl, hg9, ho9⟩
                          rw [← HD2.out] at hg9
                          have hb9 : w9.heap[b]? = wc.heap[b]? := by
                            rcases HN.out.2.2.2.1.2 with h | h
                            · exact ho9.1.block b h
                            · exact ho9.2.2 b h
                          have HA9 : Hid (ArrM b w9 ws X 0 false) := Lib.hid ((HN.out.2.2.1.keep (Nat.le_of_eq ho9.2.1.symm) hb9).m X false)
                          have HG9 := Lib.hid hg9
                          have HB9 : Hid (Below B0 w w9) := Lib.hid (HN.out.2.2.2.2.2.trans (ho9.1.mono HN.out.2.2.2.2.1.1))
                          have HZ9 : Hid (B0 ≤ w9.heap.size) := Lib.hid (by rw [ho9.2.1]; exact HN.out.2.2.2.2.1.2.2)
                          have HK9 := Lib.hid HN.out.2.2.2.1
                          have HL9 := Lib.hid HN.out.2.2.2.2.1
                          clear hg9 ho9 hb9 HNq HN HCT HD2 q0
                          go_wp2_with fail
                          go_loopw [17] (fun v17 wx => ∃ j : Nat, j ≤ n ∧ v17 = .int .i64 ((X : Int) + j) ∧ Hid (GpAt lo hi s g wx 5 ((40 : Nat) : Int) (cntB ws2 40) ws2) ∧ Hid (ArrM b wx ws X j false) ∧ Hid (Below B0 w wx) ∧ Hid (B0 ≤ wx.heap.size)) (fun v17 _ => ((X : Int) + n - intOf v17).toNat)
                          case atStart => exact ⟨0, by omega, by go_num, HG9, HA9, HB9, HZ9⟩
                          case round =>
                            clear HG9 HA9 HB9 HZ9
                            obtain ⟨j, hj, rfl, HG9, HA9, HB9, HZ9⟩ := hrel
                            by_cases hjn : j < n
                            · have l1' : (X : Int) + j < X + n := by omega
                              have l2 : (X : Int) + j < 40 := by omega
                              have X2 : ((X : Int) + (j : Int)).toNat = X + j := by omega
                              have X0 : (0 : Int) ≤ (X : Int) + (j : Int) := by omega
                              obtain ⟨k1, k2⟩ := HA9.out.2 (X + j) (by omega)
                              have HA10 : Hid (ArrM b (wr.setCell ⟨b, X + j, none⟩ (.bool false)) ws X (j + 1) false) := Lib.hid (HA9.out.set_ (by omega))
                              have HG10 : Hid (GpAt lo hi s g (wr.setCell ⟨b, X + j, none⟩ (.bool false)) 5 ((40 : Nat) : Int) (cntB ws2 40) ws2) := Lib.hid (HG9.out.far HK9.out.1 HK9.out.2)
                              have HB10 : Hid (Below B0 w (wr.setCell ⟨b, X + j, none⟩ (.bool false))) := Lib.hid (HB9.out.setCell HL9.out.2.1 _)
                              have HZ10 : Hid (B0 ≤ (wr.setCell ⟨b, X + j, none⟩ (.bool false)).heap.size) := Lib.hid (by rw [v_size_set]; exact HZ9.out)
                              clear HA9 HG9 HB9 HZ9
                              go_wp2_with fail
                              go_roundw
                              case rel => exact ⟨j + 1, by omega, by go_num, HG10, HA10, HB10, HZ10⟩
                              case measure => simp [intOf] <;> omega
                            · obtain rfl : n = j := by omega
                              have HSN : Hid (SG B0 lo hi s g b w wr ws2) := Lib.hid ⟨HG9.out, HD3.out, HA9.out.n HD4.out, HK9.out, ⟨HL9.out.1, HL9.out.2.1, HZ9.out⟩, HB9.out⟩
                              go_wp2_with fail
                              go_roundw
                              case rel => exact ⟨i + 1, ws2, by omega, by go_num, HSN⟩
                              case measure => simp [intOf] <;> omega
                      · skip
                        as_aux_lemma =>
                          obtain ⟨y, y1, y2, y3⟩ := any_at HS1.out
                          go_wp2_with fail
                          refine (ggive_none lo hi s g _ 5 _ _ _ _ ws HN.out.1 HIN.out TT.out y (by omega) (by omega) y3).mono ?_
                          rintro e w9 ⟨rfl, q, rfl⟩
                          go_wp2_with fail
                          go_loop [17] (fun v17 => v17 = .int .i64 (X : Int)) (fun _ => 0)
                          case atStart => exact by go_num
                          case round =>
                            obtain rfl := hrel
                            go_wp2_with fail
                            go_roundw
                            case rel => exact ⟨i + 1, ws, by omega, by go_num, HNq _⟩
                            case measure => simp [intOf] <;> omega
    · obtain rfl : i = n1 := by omega
      as_aux_lemma =>
        have hstop : ¬ ((i : Int) < len0) ∨ ((i : Int) < len0 ∧ ¬ ((i : Int) < 30)) := by omega
        have f15 := and15 a1
        have s15 : 0 ≤ a1 % 16 ∧ a1 % 16 < 16 := ⟨Int.emod_nonneg _ (by decide), Int.emod_lt_of_pos _ (by decide)⟩
        generalize a1 % 16 = k at *
        obtain ⟨k0, k15⟩ := s15
        go_upto_region 3 with (fail)
        go_cut [39] (fun v39 wx => v39 = .bool false ∧ wr = wx)
        case first =>
          rcases hstop with h | ⟨h, h'⟩
          · go_wp2_with fail
            go_meet
            exact ⟨rfl, rfl⟩
          · go_wp2_with fail
            go_meet
            exact ⟨rfl, rfl⟩
        case rest =>
          obtain ⟨rfl, rfl⟩ := hcut
          clear hstop HR hn1 hn2 hn3
          go_wp2_with fail
          go_loop [19, 20, 21, 22, 23] (fun v19 v20 v21 v22 v23 => ∃ p : Nat, p ≤ 40 ∧ v19 = .int .i64 (scan ws k p).find ∧ v20 = .int .i64 (scan ws k p).wide ∧ v21 = .int .i64 (scan ws k p).run ∧ v22 = .int .i64 (scan ws k p).count ∧ v23 = .int .i64 p) (fun _ _ _ _ v23 => 40 - (intOf v23).toNat)
          case atStart => exact ⟨0, by omega, rfl, rfl, rfl, rfl, rfl⟩
          case round =>
            obtain ⟨p, hp, rfl, rfl, rfl, rfl, rfl⟩ := hrel
            by_cases hpl : p < 40
            · have hinv := scan_inv ws k p
              have hshape : 0 ≤ (scan ws k p).run ∧ (scan ws k p).run ≤ p := by
                rcases hinv.shape with ⟨h, _⟩ | ⟨h, h', _⟩ <;> omega
              have hcnt : 0 ≤ (scan ws k p).count ∧ (scan ws k p).count ≤ p := by
                have h1 := hinv.cnt
                have h2 := listB_le ws p
                omega
              obtain ⟨k1, k2⟩ := HN.out.2.2.1.2 p hpl
              have hS : scan ws k (p + 1) = ⟨if bitB ws p then (scan ws k p).run + 1 else 0, max (scan ws k p).wide (if bitB ws p then (scan ws k p).run + 1 else 0), if bitB ws p then (scan ws k p).count + 1 else (scan ws k p).count, if (scan ws k p).find < 0 ∧ 1 ≤ k ∧ k ≤ (if bitB ws p then (scan ws k p).run + 1 else 0) then 5 + (p : Int) - k + 1 else (scan ws k p).find⟩ := rfl
              clear hinv
              obtain ⟨⟨r, wd, ct, fd⟩, hsc⟩ : ∃ sc, scan ws k p = sc := ⟨_, rfl⟩
              rw [hsc] at hshape hcnt hS ⊢
              simp only at hshape hcnt hS ⊢
              obtain ⟨Bx, hBx⟩ : ∃ Bx, bitB ws p = Bx := ⟨_, rfl⟩
              rw [hBx] at k1 hS
              clear hsc hBx
              have p1 : (p : Int) < 40 := by omega
              cases Bx
              · have HS : Hid (scan ws k (p + 1) = ⟨0, max wd 0, ct, if fd < 0 ∧ 1 ≤ k ∧ k ≤ 0 then 5 + (p : Int) - k + 1 else fd⟩) := Lib.hid (by simpa using hS)
                clear hS
                rcases Int.lt_or_le wd 0 with c1 | c1 <;> rcases Int.lt_or_le fd 0 with c2 | c2 <;> rcases Int.lt_or_le k 1 with c3 | c3
                all_goals
                  go_wp2_with fail
                  all_goals
                    go_round
                    case rel => exact ⟨p + 1, by omega, by rw [HS.out]; exact congrArg (Value.int .i64) (by simp only; split <;> omega), by rw [HS.out]; exact congrArg (Value.int .i64) (by simp only; omega), by rw [HS.out], by rw [HS.out], by go_num⟩
                    case measure => simp [intOf] <;> omega
              · have HS : Hid (scan ws k (p + 1) = ⟨r + 1, max wd (r + 1), ct + 1, if fd < 0 ∧ 1 ≤ k ∧ k ≤ r + 1 then 5 + (p : Int) - k + 1 else fd⟩) := Lib.hid (by simpa using hS)
                clear hS
                rcases Int.lt_or_le wd (r + 1) with c1 | c1 <;> rcases Int.lt_or_le fd 0 with c2 | c2 <;> rcases Int.lt_or_le k 1 with c3 | c3 <;> rcases Int.lt_or_le (r + 1) k with c4 | c4
                all_goals
                  go_wp2_with fail
                  all_goals
                    go_round
                    case rel => exact ⟨p + 1, by omega, by rw [HS.out]; exact congrArg (Value.int .i64) (by simp only; split <;> omega), by rw [HS.out]; exact congrArg (Value.int .i64) (by simp only; omega), by rw [HS.out], by rw [HS.out], by go_num⟩
                    case measure => simp [intOf] <;> omega
            · obtain rfl : p = 40 := by omega
              as_aux_lemma =>
                have hinv := scan_inv ws k 40
                have hfd : (if k < 1 then -1 else findL k (runs 5 (listB ws 40))) = (scan ws k 40).find := by
                  split
                  · exact (scan_find0 ws k (by omega) 40).symm
                  · exact (hinv.find (by omega)).symm
                have hwd := hinv.wide
                have hct := hinv.count
                have hcn : (scan ws k 40).count = cntB ws 40 := by rw [hinv.cnt, listB_len]
                have heach := hinv.each
                have horder := hinv.order
                have hLl := Nat.le_trans (runs_len 5 (listB ws 40)) (listB_le ws 40)
                clear hinv
                obtain ⟨⟨r, wd, ct, fd⟩, hsc⟩ : ∃ sc, scan ws k 40 = sc := ⟨_, rfl⟩
                rw [hsc] at hfd hwd hct hcn ⊢
                simp only at hfd hwd hct hcn ⊢
                clear hsc
                have HFD := Lib.hid hfd; have HWD := Lib.hid hwd; have HCT := Lib.hid hct; have HCN := Lib.hid hcn
                have HEA := Lib.hid heach; have HOR := Lib.hid horder
                clear hfd hwd hct hcn heach horder
                obtain ⟨L, hL⟩ : ∃ L, runs 5 (listB ws 40) = L := ⟨_, rfl⟩
                have HLE := Lib.hid hL
                rw [hL] at HFD HWD HCT HEA HOR hLl
                clear hL
                have hB := HN.out.2.2.2.2.2
                go_wp2_with fail
                refine (gtwin lo hi s g _ 5 _ _ ws HN.out.1).mono ?_
                rintro e w9 ⟨lo2, hi2, s2, g2, rfl, hg2, hb2, hl2, hgl2⟩
                have HG2 := Lib.hid hg2
                have HB2 := Lib.hid hb2
                clear hg2 hb2
                go_wp2_with fail
                refine (gtake_some lo2 hi2 s2 g2 _ ws HG2.out HN.out.2.1).mono ?_
                rintro e w10 ⟨E, rfl, ho10⟩
                have HN10 : Hid (SG B0 lo hi s g b w w10 ws) := Lib.hid (HN.out.below (HB2.out.trans (ho10.1.mono hl2)))
                clear ho10 HG2 HB2 HN hl2 hgl2 hB
                have T10 : Hid (TzTab w10) := Lib.hid (T.out.later (by rw [hB0]; exact HN10.out.2.2.2.2.2))
                go_wp2_with fail
                refine (glist_any lo hi s g _ 5 _ 40 ws HN10.out.1 HN10.out.2.1 T10.out (listB_bd ws 40) (Nat.le_trans (listB_le ws 40) (by decide))).mono ?_
                rintro e x1 ⟨bl, vl, rfl, hbl, hvl, hbel⟩
                rw [HLE.out] at hvl
                have hsh := hvl
                obtain ⟨A8, c8, rfl, _⟩ := hsh
                have HL := Lib.hid hvl
                have HN11 := Lib.hid (HN10.out.below hbel)
                clear hvl hbel HN10 T10
                go_wp2_with fail
                go_loopw [25, 27, 28] (fun v25 v27 v28 wx => ∃ j : Nat, j ≤ L.length ∧ v25 = .int .i64 (sumG (L.take j)) ∧ v27 = .int .i64 (fromL L j) ∧ v28 = .int .i64 j ∧ Hid (Below x1.heap.size x1 wx)) (fun _ _ v28 _ => L.length - (intOf v28).toNat)
                case atStart => exact ⟨0, by omega, rfl, rfl, rfl, Lib.hid (Below.refl _ _)⟩
                case round =>
                  obtain ⟨j, hj, rfl, rfl, rfl, HW⟩ := hrel
                  by_cases hjl : j < L.length
                  · rcases va_open HL.out with ⟨_, rfl⟩ | ⟨off8, c8', e, p7, p8, p9, p10⟩
                    · simp at hjl
                    · injection e with e1 e2 e3
                      subst e1; subst e3
                      obtain ⟨⟨px, py⟩, hpj⟩ : ∃ p, L[j]? = some p := ⟨_, List.getElem?_eq_getElem hjl⟩
                      have hpe := HEA.out (px, py) (List.mem_of_getElem? hpj)
                      simp only at hpe
                      obtain ⟨q1, q2, q3, q4⟩ := hpe
                      obtain ⟨Y, rfl⟩ : ∃ Y : Nat, px = (Y : Int) + 5 := ⟨(px - 5).toNat, by omega⟩
                      have hYt : ((Y : Int) + 5 - 5).toNat = Y := by omega
                      rw [hYt] at q4
                      have hY40 : Y < 40 := by omega
                      obtain ⟨m1, m2⟩ := HN11.out.2.2.1.2 Y hY40
                      rw [q4] at m1
                      have mb := (HW.out.cell (p := ⟨b, Y, none⟩) HN11.out.2.2.1.1).trans m1
                      obtain ⟨u0, u1⟩ := p10 j _ hpj
                      have r0 := (HW.out.cell (p := ⟨bl, off8 + j * 2, none⟩) p7).trans u0
                      have r1 := (HW.out.cell (p := ⟨bl, off8 + j * 2 + 1, none⟩) p7).trans u1
                      have hs := sumG_take L j _ hpj
                      have hsb := sumG_bd (L.take j) (fun q hq => by have := HEA.out q (List.mem_of_mem_take hq); omega)
                      have htl : (L.take j).length ≤ 40 := by rw [List.length_take]; omega
                      have hfr : fromL L (j + 1) = (Y : Int) + py := by simp [fromL, List.getD, hpj]; omega
                      obtain ⟨sm, hsd⟩ : ∃ sm, sumG (L.take j) = sm := ⟨_, rfl⟩
                      rw [hsd] at hs hsb ⊢
                      have HSM := Lib.hid hs; have HFR := Lib.hid hfr
                      have i1 : (j : Int) < L.length := by omega
                      have hY0 : (0 : Int) ≤ Y := by omega
                      have hY4 : (Y : Int) < 40 := by omega
                      have HWn : ∀ q, Hid (Below x1.heap.size x1 (wr.drewN q)) := fun q => Lib.hid (below_drewN HW.out q)
                      have d2 : decide (py < 1) = false := decide_eq_false (by omega)
                      clear hs hsd hfr u0 u1 hYt
                      cases j with
                      | zero =>
                        have hf0 : fromL L 0 = 0 := rfl
                        rw [hf0]
                        simp only [Nat.zero_mul, Nat.add_zero] at r0 r1
                        have d1 : decide ((Y : Int) + 5 < 5) = false := decide_eq_false (by omega)
                        have d1a : decide ((Y : Int) < 0) = false := decide_eq_false (by omega)
                        have d1b : ¬ (Y : Int) < 0 := by omega
                        have d1c : ¬ (Y : Int) + 5 < 5 := by omega
                        clear p10 hf0
                        go_wp2_with fail
                        go_quiet (fail)
                        go_wp2_with fail
                        go_quiet (fail)
                        go_wp2_with fail
                        go_roundw
                        case rel => exact ⟨1, by omega, by rw [HSM.out], by rw [HFR.out]; go_num, by go_num, HWn _⟩
                        case measure => simp [intOf] <;> omega
                      | succ j =>
                        obtain ⟨⟨ux, uy⟩, huj⟩ : ∃ p, L[j]? = some p := ⟨_, List.getElem?_eq_getElem (by omega)⟩
                        have hord : ux + uy < (Y : Int) + 5 := by
                          have h9 := List.pairwise_iff_getElem.1 HOR.out j (j + 1) (by omega) hjl (by omega)
                          rw [List.getElem?_eq_getElem hjl] at hpj
                          rw [List.getElem?_eq_getElem (show j < L.length by omega)] at huj
                          rw [Option.some.inj hpj, Option.some.inj huj] at h9
                          exact h9
                        have hue := HEA.out (ux, uy) (List.mem_of_getElem? huj)
                        simp only at hue
                        obtain ⟨v1', v2', v3', _⟩ := hue
                        obtain ⟨u2, u3⟩ := p10 j _ huj
                        have r2 := (HW.out.cell (p := ⟨bl, off8 + j * 2, none⟩) p7).trans u2
                        have r3 := (HW.out.cell (p := ⟨bl, off8 + j * 2 + 1, none⟩) p7).trans u3
                        have hf0 : fromL L (j + 1) = ux + uy - 5 := by simp [fromL, List.getD, huj]
                        rw [hf0]
                        have hjc : (((j + 1 : Nat)) : Int) = (j : Int) + 1 := by omega
                        rw [hjc] at i1 ⊢
                        have d1 : decide ((Y : Int) + 5 < ux + uy - 5 + 5) = false := decide_eq_false (by omega)
                        have d1' : decide ((Y : Int) + 5 < ux + uy) = false := decide_eq_false (by omega)
                        have d3 : decide ((0 : Int) < (j : Int) + 1) = true := decide_eq_true (by omega)
                        have d4 : decide ((Y : Int) + 5 ≤ ux + uy) = false := decide_eq_false (by omega)
                        have j2 : (j : Int) < L.length := by omega
                        clear p10 hf0 u2 u3 hjc
                        go_wp2_with fail
                        go_quiet (fail)
                        go_wp2_with fail
                        go_quiet (fail)
                        go_wp2_with fail
                        go_roundw
                        case rel => exact ⟨j + 1 + 1, by omega, by rw [HSM.out], by rw [HFR.out]; go_num, by go_num, HWn _⟩
                        case measure => simp [intOf] <;> omega
                  · obtain rfl : j = L.length := by omega
                    rw [List.take_length]
                    have HNf := Lib.hid (HN11.out.below HW.out)
                    have T11 : Hid (TzTab wr) := Lib.hid (T.out.later (by rw [hB0]; exact HNf.out.2.2.2.2.2))
                    rw [← HCT.out]
                    clear HW HN11 HL HOR HEA
                    go_wp2_with fail
                    refine (awakeGaps _ T11.out).mono ?_
                    rintro e y1 ⟨rfl, c1⟩
                    have HNa := Lib.hid (HNf.out.below c1)
                    have T12 : Hid (TzTab y1) := Lib.hid (T11.out.later c1)
                    clear c1 HNf T11
                    go_wp2_with fail
                    refine (gfind_is lo hi s g _ 5 _ 40 ws k HNa.out.1 HNa.out.2.1 T12.out (by decide)).mono ?_
                    rintro e y2 ⟨rfl, c2⟩
                    rw [HLE.out, HFD.out]
                    have HNb := Lib.hid (HNa.out.below c2)
                    have T13 : Hid (TzTab y2) := Lib.hid (T12.out.later c2)
                    clear c2 HNa T12
                    go_wp2_with fail
                    refine (gwide_any lo hi s g _ 5 _ 40 ws HNb.out.1 HNb.out.2.1 T13.out (by decide)).mono ?_
                    rintro e y3 ⟨rfl, c3⟩
                    rw [HLE.out, ← HWD.out]
                    have HNc := Lib.hid (HNb.out.below c3)
                    clear c3 HNb T13
                    go_wp2_with fail
                    refine (gfree lo hi s g _ 5 _ _ ws HNc.out.1).mono ?_
                    rintro e y4 ⟨rfl, rfl⟩
                    rw [← HCN.out]
                    go_wp2_with fail
                    refine (gmost lo hi s g _ 5 _ _ ws HNc.out.1).mono ?_
                    rintro e y4 ⟨rfl, rfl⟩
                    go_wp2
                    go_ret
                    exact ⟨rfl, by rw [hB0]; exact HNc.out.2.2.2.2.2⟩
end Go.Proofs.YtjblgamngnnccaaDoor
