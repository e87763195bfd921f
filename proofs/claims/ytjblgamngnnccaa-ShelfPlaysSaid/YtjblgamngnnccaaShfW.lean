/- The walk of ShelfPlays. -/
import Derived.Test.YtjblgamngnnccaaShfV
namespace Go.Proofs.Ytjblgamngnnccaa
open Go.RowKit
set_option linter.unusedVariables false
set_option linter.unusedSimpArgs false

set_option maxRecDepth 100000 in
set_option maxHeartbeats 40000000 in
theorem walkShelfPlays (a0 : Int) (a1 : Option Addr) (len1 cap1 : Nat) (z1 : List Int) (w : World) (w0 : (Lit.int .i64 a0).wf = true) (w1 : IsRecs 2 w a1 len1 cap1 z1) :
    Calls Try.prog 4 #[.int .i64 a0, .slice a1 len1 cap1] w fun e w' => e = .returned (.bool true) ∧ Below w.heap.size w w' := by
  have HR := Lib.hid (w1.recs (by decide))
  clear w1
  obtain ⟨n1, hn1, hn2, hn3⟩ : ∃ n : Nat, n ≤ len1 ∧ n ≤ 40 ∧ (n < len1 → n = 40) := ⟨min len1 40, by omega, by omega, by omega⟩
  obtain ⟨B0, hB0⟩ : ∃ B0, w.heap.size = B0 := ⟨_, rfl⟩
  obtain ⟨k, hk⟩ : ∃ k, min (max a0 0) 16 = k := ⟨_, rfl⟩
  have hk0 : 0 ≤ k := by omega
  have hk1 : k ≤ 16 := by omega
  have HK := Lib.hid hk
  clear hk
  go_enter Try.func4, Try.ntmps4
  go_upto_region 2 with (fail)
  have e5 : (if 16 < if a0 < 0 then 0 else a0 then (16 : Int) else if a0 < 0 then 0 else a0) = k := by
    have := HK.out
    split <;> split at * <;> omega
  rw [e5]
  clear e5
  generalize (if a0 < 0 then 0 else a0) = k30
  go_wp2_with fail
  refine (snew_any a0 k _ HK.out.symm).mono ?_
  rintro e v1 ⟨rfl, hS, hb1, hsz1⟩
  rw [hB0] at hS hb1 hsz1 ⊢
  obtain ⟨g, hg⟩ : ∃ g, B0 = g := ⟨_, rfl⟩
  have HN : Hid (SW B0 g (g + 2) (g + 1) w (v1.alloc (.cells #[] 50)) k (.slice (some ⟨g + 1, 0, none⟩) 0 0) []) := Lib.hid (by
    have hm := vz_made 2 v1 50
    have hs9 : v1.heap.size = g + 1 := by omega
    rw [hs9] at hm
    have hS2 := (hS (g + 2) (by omega)).below (alc0 v1 (.cells #[] 50))
    rw [hg] at hS2
    exact ⟨hS2, hm, by simp, ⟨by omega, by omega⟩, ⟨by omega, by omega, by omega, by simp; omega⟩, hb1.alloc (by omega) _, by simp; omega, by simp⟩)
  have e9 : v1.heap.size = g + 1 := by omega
  rw [hg] at HN
  clear hS hb1 hsz1 HK
  go_wp2_with fail
  go_loopw [7, 8] (fun v7 v8 wr => ∃ (i : Nat) (ms : List Ar) (b bm : Nat), i ≤ n1 ∧ v8 = .int .i64 i ∧ Hid (SW B0 g b bm w wr k v7 ms)) (fun _ v8 _ => n1 - (intOf v8).toNat)
  case atStart => exact ⟨0, [], g + 2, g + 1, by omega, rfl, by rw [hg]; exact HN⟩
  case round =>
    clear HN
    obtain ⟨i, ms, b, bm, hi, rfl, HN⟩ := hrel
    by_cases hlt : i < n1
    · obtain ⟨_, hbd, h0 | ⟨bb, off, rfl, hbb, _, hc⟩⟩ := HR.out
      · omega
      · have hbelW := HN.out.2.2.2.2.2.1
        have hbb2 : bb < B0 := by omega
        have r0 := (hbelW.cell (p := ⟨bb, off + i * 2, none⟩) hbb2).trans (hc (i * 2) (by omega))
        have r1 := (hbelW.cell (p := ⟨bb, off + (i * 2 + 1), none⟩) hbb2).trans (hc (i * 2 + 1) (by omega))
        rw [← Nat.add_assoc] at r1
        have HR2 := HR
        clear hc hbd HR hbelW
        generalize z1.getD (i * 2) 0 = A0 at *
        generalize z1.getD (i * 2 + 1) 0 = A1 at *
        have f0 := and15 A0
        have f1 := and15 A1
        have s0 : 0 ≤ A0 % 16 := Int.emod_nonneg _ (by decide)
        have s1 : A0 % 16 < 16 := Int.emod_lt_of_pos _ (by decide)
        have s2 : 0 ≤ A1 % 16 := Int.emod_nonneg _ (by decide)
        have s3 : A1 % 16 < 16 := Int.emod_lt_of_pos _ (by decide)
        generalize A0 % 16 = q at *
        generalize A1 % 16 = n at *
        have t1 : (i : Int) < len1 := by omega
        have t2 : (i : Int) < 40 := by omega
        go_upto_region 7 with (fail)
        obtain ⟨T, hT, T0, T1⟩ : ∃ T : Int, q.tmod 6 = T ∧ 0 ≤ T ∧ T < 6 := ⟨_, rfl, by rw [Int.tmod_eq_emod_of_nonneg s0]; omega, by rw [Int.tmod_eq_emod_of_nonneg s0]; omega⟩
        go_cut [57] (fun v57 wx => v57 = .int .i64 T ∧ wr = wx)
        case first =>
          go_wp2_with fail
          go_meet
          exact ⟨by go_num, rfl⟩
        case rest =>
          obtain ⟨rfl, rfl⟩ := hcut
          clear hT f0 f1 s0 s1 r0 r1
          go_step
          go_cut [7] (fun v7 wx => ∃ (ms : List Ar) (b bm : Nat), Hid (SW B0 g b bm w wx k v7 ms))
          case first =>
            go_step
            go_step
            go_cut [93] (fun v93 wx => ∃ X : Bool, v93 = .bool X ∧ (X = true → T = 3 ∨ T = 4) ∧ (X = false → ¬ T = 3 ∧ ¬ T = 4) ∧ wr = wx)
            case first =>
              rcases (show T = 3 ∨ T = 4 ∨ (¬ T = 3 ∧ ¬ T = 4) by omega) with rfl | rfl | ⟨T3, T4⟩
              · go_wp2_with fail
                go_meet
                exact ⟨true, rfl, by simp, by simp, rfl⟩
              · go_wp2_with fail
                go_meet
                exact ⟨true, rfl, by simp, by simp, rfl⟩
              · go_wp2_with fail
                go_meet
                exact ⟨false, by simp [T4], by simp, by simp [T3, T4], rfl⟩
            case rest =>
              obtain ⟨X, rfl, hX1, hX2, rfl⟩ := hcut
              have hml : ms.length ≤ 16 := by have := HN.out.2.2.2.2.2.2.1; omega
              have hsh := HN.out.2.1
              obtain ⟨A7, c7, rfl, _⟩ := hsh
              cases X with
              | true =>
                clear hX1 hX2
                by_cases hn : n = 0
                · subst hn
                  as_aux_lemma =>
                    go_wp2_with fail
                    go_loopw [10, 11] (fun v10 v11 wx => ∃ j : Nat, j ≤ ms.length ∧ v11 = .int .i64 j ∧ v10 = .int .i64 (-1) ∧ Hid (SW B0 g b bm w wx k (.slice A7 ms.length c7) ms)) (fun _ v11 _ => ms.length - (intOf v11).toNat)
                    case atStart => exact ⟨0, by omega, rfl, rfl, HN⟩
                    case round =>
                      clear HN
                      obtain ⟨j, hj, rfl, rfl, HN⟩ := hrel
                      by_cases hjl : j < ms.length
                      · have i1 : (j : Int) < ms.length := by omega
                        have HWn : ∀ q, Hid (SW B0 g b bm w (wr.drewN q) k (.slice A7 ms.length c7) ms) := fun q => Lib.hid (HN.out.drw q)
                        go_wp2_with fail
                        go_quiet (fail)
                        go_wp2_with fail
                        go_roundw
                        case rel => exact ⟨j + 1, by omega, by go_num, rfl, HWn _⟩
                        case measure => simp [intOf] <;> omega
                      · obtain rfl : j = ms.length := by omega
                        go_wp2_with fail
                        refine (take_low _ 0 _ (by decide)).mono ?_
                        rintro e x1 ⟨rfl, hb⟩
                        have HN2 := Lib.hid (HN.out.below hb)
                        have HN3 : ∀ o q, Hid (SW B0 g b bm w ((x1.alloc o).drewN q) k (.slice A7 ms.length c7) ms) := fun o q => Lib.hid ((HN2.out.below (alc0 _ _)).drw q)
                        clear hb HN HN2
                        go_wp2_with fail
                        go_quiet (fail)
                        go_wp2_with fail
                        go_meet
                        exact ⟨ms, b, bm, HN3 _ _⟩
                · have hn1 : 1 ≤ n := by omega
                  have hn2 : n ≤ 15 := by omega
                  clear hn s2 s3
                  go_wp2_with fail
                  go_loopw [10, 11] (fun v10 v11 wx => ∃ j : Nat, j ≤ ms.length ∧ v11 = .int .i64 j ∧ v10 = .int .i64 (best n ms j) ∧ Hid (SW B0 g b bm w wx k (.slice A7 ms.length c7) ms)) (fun _ v11 _ => ms.length - (intOf v11).toNat)
                  case atStart => exact ⟨0, by omega, rfl, rfl, HN⟩
                  case round =>
                    clear HN
                    obtain ⟨j, hj, rfl, rfl, HN⟩ := hrel
                    rcases va_open HN.out.2.1 with ⟨e, _⟩ | ⟨off7, c7', e7, m7, m8, m9, m10⟩
                    · exact absurd e HN.out.2.2.1
                    · injection e7 with e1 e2 e3
                      subst e1; subst e3
                      have HC := Lib.hid m10
                      clear m10
                      by_cases hjl : j < ms.length
                      · skip
                        as_aux_lemma =>
                          obtain ⟨p, hpi⟩ : ∃ p, ms[j]? = some p := ⟨_, List.getElem?_eq_getElem hjl⟩
                          obtain ⟨r0, r1⟩ := HC.out j p hpi
                          have hpb := HN.out.2.2.2.2.2.2.2 p (List.mem_of_getElem? hpi)
                          obtain ⟨B, hB⟩ : ∃ B, best n ms j = B := ⟨_, rfl⟩
                          have hways := best_ways n ms j p hpi B hB
                          rw [hB]
                          clear hB hpi
                          have i1 : (j : Int) < ms.length := by omega
                          have d0 : decide (1 ≤ n) = true := by simpa using hn1
                          have HWn : ∀ q, Hid (SW B0 g b bm w (wr.drewN q) k (.slice (some ⟨bm, off7, none⟩) ms.length c7) ms) := fun q => Lib.hid (HN.out.drw q)
                          rcases hways with ⟨d1, hn1'⟩ | ⟨d1, d2, hn1'⟩ | ⟨d1, d2, rfl, hn1'⟩ | ⟨jq, q, rfl, hjq, hq, d1, d2, ⟨d3, hn1'⟩ | ⟨d3, hn1'⟩⟩
                          rotate_right 2
                          all_goals
                            first
                              | (obtain ⟨s0, s1⟩ := HC.out jq q hq
                                 have j1 : (jq : Int) < ms.length := by omega
                                 have j0 : decide ((jq : Int) < 0) = false := by simp)
                              | skip
                            have HN1 := Lib.hid hn1'
                            clear hn1'
                            go_wp2_with fail
                            go_quiet (fail)
                            go_wp2_with fail
                            go_roundw
                            case rel => exact ⟨j + 1, by omega, by go_num, by rw [HN1.out], HWn _⟩
                            case measure => simp [intOf] <;> omega
                      · obtain rfl : j = ms.length := by omega
                        as_aux_lemma =>
                          have HPP : Hid (∀ p ∈ ms, 0 ≤ p.2 ∧ p.2 ≤ 1000) := Lib.hid (fun p hp => by have := HN.out.2.2.2.2.2.2.2 p hp; omega)
                          have HP9 : Hid (∀ p ∈ ms, 1 ≤ p.2 ∧ p.2 ≤ 16) := Lib.hid HN.out.2.2.2.2.2.2.2
                          have hmk := HN.out.2.2.2.2.2.2.1
                          rcases best_bd n ms ms.length with hb | ⟨jq, hb, hjq⟩
                          · have HBN := Lib.hid hb
                            rw [hb]
                            clear hb HC
                            go_wp2_with fail
                            refine (take_any g b k ms n _ HN.out.1 hn1 (by omega) (by omega) HPP.out).mono ?_
                            rintro e x1 ⟨b', hb', hf, ⟨_, hs, rfl⟩ | ⟨j', p, hj', _⟩⟩
                            · have HV := Lib.hid (HN.out.sv.fr hf hs hb')
                              have HN3 : ∀ o q, Hid (SW B0 g b' bm w ((x1.alloc o).drewN q) k (.slice (some ⟨bm, off7, none⟩) ms.length c7) ms) := fun o q => Lib.hid (((HV.out.below (alc0 _ _)).drw q).sw hmk HP9.out)
                              clear hf hs hb' HN HV
                              go_wp2_with fail
                              go_quiet (fail)
                              go_wp2_with fail
                              go_meet
                              exact ⟨ms, b', bm, HN3 _ _⟩
                            · have := HBN.out
                              exfalso; omega
                          · have HBN := Lib.hid hb
                            rw [hb]
                            clear hb
                            go_wp2_with fail
                            refine (take_any g b k ms n _ HN.out.1 hn1 (by omega) (by omega) HPP.out).mono ?_
                            rintro e x1 ⟨b', hb', hf, ⟨hj', _⟩ | ⟨j', p, hj', hp, hs, rfl⟩⟩
                            · have := HBN.out
                              exfalso; omega
                            · have HV := Lib.hid (HN.out.sv.fr hf hs hb')
                              obtain rfl : jq = j' := by have := HBN.out; omega
                              have HV3 : ∀ q, Hid (SV B0 g b' bm w ((x1.alloc (.cells #[.int .i64 p.1, .int .i64 p.2] 50)).drewN q) k (.slice (some ⟨bm, off7, none⟩) ms.length c7) ms (ms.eraseIdx jq)) := fun q => Lib.hid ((HV.out.below (alc0 _ _)).drw q)
                              have d3 := HV.out.2.2.2.1.2.2
                              rcases va_open HV.out.2.1 with ⟨e, _⟩ | ⟨off7', c7', e7, p7, p8, p9, p10⟩
                              · simp at e
                              · injection e7 with e1 e2 e3
                                injection e1 with e1
                                injection e1 with _ e1
                                subst e1; subst e3
                                obtain ⟨r2, r3⟩ := p10 jq p hp
                                have i1 : (jq : Int) < ms.length := by omega
                                have i0 : (0 : Int) ≤ jq := by omega
                                have HPE := Lib.hid hp
                                clear hf hs hb' HN HV HC p10 m7 hj' hp
                                go_wp2_with fail
                                go_quiet (fail)
                                obtain ⟨W5, hW5⟩ : ∃ W5, (x1.alloc (.cells #[.int .i64 p.1, .int .i64 p.2] 50)).drewN nq = W5 := ⟨_, rfl⟩
                                have HV5 := HV3 nq
                                rw [hW5] at HV5 ⊢
                                clear hW5 HV3 r2 r3 d3
                                have hj1 : (jq : Int) + 1 ≤ ms.length := by omega
                                have hj0 : (0 : Int) ≤ (jq : Int) + 1 := by omega
                                have hwj : IntKind.i64.wrap ((jq : Int) + 1) = (jq : Int) + 1 := by first | (rw [IntKind.wrap_i64]; omega) | (unfold IntKind.wrap; simp; omega)
                                have hjc : (jq : Int) ≤ c7 := by omega
                                have hjc2 : jq ≤ c7 := by omega
                                have hbs := HV5.out.2.2.2.1.2.2
                                obtain ⟨A9, hA9, hsrc⟩ : ∃ A : Addr, (if c7 = jq + 1 then some (⟨bm, off7, none⟩ : Addr) else some ⟨bm, off7 + (jq + 1) * 2, none⟩) = some A ∧ ∀ W' : World, W'.heap[bm]? = W5.heap[bm]? → ∀ (t : Nat) (u : Value), ((ms.flatMap enc2).drop ((jq + 1) * 2))[t]? = some u → W'.cell? (A.add t) = some u := by
                                  obtain ⟨A, c, e, q1, q2, q3, q4, ⟨q5, _⟩ | ⟨off', q6, q7, q8, _⟩⟩ := HV5.out.2.1
                                  · injection e with e2; rw [q5] at e2; cases e2
                                  · injection e with e2 e3 e4
                                    rw [q6] at e2; injection e2 with e2; injection e2 with _ e2; subst e2
                                    exact drop_addr bm off7 c7 (jq + 1) ms.length _ q1 (by omega) (by omega) W5 q8
                                have HSRC := Lib.hid hsrc
                                have HAT : Hid (At W5 bm off7 (ms.flatMap enc2)) := Lib.hid (by
                                  obtain ⟨A, c, e, q1, q2, q3, q4, ⟨q5, _⟩ | ⟨off', q6, q7, q8, _⟩⟩ := HV5.out.2.1
                                  · injection e with e2; rw [q5] at e2; cases e2
                                  · injection e with e2 e3 e4
                                    rw [q6] at e2; injection e2 with e2; injection e2 with _ e2; subst e2
                                    exact q8)
                                have HFL : Hid ((ms.flatMap enc2).length = ms.length * 2) := Lib.hid (flat_len enc2 2 enc2_len ms)
                                clear hsrc
                                have hlen1 : ms.length ≤ 16 := hml
                                have HN7 : Hid ((ms.eraseIdx jq).length = jq + (ms.length - (jq + 1))) := Lib.hid (by rw [List.length_eraseIdx_of_lt hjq]; omega)
                                have HE7 : Hid ((ms.eraseIdx jq).flatMap enc2 = (ms.flatMap enc2).take (jq * 2) ++ (ms.flatMap enc2).drop ((jq + 1) * 2)) := Lib.hid (by rw [List.eraseIdx_eq_take_drop_succ, List.flatMap_append, flat_take enc2 2 enc2_len, flat_drop enc2 2 enc2_len])
                                go_wp2_with fail
                                go_region_law (first | (refine step_app_vz tyArea rfl (.tmp 163) (.tmp 166) rfl W5.heap.size (.slice (some ⟨W5.heap.size, 0, none⟩) 0 0) 0 [] (by simp [Act.eval, Act.put]) (vz_made 2 W5.drew _) ⟨bm, off7, none⟩ jq c7 ((ms.flatMap enc2).take (jq * 2)) (by simp [Act.eval, Act.put]) (by rw [List.length_take, HFL.out]; omega) (fun j u hu => by rw [addp]; exact (World.cell?_of_block (Below.heap_alloc W5.drew _ _ hbs)).trans (HAT.out j u (take_get hu))) (fun u hu => enc2_one ms u (List.mem_of_mem_take hu)) (by omega) ?_; rintro v' w' hp9 hnn9; simp only [Nat.zero_add, List.nil_append] at hp9; obtain ⟨b9, hb9, hv9, hs9, ho9, hl9⟩ := hp9; have hs9' : W5.heap.size + 1 ≤ w'.heap.size := (by simpa using hs9)) | (refine step_app_vz tyArea rfl (.tmp 167) (.tmp 171) rfl b9 v' jq ((ms.flatMap enc2).take (jq * 2)) (by simp [Act.eval, Act.put]) hv9 A9 (ms.length - (jq + 1)) (c7 - (jq + 1)) ((ms.flatMap enc2).drop ((jq + 1) * 2)) (by simp [Act.eval, Act.put]) (by rw [List.length_drop, HFL.out]; omega) (HSRC.out _ ((ho9 bm (by simp; omega) (by omega)).trans (Below.heap_alloc W5.drew _ _ hbs))) (fun u hu => enc2_one ms u (List.mem_of_mem_drop hu)) (by omega) ?_; rintro v'' w'' ⟨b8, hb8, hv8, hs8, ho8, hl8⟩ hnn8))
                                all_goals
                                  have hB9 : Below W5.heap.size W5 w' := (alc ((Below.refl _ W5).drew) _).trans (hl9 _ (Nat.le_refl _) (by simp))
                                  have hb9' : W5.heap.size ≤ b9 := by
                                    rcases hb9 with rfl | h
                                    · exact Nat.le_refl _
                                    · simp at h; omega
                                  have hb8' : W5.heap.size ≤ b8 := by rcases hb8 with rfl | h <;> omega
                                  have hB8 : Below W5.heap.size W5 w'' := hB9.trans (hl8 _ hb9' (by omega))
                                  have hnv : v'' ≠ .slice none 0 0 := fun h => by have := hnn9 (hnn8 h); simp at this
                                  have hva : VA b8 w'' v'' (ms.eraseIdx jq) := by
                                    show VZ 2 b8 w'' v'' (ms.eraseIdx jq).length ((ms.eraseIdx jq).flatMap enc2)
                                    rw [HN7.out, HE7.out]
                                    exact hv8
                                  obtain ⟨b7, hfin⟩ := HV5.out.newm hB8 hva hnv hb8'
                                  have HFIN := Lib.hid (hfin.sw (by rw [HN7.out]; omega) (fun p hp => HP9.out p (List.mem_of_mem_eraseIdx hp)))
                                  clear hfin hva hnv hB8 hb8' hb9' hB9 hv8 hs8 ho8 hl8 hv9 hs9 ho9 hl9 hb9 hb8 hnn8 hnn9
                                  go_wp2_with fail
                                  go_meet
                                  exact ⟨ms.eraseIdx jq, b7, b8, HFIN⟩
              | false =>
                obtain ⟨T3, T4⟩ := hX2 rfl
                clear hX1 hX2
                by_cases T5 : T = 5
                · subst T5
                  as_aux_lemma =>
                    have HP9 : Hid (∀ p ∈ ms, 1 ≤ p.2 ∧ p.2 ≤ 16) := Lib.hid HN.out.2.2.2.2.2.2.2
                    have hmk := HN.out.2.2.2.2.2.2.1
                    obtain ⟨L, hL⟩ : ∃ L, ms.length = L := ⟨_, rfl⟩
                    rw [hL] at HN hml hmk ⊢
                    go_wp2_with fail
                    refine (sfirst_any g b k ms _ HN.out.1 (by omega)).mono ?_
                    rintro e x1 ⟨hf, hs, ⟨rfl, rfl⟩ | ⟨p, r, rfl, rfl⟩⟩
                    · have HV := Lib.hid (HN.out.sv.fr hf hs (.inl rfl))
                      obtain rfl : L = 0 := by simpa using hL.symm
                      have HN3 : ∀ o q, Hid (SW B0 g b bm w ((x1.alloc o).drewN q) k (.slice A7 0 c7) []) := fun o q => Lib.hid (((HV.out.below (alc0 _ _)).drw q).sw (by simpa using hmk) HP9.out)
                      clear hf hs HN HV hL hmk
                      go_wp2_with fail
                      go_quiet (fail)
                      go_wp2_with fail
                      go_meet
                      exact ⟨[], b, bm, HN3 _ _⟩
                    · have HV := Lib.hid (HN.out.sv.fr hf hs (.inl rfl))
                      have HLr : Hid (r.length + 1 = L) := Lib.hid (by simpa using hL)
                      have hL1 : (0 : Int) < L := by have := HLr.out; omega
                      have hL2 : (1 : Int) ≤ L := by omega
                      have HPr : Hid (∀ p ∈ r, 1 ≤ p.2 ∧ p.2 ≤ 16) := Lib.hid (fun q hq => HP9.out q (by simp [hq]))
                      rcases va_open HV.out.2.1 with ⟨_, e⟩ | ⟨off7, c7', e7, p7, p8, p9, p10⟩
                      · simp at e
                      · injection e7 with e1 e2 e3
                        subst e1; subst e3
                        obtain ⟨r2, r3⟩ := p10 0 p rfl
                        simp only [Nat.zero_mul, Nat.add_zero] at r2 r3
                        have hc9 : L ≤ c7 := by have := HLr.out; simp at p8; omega
                        have d3 := HV.out.2.2.2.1.2.2
                        have hd0 : decide ((0 : Int) < L) = true := by simpa using hL1
                        have hLn : 0 < L := by omega
                        have hdn : decide (0 < L) = true := by simpa using hLn
                        have HVT : ∀ o, Hid (SV B0 g b bm w (x1.alloc o) k (.slice (some ⟨bm, off7, none⟩) L c7) (p :: r) r) := fun o => Lib.hid (HV.out.below (alc0 x1 o))
                        clear hf hs HN HV hL p10 e2 p7 p8 p9
                        by_cases hc1 : c7 = 1
                        · have hl1 : L = 1 := by omega
                          have KH : ∀ o q, Hid (SW B0 g b bm w ((x1.alloc o).drewN q) k (.slice (some ⟨bm, off7, none⟩) (L - 1) 0) r) := fun o q => Lib.hid ((HVT o).out.tailw1 HLr.out (by have := HLr.out; omega) HPr.out hc1 q)
                          clear HVT hl1
                          go_wp2_with fail
                          go_quiet (fail)
                          go_wp2_with fail
                          go_meet
                          exact ⟨r, b, bm, KH _ _⟩
                        · have hc2 : ¬ c7 = 1 := hc1
                          have KH : ∀ o q, Hid (SW B0 g b bm w ((x1.alloc o).drewN q) k (.slice (some ⟨bm, off7 + 2, none⟩) (L - 1) (c7 - 1)) r) := fun o q => Lib.hid ((HVT o).out.tailw2 HLr.out (by have := HLr.out; omega) HPr.out q)
                          clear HVT
                          go_wp2_with fail
                          go_quiet (fail)
                          go_wp2_with fail
                          go_meet
                          exact ⟨r, b, bm, KH _ _⟩
                · skip
                  as_aux_lemma =>
                    have HP9 : Hid (∀ p ∈ ms, 1 ≤ p.2 ∧ p.2 ≤ 16) := Lib.hid HN.out.2.2.2.2.2.2.2
                    have hmk := HN.out.2.2.2.2.2.2.1
                    obtain ⟨X1, hX1⟩ : ∃ X : Int, (i : Int) = X := ⟨_, rfl⟩
                    obtain ⟨X2, hX2⟩ : ∃ X : Int, n + 1 = X := ⟨_, rfl⟩
                    have hX2b : 1 ≤ X2 ∧ X2 ≤ 16 := by omega
                    have HPX : Hid (∀ p ∈ ms ++ [((X1, X2) : Ar)], 1 ≤ p.2 ∧ p.2 ≤ 16) := Lib.hid (fun p hp => by
                      rcases List.mem_append.1 hp with h | h
                      · exact HP9.out p h
                      · simp at h; subst h; exact hX2b)
                    obtain ⟨b, hbX, hNb⟩ := HN.out.fixX
                    have hgw : g < wr.heap.size := hNb.1.1
                    clear HN
                    have HNa : Hid (SW B0 g b bm w (wr.alloc (.cells #[.int .i64 X1, .int .i64 X2] 50)) k (.slice A7 ms.length c7) ms) := Lib.hid (hNb.below (alc0 wr _))
                    clear hNb
                    obtain ⟨X16, hX⟩ : ∃ X, wr.heap.size = X := ⟨_, rfl⟩
                    have hX9 : X16 < (wr.alloc (.cells #[.int .i64 X1, .int .i64 X2] 50)).heap.size := by simp; omega
                    have hgX : X16 ≠ g := by omega
                    rw [hX] at hbX
                    go_wp2_with fail
                    refine (sput_all g b k ms (X1, X2) _ HNa.out.1 hk0 hk1 hmk).mono ?_
                    rintro e x1 ⟨b', hb', hf, hcase⟩
                    have k16 := hf.2.1 X16 hX9 hgX (Ne.symm hbX)
                    have cw0 : x1.cell? ⟨X16, 0, none⟩ = some (.int .i64 X1) := (World.cell?_of_block k16).trans (by rw [← hX]; simp)
                    have cw1 : x1.cell? ⟨X16, 1, none⟩ = some (.int .i64 X2) := (World.cell?_of_block k16).trans (by rw [← hX]; simp)
                    have hX8 : X16 < x1.heap.size := Nat.lt_of_lt_of_le hX9 hf.1
                    obtain ⟨L, hL⟩ : ∃ L, ms.length + 1 = L := ⟨_, rfl⟩
                    have HLL := Lib.hid hL
                    try rw [hX]
                    clear k16 hX9 hX1 hX2
                    rcases hcase with ⟨hle, hs, rfl⟩ | ⟨hgt, hs, q, r, hqr, rfl⟩
                    · have HV := Lib.hid (HNa.out.sv.fr hf hs hb')
                      have HV5 : Hid (SV B0 g b' bm w (x1.alloc (.cells #[.int .i64 0, .int .i64 0] 50)) k (.slice A7 ms.length c7) ms (ms ++ [((X1, X2) : Ar)])) := Lib.hid (HV.out.below (alc0 _ _))
                      have cx0 := (World.cell?_alloc_lt x1 (.cells #[.int .i64 0, .int .i64 0] 50) ⟨X16, 0, none⟩ (by exact hX8)).trans cw0
                      have cx1 := (World.cell?_alloc_lt x1 (.cells #[.int .i64 0, .int .i64 0] 50) ⟨X16, 1, none⟩ (by exact hX8)).trans cw1
                      have hX16 : X16 < (x1.alloc (.cells #[.int .i64 0, .int .i64 0] 50)).heap.size := by simp; omega
                      have cz0 : (x1.alloc (.cells #[.int .i64 0, .int .i64 0] 50)).cell? ⟨x1.heap.size, 0, none⟩ = some (.int .i64 0) := by simp
                      have cz1 : (x1.alloc (.cells #[.int .i64 0, .int .i64 0] 50)).cell? ⟨x1.heap.size, 1, none⟩ = some (.int .i64 0) := by simp
                      have hYW : x1.heap.size < (x1.alloc (.cells #[.int .i64 0, .int .i64 0] 50)).heap.size := by simp
                      clear hf hs hb' HNa cw0 cw1 HV
                      go_wp2_with fail
                      obtain ⟨W5, hW5⟩ : ∃ W5, x1.alloc (.cells #[.int .i64 0, .int .i64 0] 50) = W5 := ⟨_, rfl⟩
                      rw [hW5] at HV5 cx0 cx1 hX16 cz0 cz1 hYW ⊢
                      obtain ⟨Y, hY⟩ : ∃ Y, x1.heap.size = Y := ⟨_, rfl⟩
                      rw [hY] at cz0 cz1 hYW ⊢
                      clear hW5 hY hX8
                      obtain ⟨off7, c7', e7, m7, m8, m9⟩ : ∃ off c', (Value.slice A7 ms.length c7) = .slice (some ⟨bm, off, none⟩) ms.length c' ∧ bm < W5.heap.size ∧ ms.length ≤ c' ∧ Hid (At W5 bm off (ms.flatMap enc2)) := by
                        obtain ⟨A, c, e, q1, q2, q3, q4, ⟨q5, q6, q7⟩ | ⟨off', q6, q7, q8, _⟩⟩ := HV5.out.2.1
                        · refine absurd ?_ HV5.out.2.2.1
                          rw [e, q5, q6, q7]
                        · exact ⟨off', c, by rw [e, q6], q7, q2, Lib.hid q8⟩
                      injection e7 with e1 e2 e3
                      subst e1; subst e3
                      have HFL : Hid ((ms.flatMap enc2).length = ms.length * 2) := Lib.hid (flat_len enc2 2 enc2_len ms)
                      have HX := Lib.hid hX16
                      go_cut [7] (fun v7 wx => ∃ (c9 : Nat) (A9 : Option Addr) (b9 bm9 : Nat), v7 = .slice A9 L c9 ∧ Hid (SV B0 g b9 bm9 w wx k v7 (ms ++ [((X1, X2) : Ar)]) (ms ++ [((X1, X2) : Ar)])) ∧ Hid (Below W5.heap.size W5 wx))
                      case first =>
                        clear cz0 cz1 hYW
                        go_region_law (first | (refine step_app_vz tyArea rfl (.tmp 68) (.tmp 69) rfl W5.heap.size (.slice (some ⟨W5.heap.size, 0, none⟩) 0 0) 0 [] (by simp [Act.eval, Act.put]) (vz_made 2 W5.drew _) ⟨bm, off7, none⟩ ms.length c7 (ms.flatMap enc2) (by simp [Act.eval, Act.put]) HFL.out (fun j u hu => by rw [addp]; exact (World.cell?_of_block (Below.heap_alloc W5.drew _ _ m7)).trans (m9.out j u hu)) (enc2_one ms) (by omega) ?_; rintro v' w' hp9 hnn9; simp only [Nat.zero_add, List.nil_append] at hp9; obtain ⟨b9, hb9, hv9, hs9, ho9, hl9⟩ := hp9; have k16 : w'.heap[X16]? = W5.heap[X16]? := (ho9 X16 (by simp <;> omega) (by omega)).trans (Below.heap_alloc W5.drew _ _ hX16); have cy0 := (World.cell?_of_block k16 (a := ⟨X16, 0, none⟩)).trans cx0; have cy1 := (World.cell?_of_block k16 (a := ⟨X16, 1, none⟩)).trans cx1; have hX17 : X16 < w'.heap.size := Nat.lt_of_lt_of_le hX16 (Nat.le_trans (by simp) hs9); have hB9 : Below W5.heap.size W5 w' := (alc ((Below.refl _ W5).drew) _).trans (hl9 _ (Nat.le_refl _) (by simp <;> omega)); have hb9' : W5.heap.size ≤ b9 := (by rcases hb9 with rfl | h; exact Nat.le_refl _; simp at h; omega); have hsz9 : W5.heap.size ≤ w'.heap.size := hB9.size; have hnv9 : v' ≠ .slice none 0 0 := fun h => by have := hnn9 h; simp at this) | (refine step_app_vz tyArea rfl (.tmp 68) (.tmp 69) rfl W5.heap.size (.slice (some ⟨W5.heap.size, 0, none⟩) 0 0) 0 [] (by simp [Act.eval, Act.put]) ((vz_made 2 W5.drew _).below (alc0 _ _)) ⟨bm, off7, none⟩ ms.length c7 (ms.flatMap enc2) (by simp [Act.eval, Act.put]) HFL.out (fun j u hu => by rw [addp]; exact (World.cell?_of_block ((Below.heap_alloc (W5.drew.alloc _) _ _ (by simp <;> omega)).trans (Below.heap_alloc W5.drew _ _ m7))).trans (m9.out j u hu)) (enc2_one ms) (by omega) ?_; rintro v' w' hp9 hnn9; simp only [Nat.zero_add, List.nil_append] at hp9; obtain ⟨b9, hb9, hv9, hs9, ho9, hl9⟩ := hp9; have hB9 : Below W5.heap.size W5 w' := (alc (alc ((Below.refl _ W5).drew) _) _).trans (hl9 _ (Nat.le_refl _) (by simp <;> omega)); have hb9' : W5.heap.size ≤ b9 := (by rcases hb9 with rfl | h; exact Nat.le_refl _; simp at h; omega); have hsz9 : W5.heap.size ≤ w'.heap.size := hB9.size; have hnv9 : v' ≠ .slice none 0 0 := (fun h => by have := hnn9 h; simp at this); have k72 := ho9 (W5.heap.size + 1) (by simp <;> omega) (by omega); have c72 : ∀ j u, ([.int .i64 X1, .int .i64 X2] : List Value)[j]? = some u → w'.cell? ((⟨W5.heap.size + 1, 0, none⟩ : Addr).add j) = some u := (fun j u hu => by have h := new2 (W5.drew.alloc (.cells #[] 50)) X1 X2 50 j u hu; have hz1 : (W5.drew.alloc (.cells #[] 50)).heap.size = W5.heap.size + 1 := (by simp); rw [hz1] at h; rw [addp] at h ⊢; exact (World.cell?_of_block k72).trans h)) | (refine step_app_vz tyArea rfl (.tmp 68) (.tmp 69) rfl (W5.heap.size + 1) (.slice (some ⟨W5.heap.size + 1, 0, none⟩) 0 0) 0 [] (by simp [Act.eval, Act.put]) (by have h := vz_made 2 (W5.drew.alloc (.cells #[.int .i64 X1, .int .i64 X2] 50)) 50; have hz1 : (W5.drew.alloc (.cells #[.int .i64 X1, .int .i64 X2] 50)).heap.size = W5.heap.size + 1 := (by simp); rw [hz1] at h; exact h) ⟨bm, off7, none⟩ ms.length c7 (ms.flatMap enc2) (by simp [Act.eval, Act.put]) HFL.out (fun j u hu => by rw [addp]; exact (World.cell?_of_block ((Below.heap_alloc (W5.drew.alloc _) _ _ (by simp <;> omega)).trans (Below.heap_alloc W5.drew _ _ m7))).trans (m9.out j u hu)) (enc2_one ms) (by omega) ?_; rintro v' w' hp9 hnn9; simp only [Nat.zero_add, List.nil_append] at hp9; obtain ⟨b9, hb9, hv9, hs9, ho9, hl9⟩ := hp9; have hB9 : Below W5.heap.size W5 w' := (alc (alc ((Below.refl _ W5).drew) _) _).trans (hl9 _ (by omega) (by simp <;> omega)); have hb9' : W5.heap.size ≤ b9 := (by rcases hb9 with rfl | h; omega; simp at h; omega); have hsz9 : W5.heap.size ≤ w'.heap.size := hB9.size; have hnv9 : v' ≠ .slice none 0 0 := (fun h => by have := hnn9 h; simp at this); have k72 := ho9 W5.heap.size (by simp <;> omega) (by omega); have c72 : ∀ j u, ([.int .i64 X1, .int .i64 X2] : List Value)[j]? = some u → w'.cell? ((⟨W5.heap.size, 0, none⟩ : Addr).add j) = some u := (fun j u hu => by have h := new2 W5.drew X1 X2 50 j u hu; rw [addp] at h ⊢; exact ((World.cell?_of_block k72).trans (World.cell?_of_block (Below.heap_alloc _ _ _ (by simp)))).trans h)) | (refine step_app_vz tyArea rfl (.tmp 70) (.tmp 72) rfl b9 v' ms.length (ms.flatMap enc2) (by simp [Act.eval, Act.put]) (hv9.below (alc0 w' _)) ⟨w'.heap.size, 0, none⟩ 1 1 [.int .i64 X1, .int .i64 X2] (by simp [Act.eval, Act.put]) rfl (new2 w' X1 X2 _) (by simp [Value.oneCell']) (by omega) ?_; rintro v'' w'' ⟨b8, hb8, hv8, hs8, ho8, hl8⟩ hnn8; have hB8 : Below W5.heap.size W5 w'' := (alc hB9 _).trans (hl8 _ hb9' (by simp <;> omega)); have hb8' : W5.heap.size ≤ b8 := (by rcases hb8 with rfl | h; omega; simp at h; omega)) | (refine step_app_vz tyArea rfl (.tmp 70) (.tmp 72) rfl b9 v' ms.length (ms.flatMap enc2) (by simp [Act.eval, Act.put]) hv9 ⟨W5.heap.size + 1, 0, none⟩ 1 1 [.int .i64 X1, .int .i64 X2] (by simp [Act.eval, Act.put]) rfl c72 (by simp [Value.oneCell']) (by omega) ?_; rintro v'' w'' ⟨b8, hb8, hv8, hs8, ho8, hl8⟩ hnn8; have hB8 : Below W5.heap.size W5 w'' := hB9.trans (hl8 _ hb9' (by omega)); have hb8' : W5.heap.size ≤ b8 := (by rcases hb8 with rfl | h; omega; omega)) | (refine step_app_vz tyArea rfl (.tmp 70) (.tmp 72) rfl b9 v' ms.length (ms.flatMap enc2) (by simp [Act.eval, Act.put]) hv9 ⟨W5.heap.size, 0, none⟩ 1 1 [.int .i64 X1, .int .i64 X2] (by simp [Act.eval, Act.put]) rfl c72 (by simp [Value.oneCell']) (by omega) ?_; rintro v'' w'' ⟨b8, hb8, hv8, hs8, ho8, hl8⟩ hnn8; have hB8 : Below W5.heap.size W5 w'' := hB9.trans (hl8 _ hb9' (by omega)); have hb8' : W5.heap.size ≤ b8 := (by rcases hb8 with rfl | h; omega; omega)))
                        all_goals
                          have hva : VA b8 w'' v'' (ms ++ [((X1, X2) : Ar)]) := by
                            show VZ 2 b8 w'' v'' (ms ++ [((X1, X2) : Ar)]).length ((ms ++ [((X1, X2) : Ar)]).flatMap enc2)
                            rw [List.flatMap_append, List.length_append]
                            exact hv8
                          have hnv : v'' ≠ .slice none 0 0 := fun h => hnv9 (hnn8 h)
                          obtain ⟨b7, hfin⟩ := HV5.out.newm hB8 hva hnv hb8'
                          skip
                          have HFN := Lib.hid hfin
                          have HB8 := Lib.hid hB8
                          obtain ⟨A9, c9, rfl, _⟩ := hv8
                          rw [HLL.out] at HFN ⊢
                          clear hfin hva hnv hB8 hb8' hb9' hB9 hs8 ho8 hl8 hv9 hs9 ho9 hl9 hb9 hb8 hnn8 hnn9 hnv9 hsz9
                          go_wp2_with fail
                          go_meet
                          exact ⟨c9, A9, b7, b8, rfl, HFN, HB8⟩
                      case rest =>
                        obtain ⟨c9, A9, b9, bm9, rfl, HS9, HB9⟩ := hcut
                        clear HV5 cx0 cx1 hX16 m7 m8 m9
                        have hd : decide (k < (L : Int)) = false := by simp; omega
                        have KH : ∀ q, Hid (SW B0 g b9 bm9 w (wc.drewN q) k (.slice A9 L c9) (ms ++ [((X1, X2) : Ar)])) := fun q => Lib.hid ((HS9.out.drw q).sw (by simp <;> omega) HPX.out)
                        clear HS9 HB9 cz0 cz1
                        go_wp2_with fail
                        go_quiet (fail)
                        go_wp2_with fail
                        go_meet
                        exact ⟨_, b9, bm9, KH _⟩
                    · rw [hqr, List.tail_cons] at hs
                      have HLr : Hid (r.length + 1 = L) := Lib.hid (by have := congrArg List.length hqr; simp at this; omega)
                      have HQR := Lib.hid hqr
                      clear hqr
                      have HV := Lib.hid (HNa.out.sv.fr hf hs hb')
                      have HV5 : Hid (SV B0 g b' bm w (x1.alloc (.cells #[.int .i64 q.1, .int .i64 q.2] 50)) k (.slice A7 ms.length c7) ms r) := Lib.hid (HV.out.below (alc0 _ _))
                      have cx0 := (World.cell?_alloc_lt x1 (.cells #[.int .i64 q.1, .int .i64 q.2] 50) ⟨X16, 0, none⟩ (by exact hX8)).trans cw0
                      have cx1 := (World.cell?_alloc_lt x1 (.cells #[.int .i64 q.1, .int .i64 q.2] 50) ⟨X16, 1, none⟩ (by exact hX8)).trans cw1
                      have hX16 : X16 < (x1.alloc (.cells #[.int .i64 q.1, .int .i64 q.2] 50)).heap.size := by simp; omega
                      have cz0 : (x1.alloc (.cells #[.int .i64 q.1, .int .i64 q.2] 50)).cell? ⟨x1.heap.size, 0, none⟩ = some (.int .i64 q.1) := by simp
                      have cz1 : (x1.alloc (.cells #[.int .i64 q.1, .int .i64 q.2] 50)).cell? ⟨x1.heap.size, 1, none⟩ = some (.int .i64 q.2) := by simp
                      have hYW : x1.heap.size < (x1.alloc (.cells #[.int .i64 q.1, .int .i64 q.2] 50)).heap.size := by simp
                      clear hf hs hb' HNa cw0 cw1 HV
                      go_wp2_with fail
                      obtain ⟨W5, hW5⟩ : ∃ W5, x1.alloc (.cells #[.int .i64 q.1, .int .i64 q.2] 50) = W5 := ⟨_, rfl⟩
                      rw [hW5] at HV5 cx0 cx1 hX16 cz0 cz1 hYW ⊢
                      obtain ⟨Y, hY⟩ : ∃ Y, x1.heap.size = Y := ⟨_, rfl⟩
                      rw [hY] at cz0 cz1 hYW ⊢
                      clear hW5 hY hX8
                      obtain ⟨off7, c7', e7, m7, m8, m9⟩ : ∃ off c', (Value.slice A7 ms.length c7) = .slice (some ⟨bm, off, none⟩) ms.length c' ∧ bm < W5.heap.size ∧ ms.length ≤ c' ∧ Hid (At W5 bm off (ms.flatMap enc2)) := by
                        obtain ⟨A, c, e, q1, q2, q3, q4, ⟨q5, q6, q7⟩ | ⟨off', q6, q7, q8, _⟩⟩ := HV5.out.2.1
                        · refine absurd ?_ HV5.out.2.2.1
                          rw [e, q5, q6, q7]
                        · exact ⟨off', c, by rw [e, q6], q7, q2, Lib.hid q8⟩
                      injection e7 with e1 e2 e3
                      subst e1; subst e3
                      have HFL : Hid ((ms.flatMap enc2).length = ms.length * 2) := Lib.hid (flat_len enc2 2 enc2_len ms)
                      have HX := Lib.hid hX16
                      go_cut [7] (fun v7 wx => ∃ (c9 : Nat) (A9 : Option Addr) (b9 bm9 : Nat), v7 = .slice A9 L c9 ∧ Hid (SV B0 g b9 bm9 w wx k v7 (q :: r) r) ∧ Hid (Below W5.heap.size W5 wx))
                      case first =>
                        clear cz0 cz1 hYW
                        go_region_law (first | (refine step_app_vz tyArea rfl (.tmp 68) (.tmp 69) rfl W5.heap.size (.slice (some ⟨W5.heap.size, 0, none⟩) 0 0) 0 [] (by simp [Act.eval, Act.put]) (vz_made 2 W5.drew _) ⟨bm, off7, none⟩ ms.length c7 (ms.flatMap enc2) (by simp [Act.eval, Act.put]) HFL.out (fun j u hu => by rw [addp]; exact (World.cell?_of_block (Below.heap_alloc W5.drew _ _ m7)).trans (m9.out j u hu)) (enc2_one ms) (by omega) ?_; rintro v' w' hp9 hnn9; simp only [Nat.zero_add, List.nil_append] at hp9; obtain ⟨b9, hb9, hv9, hs9, ho9, hl9⟩ := hp9; have k16 : w'.heap[X16]? = W5.heap[X16]? := (ho9 X16 (by simp <;> omega) (by omega)).trans (Below.heap_alloc W5.drew _ _ hX16); have cy0 := (World.cell?_of_block k16 (a := ⟨X16, 0, none⟩)).trans cx0; have cy1 := (World.cell?_of_block k16 (a := ⟨X16, 1, none⟩)).trans cx1; have hX17 : X16 < w'.heap.size := Nat.lt_of_lt_of_le hX16 (Nat.le_trans (by simp) hs9); have hB9 : Below W5.heap.size W5 w' := (alc ((Below.refl _ W5).drew) _).trans (hl9 _ (Nat.le_refl _) (by simp <;> omega)); have hb9' : W5.heap.size ≤ b9 := (by rcases hb9 with rfl | h; exact Nat.le_refl _; simp at h; omega); have hsz9 : W5.heap.size ≤ w'.heap.size := hB9.size; have hnv9 : v' ≠ .slice none 0 0 := fun h => by have := hnn9 h; simp at this) | (refine step_app_vz tyArea rfl (.tmp 68) (.tmp 69) rfl W5.heap.size (.slice (some ⟨W5.heap.size, 0, none⟩) 0 0) 0 [] (by simp [Act.eval, Act.put]) ((vz_made 2 W5.drew _).below (alc0 _ _)) ⟨bm, off7, none⟩ ms.length c7 (ms.flatMap enc2) (by simp [Act.eval, Act.put]) HFL.out (fun j u hu => by rw [addp]; exact (World.cell?_of_block ((Below.heap_alloc (W5.drew.alloc _) _ _ (by simp <;> omega)).trans (Below.heap_alloc W5.drew _ _ m7))).trans (m9.out j u hu)) (enc2_one ms) (by omega) ?_; rintro v' w' hp9 hnn9; simp only [Nat.zero_add, List.nil_append] at hp9; obtain ⟨b9, hb9, hv9, hs9, ho9, hl9⟩ := hp9; have hB9 : Below W5.heap.size W5 w' := (alc (alc ((Below.refl _ W5).drew) _) _).trans (hl9 _ (Nat.le_refl _) (by simp <;> omega)); have hb9' : W5.heap.size ≤ b9 := (by rcases hb9 with rfl | h; exact Nat.le_refl _; simp at h; omega); have hsz9 : W5.heap.size ≤ w'.heap.size := hB9.size; have hnv9 : v' ≠ .slice none 0 0 := (fun h => by have := hnn9 h; simp at this); have k72 := ho9 (W5.heap.size + 1) (by simp <;> omega) (by omega); have c72 : ∀ j u, ([.int .i64 X1, .int .i64 X2] : List Value)[j]? = some u → w'.cell? ((⟨W5.heap.size + 1, 0, none⟩ : Addr).add j) = some u := (fun j u hu => by have h := new2 (W5.drew.alloc (.cells #[] 50)) X1 X2 50 j u hu; have hz1 : (W5.drew.alloc (.cells #[] 50)).heap.size = W5.heap.size + 1 := (by simp); rw [hz1] at h; rw [addp] at h ⊢; exact (World.cell?_of_block k72).trans h)) | (refine step_app_vz tyArea rfl (.tmp 68) (.tmp 69) rfl (W5.heap.size + 1) (.slice (some ⟨W5.heap.size + 1, 0, none⟩) 0 0) 0 [] (by simp [Act.eval, Act.put]) (by have h := vz_made 2 (W5.drew.alloc (.cells #[.int .i64 X1, .int .i64 X2] 50)) 50; have hz1 : (W5.drew.alloc (.cells #[.int .i64 X1, .int .i64 X2] 50)).heap.size = W5.heap.size + 1 := (by simp); rw [hz1] at h; exact h) ⟨bm, off7, none⟩ ms.length c7 (ms.flatMap enc2) (by simp [Act.eval, Act.put]) HFL.out (fun j u hu => by rw [addp]; exact (World.cell?_of_block ((Below.heap_alloc (W5.drew.alloc _) _ _ (by simp <;> omega)).trans (Below.heap_alloc W5.drew _ _ m7))).trans (m9.out j u hu)) (enc2_one ms) (by omega) ?_; rintro v' w' hp9 hnn9; simp only [Nat.zero_add, List.nil_append] at hp9; obtain ⟨b9, hb9, hv9, hs9, ho9, hl9⟩ := hp9; have hB9 : Below W5.heap.size W5 w' := (alc (alc ((Below.refl _ W5).drew) _) _).trans (hl9 _ (by omega) (by simp <;> omega)); have hb9' : W5.heap.size ≤ b9 := (by rcases hb9 with rfl | h; omega; simp at h; omega); have hsz9 : W5.heap.size ≤ w'.heap.size := hB9.size; have hnv9 : v' ≠ .slice none 0 0 := (fun h => by have := hnn9 h; simp at this); have k72 := ho9 W5.heap.size (by simp <;> omega) (by omega); have c72 : ∀ j u, ([.int .i64 X1, .int .i64 X2] : List Value)[j]? = some u → w'.cell? ((⟨W5.heap.size, 0, none⟩ : Addr).add j) = some u := (fun j u hu => by have h := new2 W5.drew X1 X2 50 j u hu; rw [addp] at h ⊢; exact ((World.cell?_of_block k72).trans (World.cell?_of_block (Below.heap_alloc _ _ _ (by simp)))).trans h)) | (refine step_app_vz tyArea rfl (.tmp 70) (.tmp 72) rfl b9 v' ms.length (ms.flatMap enc2) (by simp [Act.eval, Act.put]) (hv9.below (alc0 w' _)) ⟨w'.heap.size, 0, none⟩ 1 1 [.int .i64 X1, .int .i64 X2] (by simp [Act.eval, Act.put]) rfl (new2 w' X1 X2 _) (by simp [Value.oneCell']) (by omega) ?_; rintro v'' w'' ⟨b8, hb8, hv8, hs8, ho8, hl8⟩ hnn8; have hB8 : Below W5.heap.size W5 w'' := (alc hB9 _).trans (hl8 _ hb9' (by simp <;> omega)); have hb8' : W5.heap.size ≤ b8 := (by rcases hb8 with rfl | h; omega; simp at h; omega)) | (refine step_app_vz tyArea rfl (.tmp 70) (.tmp 72) rfl b9 v' ms.length (ms.flatMap enc2) (by simp [Act.eval, Act.put]) hv9 ⟨W5.heap.size + 1, 0, none⟩ 1 1 [.int .i64 X1, .int .i64 X2] (by simp [Act.eval, Act.put]) rfl c72 (by simp [Value.oneCell']) (by omega) ?_; rintro v'' w'' ⟨b8, hb8, hv8, hs8, ho8, hl8⟩ hnn8; have hB8 : Below W5.heap.size W5 w'' := hB9.trans (hl8 _ hb9' (by omega)); have hb8' : W5.heap.size ≤ b8 := (by rcases hb8 with rfl | h; omega; omega)) | (refine step_app_vz tyArea rfl (.tmp 70) (.tmp 72) rfl b9 v' ms.length (ms.flatMap enc2) (by simp [Act.eval, Act.put]) hv9 ⟨W5.heap.size, 0, none⟩ 1 1 [.int .i64 X1, .int .i64 X2] (by simp [Act.eval, Act.put]) rfl c72 (by simp [Value.oneCell']) (by omega) ?_; rintro v'' w'' ⟨b8, hb8, hv8, hs8, ho8, hl8⟩ hnn8; have hB8 : Below W5.heap.size W5 w'' := hB9.trans (hl8 _ hb9' (by omega)); have hb8' : W5.heap.size ≤ b8 := (by rcases hb8 with rfl | h; omega; omega)))
                        all_goals
                          have hva : VA b8 w'' v'' (ms ++ [((X1, X2) : Ar)]) := by
                            show VZ 2 b8 w'' v'' (ms ++ [((X1, X2) : Ar)]).length ((ms ++ [((X1, X2) : Ar)]).flatMap enc2)
                            rw [List.flatMap_append, List.length_append]
                            exact hv8
                          have hnv : v'' ≠ .slice none 0 0 := fun h => hnv9 (hnn8 h)
                          obtain ⟨b7, hfin⟩ := HV5.out.newm hB8 hva hnv hb8'
                          rw [HQR.out] at hfin
                          have HFN := Lib.hid hfin
                          have HB8 := Lib.hid hB8
                          obtain ⟨A9, c9, rfl, _⟩ := hv8
                          rw [HLL.out] at HFN ⊢
                          clear hfin hva hnv hB8 hb8' hb9' hB9 hs8 ho8 hl8 hv9 hs9 ho9 hl9 hb9 hb8 hnn8 hnn9 hnv9 hsz9
                          go_wp2_with fail
                          go_meet
                          exact ⟨c9, A9, b7, b8, rfl, HFN, HB8⟩
                      case rest =>
                        obtain ⟨c9, A9, b9, bm9, rfl, HS9, HB9⟩ := hcut
                        clear HV5 cx0 cx1 hX16 m7 m8 m9
                        have hd : decide (k < (L : Int)) = true := by simp; omega
                        have HPr : Hid (∀ p ∈ r, 1 ≤ p.2 ∧ p.2 ≤ 16) := Lib.hid (fun p hp => HPX.out p (by rw [HQR.out]; simp [hp]))
                        rcases va_open HS9.out.2.1 with ⟨_, e⟩ | ⟨off9, c9', e9, p7, p8, p9, p10⟩
                        · simp at e
                        · injection e9 with e1 e2 e3
                          subst e1; subst e3
                          obtain ⟨r2, r3⟩ := p10 0 q rfl
                          simp only [Nat.zero_mul, Nat.add_zero] at r2 r3
                          have z0 := (HB9.out.cell (p := ⟨Y, 0, none⟩) hYW).trans cz0
                          have z1 := (HB9.out.cell (p := ⟨Y, 1, none⟩) hYW).trans cz1
                          have hL1 : (0 : Int) < L := by omega
                          have hL2 : (1 : Int) ≤ L := by omega
                          have hc9 : L ≤ c9 := by have := HLr.out; simp at p8; omega
                          have hkr : (r.length : Int) ≤ k := by have := HLr.out; omega
                          clear p10 p7 p8 p9 cz0 cz1 hYW HB9
                          by_cases hc1 : c9 = 1
                          · have KH : ∀ q, Hid (SW B0 g b9 bm9 w (wc.drewN q) k (.slice (some ⟨bm9, off9, none⟩) (L - 1) 0) r) := fun q => Lib.hid (HS9.out.tailw1 HLr.out hkr HPr.out hc1 q)
                            have hl1 : L = 1 := by omega
                            clear HS9 HLr hL HLL e2 hl1
                            go_wp2_with fail
                            go_quiet (fail)
                            go_wp2_with fail
                            go_meet
                            exact ⟨r, b9, bm9, KH _⟩
                          · have KH : ∀ q, Hid (SW B0 g b9 bm9 w (wc.drewN q) k (.slice (some ⟨bm9, off9 + 2, none⟩) (L - 1) (c9 - 1)) r) := fun q => Lib.hid (HS9.out.tailw2 HLr.out hkr HPr.out q)
                            have hc2 : ¬ c9 = 1 := hc1
                            clear HS9 HLr hL HLL e2
                            go_wp2_with fail
                            go_quiet (fail)
                            go_wp2_with fail
                            go_meet
                            exact ⟨r, b9, bm9, KH _⟩
          case rest =>
            skip
            as_aux_lemma =>
              clear HN
              obtain ⟨ms2, b2, bm2, HN⟩ := hcut
              have hml : ms2.length ≤ 16 := by have := HN.out.2.2.2.2.2.2.1; omega
              have hsh := HN.out.2.1
              obtain ⟨A7, c7, rfl, _⟩ := hsh
              go_wp2_with fail
              refine (slist_any g b2 k ms2 _ HN.out.1 (by omega)).mono ?_
              rintro e x1 ⟨bl, vl, rfl, hbl, hvl, hbel⟩
              have hsh := hvl
              obtain ⟨A8, c8, rfl, _⟩ := hsh
              have HL := Lib.hid hvl
              have HN2 := Lib.hid (HN.out.below hbel)
              clear hvl hbel HN
              have HN := HN2
              clear HN2
              go_wp2_with fail
              refine (slen_any g b2 k ms2 _ HN.out.1).mono ?_
              rintro e x2 ⟨rfl, rfl⟩
              go_wp2_with fail
              go_loopw [19, 21] (fun v19 v21 wx => ∃ j : Nat, j ≤ ms2.length ∧ v21 = .int .i64 j ∧ v19 = .int .i64 (sumP (ms2.take j)) ∧ Hid (Below x1.heap.size x1 wx)) (fun _ v21 _ => ms2.length - (intOf v21).toNat)
              case atStart => exact ⟨0, by omega, rfl, rfl, Lib.hid (Below.refl _ _)⟩
              case round =>
                obtain ⟨j, hj, rfl, rfl, HW⟩ := hrel
                by_cases hjl : j < ms2.length
                · rcases va_open HL.out with ⟨_, rfl⟩ | ⟨off8, c8', e, p7, p8, p9, p10⟩
                  · simp at hjl
                  · rcases va_open HN.out.2.1 with ⟨_, rfl⟩ | ⟨off7, c7', e7, m7, m8, m9, m10⟩
                    · simp at hjl
                    · injection e with e1 e2 e3
                      subst e1; subst e3
                      injection e7 with e1 e2 e3
                      subst e1; subst e3
                      obtain ⟨p, hpj⟩ : ∃ p, ms2[j]? = some p := ⟨_, List.getElem?_eq_getElem hjl⟩
                      obtain ⟨q0, q1⟩ := p10 j p hpj
                      obtain ⟨n0, n1'⟩ := m10 j p hpj
                      have r0 := (HW.out.cell (p := ⟨bl, off8 + j * 2, none⟩) p7).trans q0
                      have r1 := (HW.out.cell (p := ⟨bl, off8 + j * 2 + 1, none⟩) p7).trans q1
                      have r2 := (HW.out.cell (p := ⟨bm2, off7 + j * 2, none⟩) m7).trans n0
                      have r3 := (HW.out.cell (p := ⟨bm2, off7 + j * 2 + 1, none⟩) m7).trans n1'
                      have hb := sumP_bd (ms2.take j) (fun x hx => by have := HN.out.2.2.2.2.2.2.2 x (List.mem_of_mem_take hx); omega)
                      have hpb := HN.out.2.2.2.2.2.2.2 p (List.mem_of_getElem? hpj)
                      have htl : (ms2.take j).length ≤ 16 := by rw [List.length_take]; omega
                      have hs := sumP_take ms2 j p hpj
                      obtain ⟨sm, hsd⟩ : ∃ s, sumP (ms2.take j) = s := ⟨_, rfl⟩
                      rw [hsd] at hs hb ⊢
                      have HS := Lib.hid hs
                      clear p10 m10 q0 q1 n0 n1' hs hsd
                      have i1 : (j : Int) < ms2.length := by omega
                      have HWn : ∀ q, Hid (Below x1.heap.size x1 (wr.drewN q)) := fun q => Lib.hid (below_drewN HW.out q)
                      go_wp2_with fail
                      go_quiet (fail)
                      go_wp2_with fail
                      go_roundw
                      case rel => exact ⟨j + 1, by omega, by go_num, by rw [HS.out], HWn _⟩
                      case measure => simp [intOf] <;> omega
                · obtain rfl : j = ms2.length := by omega
                  rw [List.take_length]
                  have hpp : ∀ p ∈ ms2, 0 ≤ p.2 ∧ p.2 ≤ 1000 := fun p hp => by have := HN.out.2.2.2.2.2.2.2 p hp; omega
                  have HPP := Lib.hid hpp
                  clear hpp
                  go_wp2_with fail
                  refine (spages_any g b2 k ms2 _ (HN.out.1.below HW.out) (by omega) HPP.out).mono ?_
                  rintro e x3 ⟨rfl, hb3⟩
                  have HN3 := Lib.hid ((HN.out.below HW.out).below hb3)
                  clear hb3 HW
                  go_wp2_with fail
                  go_roundw
                  case rel => exact ⟨i + 1, ms2, b2, bm2, by omega, by go_num, HN3⟩
                  case measure => simp [intOf] <;> omega
    · obtain rfl : i = n1 := by omega
      as_aux_lemma =>
        have HBW := Lib.hid HN.out.2.2.2.2.2.1
        have hB4 := HN.out.2.2.2.2.1.2.2.2
        have hstop : ¬ ((i : Int) < len1) ∨ ((i : Int) < len1 ∧ ¬ ((i : Int) < 40)) := by omega
        clear HN
        rcases hstop with h | ⟨h, h'⟩
        all_goals
          go_wp2_with fail
          refine (nsput 3 1 _).mono ?_
          rintro e x1 ⟨rfl, q1⟩
          go_wp2_with fail
          refine (ntake _).mono ?_
          rintro e x2 ⟨rfl, q2⟩
          go_wp2_with fail
          refine (nfirst _).mono ?_
          rintro e x3 ⟨rfl, q3⟩
          go_wp2_with fail
          refine (awakeShelf _).mono ?_
          rintro e x4 ⟨rfl, q4⟩
          have B24 := thn (alc (thn (alc q2 (.cells #[.int .i64 0, .int .i64 0] 50)) q3) (.cells #[.int .i64 0, .int .i64 0] 50)) q4
          have c24 := (B24.cell (p := ⟨x1.heap.size, 0, none⟩) (by simp)).trans (show _ = some (.int .i64 3) by simp)
          have HB9 : Hid (Below B0 w x4) := Lib.hid ((HBW.out.trans (q1.mono hB4)).trans (((alc0 x1 _).trans (B24.mono (by simp))).mono (Nat.le_trans hB4 q1.size)))
          clear q1 q2 q3 q4 B24
          go_wp2_with fail
          refine (nslen _).mono ?_
          rintro e x5 ⟨rfl, rfl⟩
          go_wp2_with fail
          refine (nspages _).mono ?_
          rintro e x5 ⟨rfl, rfl⟩
          go_wp2_with fail
          refine (nslist _).mono ?_
          rintro e x5 ⟨rfl, rfl⟩
          go_wp2
          go_ret
          exact ⟨rfl, by rw [hB0]; exact HB9.out⟩
end Go.Proofs.Ytjblgamngnnccaa
