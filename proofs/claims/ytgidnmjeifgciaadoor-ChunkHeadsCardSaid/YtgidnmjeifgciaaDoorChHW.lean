/- The walk of ChunkHeads. -/
import Derived.Test.YtgidnmjeifgciaaDoorChH
import Derived.Deep.QuietTactic
import Derived.BigQuiet
import Derived.Deep.RegionHeld3
import Derived.Deep.DeepCutAuto
namespace Go.Proofs.YtgidnmjeifgciaaDoor
set_option maxRecDepth 100000
open Go.RowKit Go.ChangeMaps Go.MapKept
set_option linter.unusedVariables false
set_option linter.unusedSimpArgs false

set_option maxHeartbeats 6400000 in
theorem walkChunkHeads (key a0 a1 s c t n e0 : Int) (w : World) (hk : 0 ≤ key ∧ key < 18446744073709551616) (htz : TzTab w) :
    Calls Tryd.prog 8 #[.int .u64 key, .agg #[.int .i64 a0, .int .i64 a1], .agg #[.int .i64 s, .int .i64 c, .int .i64 t, .int .i64 n, .int .i64 e0]] w fun e w' => e = .returned (.bool true) ∧ Below w.heap.size w w' := by
  have TT := Lib.hid htz; clear htz
  have HKY := Lib.hid hk
  clear hk
  have HAT0 := Lib.hid ((At2.new w a0 a1 81).keep (alc0 _ (.cells #[.int .i64 s, .int .i64 c, .int .i64 t, .int .i64 n, .int .i64 e0] 83)).size ((alc0 _ (.cells #[.int .i64 s, .int .i64 c, .int .i64 t, .int .i64 n, .int .i64 e0] 83)).block _ (by simp)))
  have HHD0 := Lib.hid (HeadAt.new2 w (.cells #[.int .i64 a0, .int .i64 a1] 81) s c t n e0 83)
  go_enter Tryd.func8, Tryd.ntmps8
  go_wp2_with fail
  refine (w21awake _ (TT.out.later (alc (alc0 _ _) _))).mono ?_
  rintro e v0 ⟨rfl, hb⟩
  have HB0 := Lib.hid (thn (alc (alc0 w _) _) hb)
  have HAT := Lib.hid (HAT0.out.keep hb.size (hb.block _ HAT0.out.1))
  have HHD := Lib.hid (HHD0.out.below hb)
  clear hb HAT0 HHD0
  go_wp2_with fail
  refine (mnew 4 4 _ (TT.out.later HB0.out) (by decide)).mono ?_
  rintro e v1 ⟨M, col, rfl, hm1, hb1⟩
  have HM1 := Lib.hid hm1
  have HB1 := Lib.hid hb1
  clear hm1 hb1
  have K1 := Lib.hid (mmap_free 0 3 HM1.out (by decide) (fun y _ _ => rfl))
  go_wp2_with fail
  refine K1.out.mono ?_
  rintro e v2 (⟨h, _⟩ | ⟨-, rfl, hs2, -⟩)
  · exfalso
    have : cntF (newS 4).pg 1024 = 0 := cntF_zero9 1024
    rw [this] at h
    revert h
    decide
  obtain ⟨col2, hm2, -, -, hb2⟩ := hs2
  have HB2 : Hid (Below v0.heap.size v0 v2) := Lib.hid (HB1.out.trans hb2)
  have HM2 : Hid (MEM v0.heap.size col2 M v2 s3) := Lib.hid hm2
  clear hb2 hm2 K1 HM1 HB1
  go_wp2_with fail
  with_reducible refine Calls.mono (msettag_ok 0 768 9 HM2.out (by decide) s3_open) ?_
  rintro e v3 ⟨rfl, col3, hm3, -, -, hb3⟩
  have HM3 : Hid (MEM v0.heap.size col3 M v3 s3t) := Lib.hid hm3
  have hb3' : Below v0.heap.size v0 v3 := HB2.out.trans hb3
  have HAT3 := Lib.hid (HAT.out.keep hb3'.size (hb3'.block _ HAT.out.1))
  have HHD3 := Lib.hid (HHD.out.below hb3')
  have HB3 := Lib.hid (thn HB0.out hb3')
  have HV0 : Hid (w.heap.size ≤ v0.heap.size) := Lib.hid HB0.out.size
  clear hb3 hm3 hb3' HAT HHD HM2 HB2
  obtain ⟨-, d0, d1, d2, d3, d4, -⟩ := HHD3.out
  go_wp2_with fail
  with_reducible refine Calls.mono (rhead_any s c t n e0 _) ?_
  rintro e v4 ⟨S, C, T, N, E, rfl, hok, hb4⟩
  have HM4 := Lib.hid (HM3.out.later hb4)
  have HAT4 := Lib.hid (HAT3.out.keep hb4.size (hb4.block _ HAT3.out.1))
  have HB4 := Lib.hid (thn HB3.out hb4)
  have HOK := Lib.hid hok
  have HBD : Hid (S < 256 ∧ C < 256 ∧ T < 256 ∧ N < 16777216 ∧ E < 16777216) := Lib.hid (by
    simp only [headOkB, Bool.and_eq_true, decide_eq_true_eq] at hok
    omega)
  clear hb4 hok d0 d1 d2 d3 d4 HM3 HAT3 HB3 HHD3
  go_upto_region 7 with (fail)
  have hbq := alc (alc0 v4 (.cells #[.pointer (some ⟨M, 0, none⟩), .int .u64 key] 85)) (.cells #[.int .i64 S, .int .i64 C, .int .i64 T, .int .i64 N, .int .i64 E] 83)
  have HM5 := Lib.hid (HM4.out.later hbq)
  have HAT5 := Lib.hid (HAT4.out.keep hbq.size (hbq.block _ HAT4.out.1))
  have HB5 := Lib.hid (thn HB4.out hbq)
  have HC5 := Lib.hid ((ChAt.new v4 M key 85).below (alc0 _ (.cells #[.int .i64 S, .int .i64 C, .int .i64 T, .int .i64 N, .int .i64 E] 83)))
  have HX5 := Lib.hid (HeadAt.new2 v4 (.cells #[.pointer (some ⟨M, 0, none⟩), .int .u64 key] 85) S C T N E 83)
  have HX0 : Hid (col3 v4.heap.size = 0 ∧ col3 (v4.heap.size + 1) = 0) := Lib.hid ⟨HM4.out.old (Nat.le_refl _), HM4.out.old (Nat.le_succ _)⟩
  clear hbq HM4 HAT4 HB4
  generalize hv5 : World.alloc (World.alloc v4 _) _ = v5 at *
  generalize hx9 : v4.heap.size + 1 = x9 at *
  generalize v4.heap.size = x8 at *
  clear hv5 hx9
  have e1 := and1023 a0
  have e2 := and63 a1
  obtain ⟨p, hp⟩ : ∃ p : Nat, a0 % 1024 = p := ⟨(a0 % 1024).toNat, by omega⟩
  obtain ⟨Q, hQ⟩ : ∃ Q : Int, a1 % 64 * 16 = Q := ⟨_, rfl⟩
  have HQ : Hid (0 ≤ Q ∧ Q % 16 = 0 ∧ Q < 1024) := Lib.hid (by omega)
  have hp1 : p < 1024 := by omega
  have wq : IntKind.i64.wrap (a1 % 64 * 16) = Q := by rw [hQ]; exact IntWalk.i64_in _ (by omega)
  have e3 : 0 ≤ a1 % 64 := by omega
  have e4 : a1 % 64 < 64 := by omega
  rw [hp] at e1
  clear hp
  generalize a1 % 64 = K at *
  have HQE := Lib.hid hQ
  clear hQ
  by_cases hA : p % 16 = 0 ∧ 16 ≤ p
  · obtain ⟨a, ha⟩ : ∃ a : Nat, p = a + 16 := ⟨p - 16, by omega⟩
    have e1n : bits .and .i64 a0 1023 = (a : Int) + 16 := by rw [e1]; omega
    clear e1
    have e1 := e1n
    clear e1n
    have HA16 : Hid (a % 16 = 0 ∧ a ≤ 1007) := Lib.hid (by omega)
    have g1 : ((a : Int) + 16) % 16 = 0 := by omega
    have g2 : ((a : Int) + 16).tmod 16 = 0 := by rw [Int.tmod_eq_emod_of_nonneg (by omega)]; exact g1
    have g3 : (a : Int) + 16 - 16 = (a : Int) := by omega
    have g4 : ¬ (a : Int) + 16 < 16 := by omega
    have g5 : IntKind.i64.wrap (a : Int) = (a : Int) := IntWalk.i64_in _ (by omega)
    have g6 : IntKind.i64.wrap ((a : Int) + 16 - 16) = (a : Int) := by rw [g3]; exact g5
    by_cases hB : 768 ≤ a
    · have HLA := Lib.hid hB
      have l7 : 768 ≤ (a : Int) := by omega
      have l8 : (a : Int) ≤ 1007 := by omega
      clear hA hB ha hp1
      obtain ⟨-, t0, t1⟩ := HAT5.out
      go_quiet (fail)
      have hbq : Below v5.heap.size v5 (v5.drewN nq) := below_drewN (Below.refl _ _) nq
      generalize v5.drewN nq = v6 at *
      have HC6 := Lib.hid (HC5.out.below hbq)
      have HX6 := Lib.hid (HX5.out.below hbq)
      have HM6 := Lib.hid (HM5.out.later hbq)
      have HB6 := Lib.hid (thn HB5.out hbq)
      have HN6 : Hid (x8 < v6.heap.size ∧ x9 < v6.heap.size) := Lib.hid ⟨HC6.out.1, HX6.out.1⟩
      clear hbq t0 t1 HAT5 HC5 HX5 HM5 HB5 e1 e2 wq
      obtain ⟨-, c0, c1⟩ := HC6.out
      obtain ⟨-, d0, d1, d2, d3, d4, -⟩ := HX6.out
      go_wp2_with fail
      with_reducible refine Calls.mono (chput_no 5 key a S C T N E HA16.out.1 (by have := HA16.out; omega) HOK.out HM6.out (pg3_ref s3t_pg HLA.out (by have := HA16.out; omega)) (by decide)) ?_
      rintro e v7 ⟨rfl, hb7⟩
      have HC7 := Lib.hid (HC6.out.below hb7)
      have HM7 := Lib.hid (HM6.out.later hb7)
      have HB7 := Lib.hid (thn HB6.out hb7)
      clear hb7 c0 c1 d0 d1 d2 d3 d4 HC6 HX6 HM6 HB6
      obtain ⟨-, c0, c1⟩ := HC7.out
      go_wp2_with fail
      with_reducible refine Calls.mono (chget_no key a HA16.out.1 (by have := HA16.out; omega) HM7.out 5 (pg3_ref s3t_pg HLA.out (by have := HA16.out; omega)) (by decide)) ?_
      rintro e v8 ⟨rfl, hb8⟩
      have HC8 := Lib.hid (HC7.out.below hb8)
      have HM8 := Lib.hid (HM7.out.later hb8)
      have HB8 := Lib.hid (thn HB7.out hb8)
      clear hb8 c0 c1 HC7 HM7 HB7
      go_upto_region 23 with (fail)
      have hbq := alc0 v8 (.cells #[.int .i64 0, .int .i64 0, .int .i64 0, .int .i64 0, .int .i64 0] 83)
      have HC9 := Lib.hid (HC8.out.below hbq)
      have HM9 := Lib.hid (HM8.out.later hbq)
      have HB9 := Lib.hid (thn HB8.out hbq)
      clear hbq HC8 HM8 HB8
      generalize hv9 : World.alloc v8 _ = v9 at *
      generalize v8.heap.size = x14 at *
      clear hv9
      obtain ⟨-, c0, c1⟩ := HC9.out
      go_wp2_with fail
      with_reducible refine Calls.mono (getq key ((a : Int) + 16) Q HKY.out.1 HKY.out.2 HQ.out.1 HQ.out.2.1 HQ.out.2.2 HM9.out s3t_pg (fun b hb hb2 => .inl ⟨by have := HLA.out; omega, fun i hi => rfl⟩)) ?_
      rintro e u1 ⟨A1, A2, A3, A4, A5, G, rfl, hG, hb⟩
      have HG := Lib.hid hG
      have HC10 := Lib.hid (HC9.out.below hb)
      have HB10 := Lib.hid (thn HB9.out hb)
      clear hb hG c0 c1
      go_upto_region 24 with (fail)
      have hbq := alc0 u1 (.cells #[.int .i64 A1, .int .i64 A2, .int .i64 A3, .int .i64 A4, .int .i64 A5] 83)
      have HC11 := Lib.hid (HC10.out.below hbq)
      have HB11 := Lib.hid (thn HB10.out hbq)
      clear hbq HC10 HB10 HC9 HB9
      generalize hu2 : World.alloc u1 _ = u2 at *
      generalize u1.heap.size = x18 at *
      clear hu2
      go_cut [133] (fun v wx => v = .bool false ∧ u2 = wx)
      case first =>
        have HQ0 := HQ.out
        by_cases hqp : Q = ((a : Int) + 16)
        · have f1 : (Q == ((a : Int) + 16)) = true := beq_iff_eq.2 hqp
          have f2 : (Q != ((a : Int) + 16)) = false := by rw [bne, f1]; rfl
          clear hqp HQ0
          go_wp2_with fail
          go_meet
          exact ⟨rfl, rfl⟩
        · have f1 : (Q == ((a : Int) + 16)) = false := beq_eq_false_iff_ne.2 hqp
          have f2 : (Q != ((a : Int) + 16)) = true := by rw [bne, f1]; rfl
          by_cases h16 : 16 ≤ Q
          · by_cases h78 : Q < 784
            · obtain rfl : G = 11 := HG.out hqp h16 h78
              have h1 : Q - 16 < 768 := by omega
              clear hqp HQ0
              go_wp2_with fail
              go_meet
              exact ⟨rfl, rfl⟩
            · have h1 : ¬ Q - 16 < 768 := by omega
              have h2 : Q < 1024 := HQ0.2.2
              clear hqp HQ0
              go_wp2_with fail
              go_meet
              exact ⟨rfl, rfl⟩
          · have h1 : 0 ≤ Q := HQ0.1
            clear hqp HQ0
            go_wp2_with fail
            go_meet
            exact ⟨rfl, rfl⟩
      case rest =>
        obtain ⟨rfl, rfl⟩ := hcut
        obtain ⟨-, c0, c1⟩ := HC11.out
        go_wp2_with fail
        with_reducible refine Calls.mono (chput_in key 32 9 0 0 0 0 (by decide)) ?_
        rintro e u3 ⟨rfl, hb⟩
        have HB12 := Lib.hid (thn HB11.out hb)
        clear hb c0 c1
        go_wp2_with fail
        go_ret
        exact ⟨rfl, HB12.out⟩
    · have HLA : Hid (a < 768) := Lib.hid (by omega)
      have l7 : ¬ 768 ≤ (a : Int) := by omega
      have l8 : (a : Int) < 768 := by omega
      clear hA hB ha hp1
      obtain ⟨-, t0, t1⟩ := HAT5.out
      go_quiet (fail)
      have hbq : Below v5.heap.size v5 (v5.drewN nq) := below_drewN (Below.refl _ _) nq
      generalize v5.drewN nq = v6 at *
      have HC6 := Lib.hid (HC5.out.below hbq)
      have HX6 := Lib.hid (HX5.out.below hbq)
      have HM6 := Lib.hid (HM5.out.later hbq)
      have HB6 := Lib.hid (thn HB5.out hbq)
      have HN6 : Hid (x8 < v6.heap.size ∧ x9 < v6.heap.size) := Lib.hid ⟨HC6.out.1, HX6.out.1⟩
      clear hbq t0 t1 HAT5 HC5 HX5 HM5 HB5 e1 e2 wq
      obtain ⟨-, c0, c1⟩ := HC6.out
      obtain ⟨-, d0, d1, d2, d3, d4, -⟩ := HX6.out
      go_wp2_with fail
      with_reducible refine Calls.mono (chput_ok key a S C T N E HA16.out.1 (by have := HA16.out; omega) HOK.out HBD.out.1 HBD.out.2.1 HBD.out.2.2.1 HBD.out.2.2.2.1 HBD.out.2.2.2.2 HKY.out.1 HKY.out.2 HM6.out (pg3_open s3t_pg (by omega) (by decide) (by have := HLA.out; omega))) ?_
      rintro e v7 ⟨rfl, col7, hm7, hc7, ho7, hb7⟩
      have HC7 := Lib.hid (HC6.out.keep hb7.size (ho7 _ HC6.out.1 (by rw [HX0.out.1]; decide)))
      have HX7 := Lib.hid (HX6.out.keep hb7.size (ho7 _ HX6.out.1 (by rw [HX0.out.2]; decide)))
      have HM7 : Hid (MEM v0.heap.size col7 M v7 (putS s3t a (headF key ((a : Int) + 16) S C T N E))) := Lib.hid hm7
      have HB7 : Hid (Below w.heap.size w v7) := Lib.hid (HB6.out.trans (hb7.mono HV0.out))
      clear hm7 hc7 ho7 hb7 c0 c1 d0 d1 d2 d3 d4 HC6 HX6 HM6 HB6
      obtain ⟨-, c0, c1⟩ := HC7.out
      have HHD : Hid (∀ i, i < 16 → (putS s3t a (headF key ((a : Int) + 16) S C T N E)).c (a + i) = headF key ((a : Int) + 16) S C T N E i) := Lib.hid (fun i hi => by
        show (if a ≤ a + i ∧ a + i < a + 16 then headF key ((a : Int) + 16) S C T N E (a + i - a) else _) = _
        rw [if_pos (by omega), Nat.add_sub_cancel_left])
      go_wp2_with fail
      with_reducible refine Calls.mono (chget_yes key a HA16.out.1 (by have := HA16.out; omega) HM7.out (headF key ((a : Int) + 16) S C T N E) (pg3_open (put_pg _ _) (by omega) (by decide) (by have := HLA.out; omega)) HHD.out (headF_lt key _ N E HBD.out.1 HBD.out.2.1 HBD.out.2.2.1) HKY.out.1 HKY.out.2 S C T N E (readOk_F key ((a : Int) + 16) S C T N E HOK.out HBD.out.2.2.2.1 HBD.out.2.2.2.2)) ?_
      rintro e v8 ⟨rfl, hb8⟩
      have HC8 := Lib.hid (HC7.out.below hb8)
      have HX8 := Lib.hid (HX7.out.below hb8)
      have HM8 := Lib.hid (HM7.out.later hb8)
      have HB8 := Lib.hid (thn HB7.out hb8)
      clear hb8 c0 c1 HC7 HX7 HM7 HB7
      go_upto_region 17 with (fail)
      have hbq := alc0 v8 (.cells #[.int .i64 S, .int .i64 C, .int .i64 T, .int .i64 N, .int .i64 E] 83)
      have HC9 := Lib.hid (HC8.out.below hbq)
      have HX9 := Lib.hid (HX8.out.below hbq)
      have HY9 := Lib.hid (HeadAt.new v8 S C T N E 83)
      have HM9 := Lib.hid (HM8.out.later hbq)
      have HB9 := Lib.hid (thn HB8.out hbq)
      clear hbq HC8 HX8 HM8 HB8
      generalize hv9 : World.alloc v8 _ = v9 at *
      generalize v8.heap.size = x14 at *
      clear hv9
      go_wp2_with fail
      with_reducible refine Calls.mono (mread_ok a 16 HM9.out (pg3_open (put_pg _ _) (by omega) (by decide) (by have := HLA.out; omega))) ?_
      rintro e v9' ⟨DD, rfl, hD, hPG, hb⟩
      have HRW : Hid (RowU DD 16 v9' (headF key ((a : Int) + 16) S C T N E)) := Lib.hid ⟨hPG.1, fun i hi => ⟨(hPG.2.1 i hi).trans (congrArg (fun z : Nat => some (Value.int .u8 (z : Int))) (HHD.out i hi)), hPG.2.2 i⟩⟩
      have HC9n := Lib.hid (HC9.out.below hb)
      have HX9n := Lib.hid (HX9.out.below hb)
      have HY9n := Lib.hid (HY9.out.below hb)
      have HM9n := Lib.hid (HM9.out.later hb)
      have HB9n := Lib.hid (thn HB9.out hb)
      clear hb hD hPG HC9 HX9 HY9 HM9 HB9 HHD
      have HC9 := HC9n
      have HX9 := HX9n
      have HY9 := HY9n
      have HM9 := HM9n
      have HB9 := HB9n
      clear HC9n HX9n HY9n HM9n HB9n
      go_upto_region 19 with (fail)
      by_cases hnine : a + 16 < 768
      · have HL9 := Lib.hid hnine
        have l9 : (a : Int) + 16 < 768 := by omega
        clear hnine
        have HTAKE := Lib.hid (fun (w' : World) (h : HeadAt x14 w' S C T N E ∧ HeadAt x9 w' S C T N E ∧ RowU DD 16 w' (headF key ((a : Int) + 16) S C T N E)) => And.intro h.1.2 (And.intro h.2.1.2 (conv_row h.2.2 16)))
        refine wp_region_held_drew (S := fun w' => HeadAt x14 w' S C T N E ∧ HeadAt x9 w' S C T N E ∧ RowU DD 16 w' (headF key ((a : Int) + 16) S C T N E)) (by kernel_rfl) ?_ (fun hHeld => ?_)
        · exact ⟨HY9.out.below (Below.refl _ _).drew, HX9.out.below (Below.refl _ _).drew, HRW.out.below (Below.refl _ _).drew⟩
        refine wpAnyH_take (i := 0) (v := ?_) rfl (by kernel_rfl) (by kernel_rfl) (by kernel_rfl) (fun _ _ _ h => h) (Or.inl ⟨by kernel_rfl, ?_⟩) (by assumption) ?_
        rotate_left
        · (intro w hSw; (try dsimp only at hSw); (try have hTk := Hid.out HTAKE _ hSw); go_simp)
          try (with_reducible rfl)
        rotate_left
        try simp (maxSteps := 4000000) only [Act.put, List.setIfInBounds_toArray, List.set_cons_zero, List.set_cons_succ, List.getElem_toArray, List.getElem_cons_zero, List.getElem_cons_succ]
        refine wpAnyH_take (i := 1) (v := ?_) rfl (by kernel_rfl) (by kernel_rfl) (by kernel_rfl) (fun _ _ _ h => h) (Or.inl ⟨by kernel_rfl, ?_⟩) (by assumption) ?_
        rotate_left
        · (intro w hSw; (try dsimp only at hSw); (try have hTk := Hid.out HTAKE _ hSw); go_simp)
          try (with_reducible rfl)
        rotate_left
        try simp (maxSteps := 4000000) only [Act.put, List.setIfInBounds_toArray, List.set_cons_zero, List.set_cons_succ, List.getElem_toArray, List.getElem_cons_zero, List.getElem_cons_succ]
        refine wpAnyH_take (i := 2) (v := ?_) rfl (by kernel_rfl) (by kernel_rfl) (by kernel_rfl) (fun _ _ _ h => h) (Or.inl ⟨by kernel_rfl, ?_⟩) (by assumption) ?_
        rotate_left
        · (intro w hSw; (try dsimp only at hSw); (try have hTk := Hid.out HTAKE _ hSw); go_simp)
          try (with_reducible rfl)
        rotate_left
        try simp (maxSteps := 4000000) only [Act.put, List.setIfInBounds_toArray, List.set_cons_zero, List.set_cons_succ, List.getElem_toArray, List.getElem_cons_zero, List.getElem_cons_succ]
        refine wpAnyH_take (i := 3) (v := ?_) rfl (by kernel_rfl) (by kernel_rfl) (by kernel_rfl) (fun _ _ _ h => h) (Or.inl ⟨by kernel_rfl, ?_⟩) (by assumption) ?_
        rotate_left
        · (intro w hSw; (try dsimp only at hSw); (try have hTk := Hid.out HTAKE _ hSw); go_simp)
          try (with_reducible rfl)
        rotate_left
        try simp (maxSteps := 4000000) only [Act.put, List.setIfInBounds_toArray, List.set_cons_zero, List.set_cons_succ, List.getElem_toArray, List.getElem_cons_zero, List.getElem_cons_succ]
        refine wpAnyH_take (i := 4) (v := ?_) rfl (by kernel_rfl) (by kernel_rfl) (by kernel_rfl) (fun _ _ _ h => h) (Or.inl ⟨by kernel_rfl, ?_⟩) (by assumption) ?_
        rotate_left
        · (intro w hSw; (try dsimp only at hSw); (try have hTk := Hid.out HTAKE _ hSw); go_simp)
          try (with_reducible rfl)
        rotate_left
        try simp (maxSteps := 4000000) only [Act.put, List.setIfInBounds_toArray, List.set_cons_zero, List.set_cons_succ, List.getElem_toArray, List.getElem_cons_zero, List.getElem_cons_succ]
        refine wpAnyH_take (i := 5) (v := ?_) rfl (by kernel_rfl) (by kernel_rfl) (by kernel_rfl) (fun _ _ _ h => h) (Or.inl ⟨by kernel_rfl, ?_⟩) (by assumption) ?_
        rotate_left
        · (intro w hSw; (try dsimp only at hSw); (try have hTk := Hid.out HTAKE _ hSw); go_simp)
          try (with_reducible rfl)
        rotate_left
        try simp (maxSteps := 4000000) only [Act.put, List.setIfInBounds_toArray, List.set_cons_zero, List.set_cons_succ, List.getElem_toArray, List.getElem_cons_zero, List.getElem_cons_succ]
        refine wpAnyH_take (i := 6) (v := ?_) rfl (by kernel_rfl) (by kernel_rfl) (by kernel_rfl) (fun _ _ _ h => h) (Or.inl ⟨by kernel_rfl, ?_⟩) (by assumption) ?_
        rotate_left
        · (intro w hSw; (try dsimp only at hSw); (try have hTk := Hid.out HTAKE _ hSw); go_simp)
          try (with_reducible rfl)
        rotate_left
        try simp (maxSteps := 4000000) only [Act.put, List.setIfInBounds_toArray, List.set_cons_zero, List.set_cons_succ, List.getElem_toArray, List.getElem_cons_zero, List.getElem_cons_succ]
        refine wpAnyH_take (i := 7) (v := ?_) rfl (by kernel_rfl) (by kernel_rfl) (by kernel_rfl) (fun _ _ _ h => h) (Or.inl ⟨by kernel_rfl, ?_⟩) (by assumption) ?_
        rotate_left
        · (intro w hSw; (try dsimp only at hSw); (try have hTk := Hid.out HTAKE _ hSw); go_simp)
          try (with_reducible rfl)
        rotate_left
        try simp (maxSteps := 4000000) only [Act.put, List.setIfInBounds_toArray, List.set_cons_zero, List.set_cons_succ, List.getElem_toArray, List.getElem_cons_zero, List.getElem_cons_succ]
        refine wpAnyH_take (i := 8) (v := ?_) rfl (by kernel_rfl) (by kernel_rfl) (by kernel_rfl) (fun _ _ _ h => h) (Or.inl ⟨by kernel_rfl, ?_⟩) (by assumption) ?_
        rotate_left
        · (intro w hSw; (try dsimp only at hSw); (try have hTk := Hid.out HTAKE _ hSw); go_simp)
          try (with_reducible rfl)
        rotate_left
        try simp (maxSteps := 4000000) only [Act.put, List.setIfInBounds_toArray, List.set_cons_zero, List.set_cons_succ, List.getElem_toArray, List.getElem_cons_zero, List.getElem_cons_succ]
        refine wpAnyH_take (i := 9) (v := ?_) rfl (by kernel_rfl) (by kernel_rfl) (by kernel_rfl) (fun _ _ _ h => h) (Or.inl ⟨by kernel_rfl, ?_⟩) (by assumption) ?_
        rotate_left
        · (intro w hSw; (try dsimp only at hSw); (try have hTk := Hid.out HTAKE _ hSw); go_simp)
          try (with_reducible rfl)
        rotate_left
        try simp (maxSteps := 4000000) only [Act.put, List.setIfInBounds_toArray, List.set_cons_zero, List.set_cons_succ, List.getElem_toArray, List.getElem_cons_zero, List.getElem_cons_succ]
        refine wpAnyH_take (i := 10) (v := ?_) rfl (by kernel_rfl) (by kernel_rfl) (by kernel_rfl) (fun _ _ _ h => h) (Or.inl ⟨by kernel_rfl, ?_⟩) (by assumption) ?_
        rotate_left
        · (intro w hSw; (try dsimp only at hSw); (try have hTk := Hid.out HTAKE _ hSw); go_simp)
          try (with_reducible rfl)
        rotate_left
        try simp (maxSteps := 4000000) only [Act.put, List.setIfInBounds_toArray, List.set_cons_zero, List.set_cons_succ, List.getElem_toArray, List.getElem_cons_zero, List.getElem_cons_succ]
        refine wpAnyH_take (i := 11) (v := ?_) rfl (by kernel_rfl) (by kernel_rfl) (by kernel_rfl) (fun _ _ _ h => h) (Or.inl ⟨by kernel_rfl, ?_⟩) (by assumption) ?_
        rotate_left
        · (intro w hSw; (try dsimp only at hSw); (try have hTk := Hid.out HTAKE _ hSw); go_simp)
          try (with_reducible rfl)
        rotate_left
        try simp (maxSteps := 4000000) only [Act.put, List.setIfInBounds_toArray, List.set_cons_zero, List.set_cons_succ, List.getElem_toArray, List.getElem_cons_zero, List.getElem_cons_succ]
        refine wpAnyH_take (i := 12) (v := ?_) rfl (by kernel_rfl) (by kernel_rfl) (by kernel_rfl) (fun _ _ _ h => h) (Or.inl ⟨by kernel_rfl, ?_⟩) (by assumption) ?_
        rotate_left
        · (intro w hSw; (try dsimp only at hSw); (try have hTk := Hid.out HTAKE _ hSw); go_simp)
          try (with_reducible rfl)
        rotate_left
        try simp (maxSteps := 4000000) only [Act.put, List.setIfInBounds_toArray, List.set_cons_zero, List.set_cons_succ, List.getElem_toArray, List.getElem_cons_zero, List.getElem_cons_succ]
        refine wpAnyH_ready (rs := [13]) (by kernel_rfl) (by simp) ?_
        refine AllReadyH.cons rfl (fun K2 hK2 => ?_) AllReadyH.nil
        go_simp
        with_reducible refine Calls.mono (rbytes key ((a : Int) + 16) S C T N E _ HBD.out.1 HBD.out.2.1 HBD.out.2.2.1 HBD.out.2.2.2.1 HBD.out.2.2.2.2 HKY.out.1 HKY.out.2) ?_
        rintro e w1 ⟨gg, cc, rfl, hrw, hb⟩
        have hb' : Below v9'.heap.size v9' w1 := thn (Below.refl _ _).drew hb
        have hcv := conv_row hrw cc
        have HM19 := Lib.hid (HM9.out.later hb')
        have HC19 := Lib.hid (HC9.out.below hb')
        have HB19 := Lib.hid (thn HB9.out hb')
        clear hb'
        refine hK2.out _ _ (⟨hHeld.1.below hb, hHeld.2.1.below hb, hHeld.2.2.below hb⟩) (fun hHeld2 => ?_)
        clear hK2 K2 hHeld
        have hHeld := hHeld2
        clear hHeld2
        try simp (maxSteps := 4000000) only [Act.put, List.setIfInBounds_toArray, List.set_cons_zero, List.set_cons_succ]
        clear hb
        refine wpAnyH_ready (rs := [14]) (by kernel_rfl) (by simp) ?_
        refine AllReadyH.cons rfl (fun K2 hK2 => ?_) AllReadyH.nil
        go_simp
        refine hK2.out _ _ (hHeld) (fun hHeld2 => ?_)
        clear hK2 K2 hHeld
        have hHeld := hHeld2
        clear hHeld2
        try simp (maxSteps := 4000000) only [Act.put, List.setIfInBounds_toArray, List.set_cons_zero, List.set_cons_succ]
        refine wpAnyH_take (i := 15) (v := ?_) rfl (by kernel_rfl) (by kernel_rfl) (by kernel_rfl) (fun _ _ _ h => h) (Or.inl ⟨by kernel_rfl, ?_⟩) (by assumption) ?_
        rotate_left
        · (intro w hSw; (try dsimp only at hSw); (try have hTk := Hid.out HTAKE _ hSw); go_simp)
          try (with_reducible rfl)
        rotate_left
        try simp (maxSteps := 4000000) only [Act.put, List.setIfInBounds_toArray, List.set_cons_zero, List.set_cons_succ, List.getElem_toArray, List.getElem_cons_zero, List.getElem_cons_succ]
        refine wpAnyH_take (i := 16) (v := ?_) rfl (by kernel_rfl) (by kernel_rfl) (by kernel_rfl) (fun _ _ _ h => h) (Or.inl ⟨by kernel_rfl, ?_⟩) (by assumption) ?_
        rotate_left
        · (intro w hSw; (try dsimp only at hSw); (try have hTk := Hid.out HTAKE _ hSw); go_simp)
          try (with_reducible rfl)
        rotate_left
        try simp (maxSteps := 4000000) only [Act.put, List.setIfInBounds_toArray, List.set_cons_zero, List.set_cons_succ, List.getElem_toArray, List.getElem_cons_zero, List.getElem_cons_succ]
        refine wpAnyH_take (i := 17) (v := ?_) rfl (by kernel_rfl) (by kernel_rfl) (by kernel_rfl) (fun _ _ _ h => h) (Or.inl ⟨by kernel_rfl, ?_⟩) (by assumption) ?_
        rotate_left
        · (intro w hSw; (try dsimp only at hSw); (try have hTk := Hid.out HTAKE _ hSw); go_simp)
          try (with_reducible rfl)
        rotate_left
        try simp (maxSteps := 4000000) only [Act.put, List.setIfInBounds_toArray, List.set_cons_zero, List.set_cons_succ, List.getElem_toArray, List.getElem_cons_zero, List.getElem_cons_succ]
        refine wpAnyH_take (i := 18) (v := ?_) rfl (by kernel_rfl) (by kernel_rfl) (by kernel_rfl) (fun _ _ _ h => h) (Or.inl ⟨by kernel_rfl, ?_⟩) (by assumption) ?_
        rotate_left
        · (intro w hSw; (try dsimp only at hSw); (try have hTk := Hid.out HTAKE _ hSw); go_simp)
          try (with_reducible rfl)
        rotate_left
        try simp (maxSteps := 4000000) only [Act.put, List.setIfInBounds_toArray, List.set_cons_zero, List.set_cons_succ, List.getElem_toArray, List.getElem_cons_zero, List.getElem_cons_succ]
        refine wpAnyH_take (i := 19) (v := ?_) rfl (by kernel_rfl) (by kernel_rfl) (by kernel_rfl) (fun _ _ _ h => h) (Or.inl ⟨by kernel_rfl, ?_⟩) (by assumption) ?_
        rotate_left
        · (intro w hSw; (try dsimp only at hSw); (try have hTk := Hid.out HTAKE _ hSw); go_simp)
          try (with_reducible rfl)
        rotate_left
        try simp (maxSteps := 4000000) only [Act.put, List.setIfInBounds_toArray, List.set_cons_zero, List.set_cons_succ, List.getElem_toArray, List.getElem_cons_zero, List.getElem_cons_succ]
        refine wpAnyH_take (i := 20) (v := ?_) rfl (by kernel_rfl) (by kernel_rfl) (by kernel_rfl) (fun _ _ _ h => h) (Or.inl ⟨by kernel_rfl, ?_⟩) (by assumption) ?_
        rotate_left
        · (intro w hSw; (try dsimp only at hSw); (try have hTk := Hid.out HTAKE _ hSw); go_simp)
          try (with_reducible rfl)
        rotate_left
        try simp (maxSteps := 4000000) only [Act.put, List.setIfInBounds_toArray, List.set_cons_zero, List.set_cons_succ, List.getElem_toArray, List.getElem_cons_zero, List.getElem_cons_succ]
        refine wpAnyH_ready (rs := [21]) (by kernel_rfl) (by simp) ?_
        refine AllReadyH.cons rfl (fun K2 hK2 => ?_) AllReadyH.nil
        go_simp
        with_reducible refine Calls.mono (mtag ((0 : Nat) : Int) (a : Int) HM19.out (put_tag0 a _ HA16.out.1 HLA.out)) ?_
        rintro e w2 ⟨rfl, hb⟩
        have HM20 := Lib.hid (HM19.out.later hb)
        have HC20 := Lib.hid (HC19.out.below hb)
        have HB20 := Lib.hid (thn HB19.out hb)
        refine hK2.out _ _ (⟨hHeld.1.below hb, hHeld.2.1.below hb, hHeld.2.2.below hb⟩) (fun hHeld2 => ?_)
        clear hK2 K2 hHeld
        have hHeld := hHeld2
        clear hHeld2
        try simp (maxSteps := 4000000) only [Act.put, List.setIfInBounds_toArray, List.set_cons_zero, List.set_cons_succ]
        clear hb HM19 HC19 HB19
        refine wpAnyH_take (i := 22) (v := ?_) rfl (by kernel_rfl) (by kernel_rfl) (by kernel_rfl) (fun _ _ _ h => h) (Or.inl ⟨by kernel_rfl, ?_⟩) (by assumption) ?_
        rotate_left
        · (intro w hSw; (try dsimp only at hSw); (try have hTk := Hid.out HTAKE _ hSw); go_simp)
          try (with_reducible rfl)
        rotate_left
        try simp (maxSteps := 4000000) only [Act.put, List.setIfInBounds_toArray, List.set_cons_zero, List.set_cons_succ, List.getElem_toArray, List.getElem_cons_zero, List.getElem_cons_succ]
        refine wpAnyH_take (i := 23) (v := ?_) rfl (by kernel_rfl) (by kernel_rfl) (by kernel_rfl) (fun _ _ _ h => h) (Or.inl ⟨by kernel_rfl, ?_⟩) (by assumption) ?_
        rotate_left
        · (intro w hSw; (try dsimp only at hSw); (try have hTk := Hid.out HTAKE _ hSw); go_simp)
          try (with_reducible rfl)
        rotate_left
        try simp (maxSteps := 4000000) only [Act.put, List.setIfInBounds_toArray, List.set_cons_zero, List.set_cons_succ, List.getElem_toArray, List.getElem_cons_zero, List.getElem_cons_succ]
        refine wpAnyH_take (i := 24) (v := ?_) rfl (by kernel_rfl) (by kernel_rfl) (by kernel_rfl) (fun _ _ _ h => h) (Or.inl ⟨by kernel_rfl, ?_⟩) (by assumption) ?_
        rotate_left
        · (intro w hSw; (try dsimp only at hSw); (try have hTk := Hid.out HTAKE _ hSw); go_simp)
          try (with_reducible rfl)
        rotate_left
        try simp (maxSteps := 4000000) only [Act.put, List.setIfInBounds_toArray, List.set_cons_zero, List.set_cons_succ, List.getElem_toArray, List.getElem_cons_zero, List.getElem_cons_succ]
        refine wpAnyH_take (i := 25) (v := ?_) rfl (by kernel_rfl) (by kernel_rfl) (by kernel_rfl) (fun _ _ _ h => h) (Or.inl ⟨by kernel_rfl, ?_⟩) (by assumption) ?_
        rotate_left
        · (intro w hSw; (try dsimp only at hSw); (try have hTk := Hid.out HTAKE _ hSw); go_simp)
          try (with_reducible rfl)
        rotate_left
        try simp (maxSteps := 4000000) only [Act.put, List.setIfInBounds_toArray, List.set_cons_zero, List.set_cons_succ, List.getElem_toArray, List.getElem_cons_zero, List.getElem_cons_succ]
        refine wpAnyH_take (i := 26) (v := ?_) rfl (by kernel_rfl) (by kernel_rfl) (by kernel_rfl) (fun _ _ _ h => h) (Or.inl ⟨by kernel_rfl, ?_⟩) (by assumption) ?_
        rotate_left
        · (intro w hSw; (try dsimp only at hSw); (try have hTk := Hid.out HTAKE _ hSw); go_simp)
          try (with_reducible rfl)
        rotate_left
        try simp (maxSteps := 4000000) only [Act.put, List.setIfInBounds_toArray, List.set_cons_zero, List.set_cons_succ, List.getElem_toArray, List.getElem_cons_zero, List.getElem_cons_succ]
        refine wpAnyH_ready (rs := [27]) (by kernel_rfl) (by simp) ?_
        refine AllReadyH.cons rfl (fun K2 hK2 => ?_) AllReadyH.nil
        go_simp
        with_reducible refine Calls.mono (mtag ((9 : Nat) : Int) ((a : Int) + 16) HM20.out (put_tag9 a _ HA16.out.1 (by have := HL9.out; omega))) ?_
        rintro e w3 ⟨rfl, hb⟩
        have HM21 := Lib.hid (HM20.out.later hb)
        have HC21 := Lib.hid (HC20.out.below hb)
        have HB21 := Lib.hid (thn HB20.out hb)
        refine hK2.out _ _ (⟨hHeld.1.below hb, hHeld.2.1.below hb, hHeld.2.2.below hb⟩) (fun hHeld2 => ?_)
        clear hK2 K2 hHeld
        have hHeld := hHeld2
        clear hHeld2
        try simp (maxSteps := 4000000) only [Act.put, List.setIfInBounds_toArray, List.set_cons_zero, List.set_cons_succ]
        clear hb HM20 HC20 HB20 HM9 HC9 HB9
        refine wpAnyH_take (i := 28) (v := ?_) rfl (by kernel_rfl) (by kernel_rfl) (by kernel_rfl) (fun _ _ _ h => h) (Or.inl ⟨by kernel_rfl, ?_⟩) (by assumption) ?_
        rotate_left
        · (intro w hSw; (try dsimp only at hSw); (try have hTk := Hid.out HTAKE _ hSw); go_simp)
          try (with_reducible rfl)
        rotate_left
        try simp (maxSteps := 4000000) only [Act.put, List.setIfInBounds_toArray, List.set_cons_zero, List.set_cons_succ, List.getElem_toArray, List.getElem_cons_zero, List.getElem_cons_succ]
        refine wpAnyH_take (i := 29) (v := ?_) rfl (by kernel_rfl) (by kernel_rfl) (by kernel_rfl) (fun _ _ _ h => h) (Or.inl ⟨by kernel_rfl, ?_⟩) (by assumption) ?_
        rotate_left
        · (intro w hSw; (try dsimp only at hSw); (try have hTk := Hid.out HTAKE _ hSw); go_simp)
          try (with_reducible rfl)
        rotate_left
        try simp (maxSteps := 4000000) only [Act.put, List.setIfInBounds_toArray, List.set_cons_zero, List.set_cons_succ, List.getElem_toArray, List.getElem_cons_zero, List.getElem_cons_succ]
        refine wpAnyH_take (i := 30) (v := undef) rfl (by kernel_rfl) (by kernel_rfl) (by kernel_rfl) (fun _ _ _ h => h) (Or.inr ⟨by kernel_rfl, rfl⟩) (by assumption) ?_
        try simp (maxSteps := 4000000) only [Act.put, List.setIfInBounds_toArray, List.set_cons_zero, List.set_cons_succ, List.getElem_toArray, List.getElem_cons_zero, List.getElem_cons_succ]
        refine wpAnyH_take (i := 31) (v := undef) rfl (by kernel_rfl) (by kernel_rfl) (by kernel_rfl) (fun _ _ _ h => h) (Or.inr ⟨by kernel_rfl, rfl⟩) (by assumption) ?_
        try simp (maxSteps := 4000000) only [Act.put, List.setIfInBounds_toArray, List.set_cons_zero, List.set_cons_succ, List.getElem_toArray, List.getElem_cons_zero, List.getElem_cons_succ]
        refine wpAnyH_take (i := 32) (v := ?_) rfl (by kernel_rfl) (by kernel_rfl) (by kernel_rfl) (fun _ _ _ h => h) (Or.inl ⟨by kernel_rfl, ?_⟩) (by assumption) ?_
        rotate_left
        · (intro w hSw; (try dsimp only at hSw); (try have hTk := Hid.out HTAKE _ hSw); go_simp)
          try (with_reducible rfl)
        rotate_left
        try simp (maxSteps := 4000000) only [Act.put, List.setIfInBounds_toArray, List.set_cons_zero, List.set_cons_succ, List.getElem_toArray, List.getElem_cons_zero, List.getElem_cons_succ]
        refine wpAnyH_take (i := 33) (v := ?_) rfl (by kernel_rfl) (by kernel_rfl) (by kernel_rfl) (fun _ _ _ h => h) (Or.inl ⟨by kernel_rfl, ?_⟩) (by assumption) ?_
        rotate_left
        · (intro w hSw; (try dsimp only at hSw); (try have hTk := Hid.out HTAKE _ hSw); go_simp)
          try (with_reducible rfl)
        rotate_left
        try simp (maxSteps := 4000000) only [Act.put, List.setIfInBounds_toArray, List.set_cons_zero, List.set_cons_succ, List.getElem_toArray, List.getElem_cons_zero, List.getElem_cons_succ]
        refine wpAnyH_done (by kernel_rfl) ?_ _
        clear hHeld HTAKE
        have HM9 := HM21
        have HC9 := HC21
        have HB9 := HB21
        go_upto_region 23 with (fail)
        obtain ⟨-, c0, c1⟩ := HC9.out
        go_wp2_with fail
        with_reducible refine Calls.mono (getq key ((a : Int) + 16) Q HKY.out.1 HKY.out.2 HQ.out.1 HQ.out.2.1 HQ.out.2.2 HM9.out (put_pg _ _) (fun b hb hb2 => if h : b = a then .inr ⟨by omega, h ▸ put_hd key a S C T N E HOK.out HBD.out.1 HBD.out.2.1 HBD.out.2.2.1 HBD.out.2.2.2.1 HBD.out.2.2.2.2⟩ else .inl ⟨by omega, put_far key a b _ HA16.out.1 hb h⟩)) ?_
        rintro e u1 ⟨A1, A2, A3, A4, A5, G, rfl, hG, hb⟩
        have HG := Lib.hid hG
        have HC10 := Lib.hid (HC9.out.below hb)
        have HB10 := Lib.hid (thn HB9.out hb)
        clear hb hG c0 c1
        go_upto_region 24 with (fail)
        have hbq := alc0 u1 (.cells #[.int .i64 A1, .int .i64 A2, .int .i64 A3, .int .i64 A4, .int .i64 A5] 83)
        have HC11 := Lib.hid (HC10.out.below hbq)
        have HB11 := Lib.hid (thn HB10.out hbq)
        clear hbq HC10 HB10 HC9 HB9
        generalize hu2 : World.alloc u1 _ = u2 at *
        generalize u1.heap.size = x18 at *
        clear hu2
        go_cut [133] (fun v wx => v = .bool false ∧ u2 = wx)
        case first =>
          have HQ0 := HQ.out
          by_cases hqp : Q = ((a : Int) + 16)
          · have f1 : (Q == ((a : Int) + 16)) = true := beq_iff_eq.2 hqp
            have f2 : (Q != ((a : Int) + 16)) = false := by rw [bne, f1]; rfl
            clear hqp HQ0
            go_wp2_with fail
            go_meet
            exact ⟨rfl, rfl⟩
          · have f1 : (Q == ((a : Int) + 16)) = false := beq_eq_false_iff_ne.2 hqp
            have f2 : (Q != ((a : Int) + 16)) = true := by rw [bne, f1]; rfl
            by_cases h16 : 16 ≤ Q
            · by_cases h78 : Q < 784
              · obtain rfl : G = 11 := HG.out hqp h16 h78
                have h1 : Q - 16 < 768 := by omega
                clear hqp HQ0
                go_wp2_with fail
                go_meet
                exact ⟨rfl, rfl⟩
              · have h1 : ¬ Q - 16 < 768 := by omega
                have h2 : Q < 1024 := HQ0.2.2
                clear hqp HQ0
                go_wp2_with fail
                go_meet
                exact ⟨rfl, rfl⟩
            · have h1 : 0 ≤ Q := HQ0.1
              clear hqp HQ0
              go_wp2_with fail
              go_meet
              exact ⟨rfl, rfl⟩
        case rest =>
          obtain ⟨rfl, rfl⟩ := hcut
          obtain ⟨-, c0, c1⟩ := HC11.out
          go_wp2_with fail
          with_reducible refine Calls.mono (chput_in key 32 9 0 0 0 0 (by decide)) ?_
          rintro e u3 ⟨rfl, hb⟩
          have HB12 := Lib.hid (thn HB11.out hb)
          clear hb c0 c1
          go_wp2_with fail
          go_ret
          exact ⟨rfl, HB12.out⟩
      · have HL9 := Lib.hid hnine
        have l9 : ¬ (a : Int) + 16 < 768 := by omega
        clear hnine
        have HTAKE := Lib.hid (fun (w' : World) (h : HeadAt x14 w' S C T N E ∧ HeadAt x9 w' S C T N E ∧ RowU DD 16 w' (headF key ((a : Int) + 16) S C T N E)) => And.intro h.1.2 (And.intro h.2.1.2 (conv_row h.2.2 16)))
        refine wp_region_held_drew (S := fun w' => HeadAt x14 w' S C T N E ∧ HeadAt x9 w' S C T N E ∧ RowU DD 16 w' (headF key ((a : Int) + 16) S C T N E)) (by kernel_rfl) ?_ (fun hHeld => ?_)
        · exact ⟨HY9.out.below (Below.refl _ _).drew, HX9.out.below (Below.refl _ _).drew, HRW.out.below (Below.refl _ _).drew⟩
        refine wpAnyH_take (i := 0) (v := ?_) rfl (by kernel_rfl) (by kernel_rfl) (by kernel_rfl) (fun _ _ _ h => h) (Or.inl ⟨by kernel_rfl, ?_⟩) (by assumption) ?_
        rotate_left
        · (intro w hSw; (try dsimp only at hSw); (try have hTk := Hid.out HTAKE _ hSw); go_simp)
          try (with_reducible rfl)
        rotate_left
        try simp (maxSteps := 4000000) only [Act.put, List.setIfInBounds_toArray, List.set_cons_zero, List.set_cons_succ, List.getElem_toArray, List.getElem_cons_zero, List.getElem_cons_succ]
        refine wpAnyH_take (i := 1) (v := ?_) rfl (by kernel_rfl) (by kernel_rfl) (by kernel_rfl) (fun _ _ _ h => h) (Or.inl ⟨by kernel_rfl, ?_⟩) (by assumption) ?_
        rotate_left
        · (intro w hSw; (try dsimp only at hSw); (try have hTk := Hid.out HTAKE _ hSw); go_simp)
          try (with_reducible rfl)
        rotate_left
        try simp (maxSteps := 4000000) only [Act.put, List.setIfInBounds_toArray, List.set_cons_zero, List.set_cons_succ, List.getElem_toArray, List.getElem_cons_zero, List.getElem_cons_succ]
        refine wpAnyH_take (i := 2) (v := ?_) rfl (by kernel_rfl) (by kernel_rfl) (by kernel_rfl) (fun _ _ _ h => h) (Or.inl ⟨by kernel_rfl, ?_⟩) (by assumption) ?_
        rotate_left
        · (intro w hSw; (try dsimp only at hSw); (try have hTk := Hid.out HTAKE _ hSw); go_simp)
          try (with_reducible rfl)
        rotate_left
        try simp (maxSteps := 4000000) only [Act.put, List.setIfInBounds_toArray, List.set_cons_zero, List.set_cons_succ, List.getElem_toArray, List.getElem_cons_zero, List.getElem_cons_succ]
        refine wpAnyH_take (i := 3) (v := ?_) rfl (by kernel_rfl) (by kernel_rfl) (by kernel_rfl) (fun _ _ _ h => h) (Or.inl ⟨by kernel_rfl, ?_⟩) (by assumption) ?_
        rotate_left
        · (intro w hSw; (try dsimp only at hSw); (try have hTk := Hid.out HTAKE _ hSw); go_simp)
          try (with_reducible rfl)
        rotate_left
        try simp (maxSteps := 4000000) only [Act.put, List.setIfInBounds_toArray, List.set_cons_zero, List.set_cons_succ, List.getElem_toArray, List.getElem_cons_zero, List.getElem_cons_succ]
        refine wpAnyH_take (i := 4) (v := ?_) rfl (by kernel_rfl) (by kernel_rfl) (by kernel_rfl) (fun _ _ _ h => h) (Or.inl ⟨by kernel_rfl, ?_⟩) (by assumption) ?_
        rotate_left
        · (intro w hSw; (try dsimp only at hSw); (try have hTk := Hid.out HTAKE _ hSw); go_simp)
          try (with_reducible rfl)
        rotate_left
        try simp (maxSteps := 4000000) only [Act.put, List.setIfInBounds_toArray, List.set_cons_zero, List.set_cons_succ, List.getElem_toArray, List.getElem_cons_zero, List.getElem_cons_succ]
        refine wpAnyH_take (i := 5) (v := ?_) rfl (by kernel_rfl) (by kernel_rfl) (by kernel_rfl) (fun _ _ _ h => h) (Or.inl ⟨by kernel_rfl, ?_⟩) (by assumption) ?_
        rotate_left
        · (intro w hSw; (try dsimp only at hSw); (try have hTk := Hid.out HTAKE _ hSw); go_simp)
          try (with_reducible rfl)
        rotate_left
        try simp (maxSteps := 4000000) only [Act.put, List.setIfInBounds_toArray, List.set_cons_zero, List.set_cons_succ, List.getElem_toArray, List.getElem_cons_zero, List.getElem_cons_succ]
        refine wpAnyH_take (i := 6) (v := ?_) rfl (by kernel_rfl) (by kernel_rfl) (by kernel_rfl) (fun _ _ _ h => h) (Or.inl ⟨by kernel_rfl, ?_⟩) (by assumption) ?_
        rotate_left
        · (intro w hSw; (try dsimp only at hSw); (try have hTk := Hid.out HTAKE _ hSw); go_simp)
          try (with_reducible rfl)
        rotate_left
        try simp (maxSteps := 4000000) only [Act.put, List.setIfInBounds_toArray, List.set_cons_zero, List.set_cons_succ, List.getElem_toArray, List.getElem_cons_zero, List.getElem_cons_succ]
        refine wpAnyH_take (i := 7) (v := ?_) rfl (by kernel_rfl) (by kernel_rfl) (by kernel_rfl) (fun _ _ _ h => h) (Or.inl ⟨by kernel_rfl, ?_⟩) (by assumption) ?_
        rotate_left
        · (intro w hSw; (try dsimp only at hSw); (try have hTk := Hid.out HTAKE _ hSw); go_simp)
          try (with_reducible rfl)
        rotate_left
        try simp (maxSteps := 4000000) only [Act.put, List.setIfInBounds_toArray, List.set_cons_zero, List.set_cons_succ, List.getElem_toArray, List.getElem_cons_zero, List.getElem_cons_succ]
        refine wpAnyH_take (i := 8) (v := ?_) rfl (by kernel_rfl) (by kernel_rfl) (by kernel_rfl) (fun _ _ _ h => h) (Or.inl ⟨by kernel_rfl, ?_⟩) (by assumption) ?_
        rotate_left
        · (intro w hSw; (try dsimp only at hSw); (try have hTk := Hid.out HTAKE _ hSw); go_simp)
          try (with_reducible rfl)
        rotate_left
        try simp (maxSteps := 4000000) only [Act.put, List.setIfInBounds_toArray, List.set_cons_zero, List.set_cons_succ, List.getElem_toArray, List.getElem_cons_zero, List.getElem_cons_succ]
        refine wpAnyH_take (i := 9) (v := ?_) rfl (by kernel_rfl) (by kernel_rfl) (by kernel_rfl) (fun _ _ _ h => h) (Or.inl ⟨by kernel_rfl, ?_⟩) (by assumption) ?_
        rotate_left
        · (intro w hSw; (try dsimp only at hSw); (try have hTk := Hid.out HTAKE _ hSw); go_simp)
          try (with_reducible rfl)
        rotate_left
        try simp (maxSteps := 4000000) only [Act.put, List.setIfInBounds_toArray, List.set_cons_zero, List.set_cons_succ, List.getElem_toArray, List.getElem_cons_zero, List.getElem_cons_succ]
        refine wpAnyH_take (i := 10) (v := ?_) rfl (by kernel_rfl) (by kernel_rfl) (by kernel_rfl) (fun _ _ _ h => h) (Or.inl ⟨by kernel_rfl, ?_⟩) (by assumption) ?_
        rotate_left
        · (intro w hSw; (try dsimp only at hSw); (try have hTk := Hid.out HTAKE _ hSw); go_simp)
          try (with_reducible rfl)
        rotate_left
        try simp (maxSteps := 4000000) only [Act.put, List.setIfInBounds_toArray, List.set_cons_zero, List.set_cons_succ, List.getElem_toArray, List.getElem_cons_zero, List.getElem_cons_succ]
        refine wpAnyH_take (i := 11) (v := ?_) rfl (by kernel_rfl) (by kernel_rfl) (by kernel_rfl) (fun _ _ _ h => h) (Or.inl ⟨by kernel_rfl, ?_⟩) (by assumption) ?_
        rotate_left
        · (intro w hSw; (try dsimp only at hSw); (try have hTk := Hid.out HTAKE _ hSw); go_simp)
          try (with_reducible rfl)
        rotate_left
        try simp (maxSteps := 4000000) only [Act.put, List.setIfInBounds_toArray, List.set_cons_zero, List.set_cons_succ, List.getElem_toArray, List.getElem_cons_zero, List.getElem_cons_succ]
        refine wpAnyH_take (i := 12) (v := ?_) rfl (by kernel_rfl) (by kernel_rfl) (by kernel_rfl) (fun _ _ _ h => h) (Or.inl ⟨by kernel_rfl, ?_⟩) (by assumption) ?_
        rotate_left
        · (intro w hSw; (try dsimp only at hSw); (try have hTk := Hid.out HTAKE _ hSw); go_simp)
          try (with_reducible rfl)
        rotate_left
        try simp (maxSteps := 4000000) only [Act.put, List.setIfInBounds_toArray, List.set_cons_zero, List.set_cons_succ, List.getElem_toArray, List.getElem_cons_zero, List.getElem_cons_succ]
        refine wpAnyH_ready (rs := [13]) (by kernel_rfl) (by simp) ?_
        refine AllReadyH.cons rfl (fun K2 hK2 => ?_) AllReadyH.nil
        go_simp
        with_reducible refine Calls.mono (rbytes key ((a : Int) + 16) S C T N E _ HBD.out.1 HBD.out.2.1 HBD.out.2.2.1 HBD.out.2.2.2.1 HBD.out.2.2.2.2 HKY.out.1 HKY.out.2) ?_
        rintro e w1 ⟨gg, cc, rfl, hrw, hb⟩
        have hb' : Below v9'.heap.size v9' w1 := thn (Below.refl _ _).drew hb
        have hcv := conv_row hrw cc
        have HM19 := Lib.hid (HM9.out.later hb')
        have HC19 := Lib.hid (HC9.out.below hb')
        have HB19 := Lib.hid (thn HB9.out hb')
        clear hb'
        refine hK2.out _ _ (⟨hHeld.1.below hb, hHeld.2.1.below hb, hHeld.2.2.below hb⟩) (fun hHeld2 => ?_)
        clear hK2 K2 hHeld
        have hHeld := hHeld2
        clear hHeld2
        try simp (maxSteps := 4000000) only [Act.put, List.setIfInBounds_toArray, List.set_cons_zero, List.set_cons_succ]
        clear hb
        refine wpAnyH_ready (rs := [14]) (by kernel_rfl) (by simp) ?_
        refine AllReadyH.cons rfl (fun K2 hK2 => ?_) AllReadyH.nil
        go_simp
        refine hK2.out _ _ (hHeld) (fun hHeld2 => ?_)
        clear hK2 K2 hHeld
        have hHeld := hHeld2
        clear hHeld2
        try simp (maxSteps := 4000000) only [Act.put, List.setIfInBounds_toArray, List.set_cons_zero, List.set_cons_succ]
        refine wpAnyH_take (i := 15) (v := ?_) rfl (by kernel_rfl) (by kernel_rfl) (by kernel_rfl) (fun _ _ _ h => h) (Or.inl ⟨by kernel_rfl, ?_⟩) (by assumption) ?_
        rotate_left
        · (intro w hSw; (try dsimp only at hSw); (try have hTk := Hid.out HTAKE _ hSw); go_simp)
          try (with_reducible rfl)
        rotate_left
        try simp (maxSteps := 4000000) only [Act.put, List.setIfInBounds_toArray, List.set_cons_zero, List.set_cons_succ, List.getElem_toArray, List.getElem_cons_zero, List.getElem_cons_succ]
        refine wpAnyH_take (i := 16) (v := ?_) rfl (by kernel_rfl) (by kernel_rfl) (by kernel_rfl) (fun _ _ _ h => h) (Or.inl ⟨by kernel_rfl, ?_⟩) (by assumption) ?_
        rotate_left
        · (intro w hSw; (try dsimp only at hSw); (try have hTk := Hid.out HTAKE _ hSw); go_simp)
          try (with_reducible rfl)
        rotate_left
        try simp (maxSteps := 4000000) only [Act.put, List.setIfInBounds_toArray, List.set_cons_zero, List.set_cons_succ, List.getElem_toArray, List.getElem_cons_zero, List.getElem_cons_succ]
        refine wpAnyH_take (i := 17) (v := ?_) rfl (by kernel_rfl) (by kernel_rfl) (by kernel_rfl) (fun _ _ _ h => h) (Or.inl ⟨by kernel_rfl, ?_⟩) (by assumption) ?_
        rotate_left
        · (intro w hSw; (try dsimp only at hSw); (try have hTk := Hid.out HTAKE _ hSw); go_simp)
          try (with_reducible rfl)
        rotate_left
        try simp (maxSteps := 4000000) only [Act.put, List.setIfInBounds_toArray, List.set_cons_zero, List.set_cons_succ, List.getElem_toArray, List.getElem_cons_zero, List.getElem_cons_succ]
        refine wpAnyH_take (i := 18) (v := ?_) rfl (by kernel_rfl) (by kernel_rfl) (by kernel_rfl) (fun _ _ _ h => h) (Or.inl ⟨by kernel_rfl, ?_⟩) (by assumption) ?_
        rotate_left
        · (intro w hSw; (try dsimp only at hSw); (try have hTk := Hid.out HTAKE _ hSw); go_simp)
          try (with_reducible rfl)
        rotate_left
        try simp (maxSteps := 4000000) only [Act.put, List.setIfInBounds_toArray, List.set_cons_zero, List.set_cons_succ, List.getElem_toArray, List.getElem_cons_zero, List.getElem_cons_succ]
        refine wpAnyH_take (i := 19) (v := ?_) rfl (by kernel_rfl) (by kernel_rfl) (by kernel_rfl) (fun _ _ _ h => h) (Or.inl ⟨by kernel_rfl, ?_⟩) (by assumption) ?_
        rotate_left
        · (intro w hSw; (try dsimp only at hSw); (try have hTk := Hid.out HTAKE _ hSw); go_simp)
          try (with_reducible rfl)
        rotate_left
        try simp (maxSteps := 4000000) only [Act.put, List.setIfInBounds_toArray, List.set_cons_zero, List.set_cons_succ, List.getElem_toArray, List.getElem_cons_zero, List.getElem_cons_succ]
        refine wpAnyH_take (i := 20) (v := ?_) rfl (by kernel_rfl) (by kernel_rfl) (by kernel_rfl) (fun _ _ _ h => h) (Or.inl ⟨by kernel_rfl, ?_⟩) (by assumption) ?_
        rotate_left
        · (intro w hSw; (try dsimp only at hSw); (try have hTk := Hid.out HTAKE _ hSw); go_simp)
          try (with_reducible rfl)
        rotate_left
        try simp (maxSteps := 4000000) only [Act.put, List.setIfInBounds_toArray, List.set_cons_zero, List.set_cons_succ, List.getElem_toArray, List.getElem_cons_zero, List.getElem_cons_succ]
        refine wpAnyH_ready (rs := [21]) (by kernel_rfl) (by simp) ?_
        refine AllReadyH.cons rfl (fun K2 hK2 => ?_) AllReadyH.nil
        go_simp
        with_reducible refine Calls.mono (mtag ((0 : Nat) : Int) (a : Int) HM19.out (put_tag0 a _ HA16.out.1 HLA.out)) ?_
        rintro e w2 ⟨rfl, hb⟩
        have HM20 := Lib.hid (HM19.out.later hb)
        have HC20 := Lib.hid (HC19.out.below hb)
        have HB20 := Lib.hid (thn HB19.out hb)
        refine hK2.out _ _ (⟨hHeld.1.below hb, hHeld.2.1.below hb, hHeld.2.2.below hb⟩) (fun hHeld2 => ?_)
        clear hK2 K2 hHeld
        have hHeld := hHeld2
        clear hHeld2
        try simp (maxSteps := 4000000) only [Act.put, List.setIfInBounds_toArray, List.set_cons_zero, List.set_cons_succ]
        clear hb HM19 HC19 HB19
        refine wpAnyH_take (i := 22) (v := ?_) rfl (by kernel_rfl) (by kernel_rfl) (by kernel_rfl) (fun _ _ _ h => h) (Or.inl ⟨by kernel_rfl, ?_⟩) (by assumption) ?_
        rotate_left
        · (intro w hSw; (try dsimp only at hSw); (try have hTk := Hid.out HTAKE _ hSw); go_simp)
          try (with_reducible rfl)
        rotate_left
        try simp (maxSteps := 4000000) only [Act.put, List.setIfInBounds_toArray, List.set_cons_zero, List.set_cons_succ, List.getElem_toArray, List.getElem_cons_zero, List.getElem_cons_succ]
        refine wpAnyH_take (i := 23) (v := ?_) rfl (by kernel_rfl) (by kernel_rfl) (by kernel_rfl) (fun _ _ _ h => h) (Or.inl ⟨by kernel_rfl, ?_⟩) (by assumption) ?_
        rotate_left
        · (intro w hSw; (try dsimp only at hSw); (try have hTk := Hid.out HTAKE _ hSw); go_simp)
          try (with_reducible rfl)
        rotate_left
        try simp (maxSteps := 4000000) only [Act.put, List.setIfInBounds_toArray, List.set_cons_zero, List.set_cons_succ, List.getElem_toArray, List.getElem_cons_zero, List.getElem_cons_succ]
        refine wpAnyH_take (i := 24) (v := ?_) rfl (by kernel_rfl) (by kernel_rfl) (by kernel_rfl) (fun _ _ _ h => h) (Or.inl ⟨by kernel_rfl, ?_⟩) (by assumption) ?_
        rotate_left
        · (intro w hSw; (try dsimp only at hSw); (try have hTk := Hid.out HTAKE _ hSw); go_simp)
          try (with_reducible rfl)
        rotate_left
        try simp (maxSteps := 4000000) only [Act.put, List.setIfInBounds_toArray, List.set_cons_zero, List.set_cons_succ, List.getElem_toArray, List.getElem_cons_zero, List.getElem_cons_succ]
        refine wpAnyH_take (i := 25) (v := ?_) rfl (by kernel_rfl) (by kernel_rfl) (by kernel_rfl) (fun _ _ _ h => h) (Or.inl ⟨by kernel_rfl, ?_⟩) (by assumption) ?_
        rotate_left
        · (intro w hSw; (try dsimp only at hSw); (try have hTk := Hid.out HTAKE _ hSw); go_simp)
          try (with_reducible rfl)
        rotate_left
        try simp (maxSteps := 4000000) only [Act.put, List.setIfInBounds_toArray, List.set_cons_zero, List.set_cons_succ, List.getElem_toArray, List.getElem_cons_zero, List.getElem_cons_succ]
        refine wpAnyH_take (i := 26) (v := ?_) rfl (by kernel_rfl) (by kernel_rfl) (by kernel_rfl) (fun _ _ _ h => h) (Or.inl ⟨by kernel_rfl, ?_⟩) (by assumption) ?_
        rotate_left
        · (intro w hSw; (try dsimp only at hSw); (try have hTk := Hid.out HTAKE _ hSw); go_simp)
          try (with_reducible rfl)
        rotate_left
        try simp (maxSteps := 4000000) only [Act.put, List.setIfInBounds_toArray, List.set_cons_zero, List.set_cons_succ, List.getElem_toArray, List.getElem_cons_zero, List.getElem_cons_succ]
        refine wpAnyH_ready (rs := [27]) (by kernel_rfl) (by simp) ?_
        refine AllReadyH.cons rfl (fun K2 hK2 => ?_) AllReadyH.nil
        go_simp
        with_reducible refine Calls.mono (mtag (-1) ((a : Int) + 16) HM20.out (s3t_tag_no _ (by have := HL9.out; omega) (by have := HA16.out; omega) _ (put_pg _ _))) ?_
        rintro e w3 ⟨rfl, hb⟩
        have HM21 := Lib.hid (HM20.out.later hb)
        have HC21 := Lib.hid (HC20.out.below hb)
        have HB21 := Lib.hid (thn HB20.out hb)
        refine hK2.out _ _ (⟨hHeld.1.below hb, hHeld.2.1.below hb, hHeld.2.2.below hb⟩) (fun hHeld2 => ?_)
        clear hK2 K2 hHeld
        have hHeld := hHeld2
        clear hHeld2
        try simp (maxSteps := 4000000) only [Act.put, List.setIfInBounds_toArray, List.set_cons_zero, List.set_cons_succ]
        clear hb HM20 HC20 HB20 HM9 HC9 HB9
        refine wpAnyH_take (i := 28) (v := ?_) rfl (by kernel_rfl) (by kernel_rfl) (by kernel_rfl) (fun _ _ _ h => h) (Or.inl ⟨by kernel_rfl, ?_⟩) (by assumption) ?_
        rotate_left
        · (intro w hSw; (try dsimp only at hSw); (try have hTk := Hid.out HTAKE _ hSw); go_simp)
          try (with_reducible rfl)
        rotate_left
        try simp (maxSteps := 4000000) only [Act.put, List.setIfInBounds_toArray, List.set_cons_zero, List.set_cons_succ, List.getElem_toArray, List.getElem_cons_zero, List.getElem_cons_succ]
        refine wpAnyH_take (i := 29) (v := ?_) rfl (by kernel_rfl) (by kernel_rfl) (by kernel_rfl) (fun _ _ _ h => h) (Or.inl ⟨by kernel_rfl, ?_⟩) (by assumption) ?_
        rotate_left
        · (intro w hSw; (try dsimp only at hSw); (try have hTk := Hid.out HTAKE _ hSw); go_simp)
          try (with_reducible rfl)
        rotate_left
        try simp (maxSteps := 4000000) only [Act.put, List.setIfInBounds_toArray, List.set_cons_zero, List.set_cons_succ, List.getElem_toArray, List.getElem_cons_zero, List.getElem_cons_succ]
        refine wpAnyH_take (i := 30) (v := ?_) rfl (by kernel_rfl) (by kernel_rfl) (by kernel_rfl) (fun _ _ _ h => h) (Or.inl ⟨by kernel_rfl, ?_⟩) (by assumption) ?_
        rotate_left
        · (intro w hSw; (try dsimp only at hSw); (try have hTk := Hid.out HTAKE _ hSw); go_simp)
          try (with_reducible rfl)
        rotate_left
        try simp (maxSteps := 4000000) only [Act.put, List.setIfInBounds_toArray, List.set_cons_zero, List.set_cons_succ, List.getElem_toArray, List.getElem_cons_zero, List.getElem_cons_succ]
        refine wpAnyH_take (i := 31) (v := ?_) rfl (by kernel_rfl) (by kernel_rfl) (by kernel_rfl) (fun _ _ _ h => h) (Or.inl ⟨by kernel_rfl, ?_⟩) (by assumption) ?_
        rotate_left
        · (intro w hSw; (try dsimp only at hSw); (try have hTk := Hid.out HTAKE _ hSw); go_simp)
          try (with_reducible rfl)
        rotate_left
        try simp (maxSteps := 4000000) only [Act.put, List.setIfInBounds_toArray, List.set_cons_zero, List.set_cons_succ, List.getElem_toArray, List.getElem_cons_zero, List.getElem_cons_succ]
        refine wpAnyH_take (i := 32) (v := ?_) rfl (by kernel_rfl) (by kernel_rfl) (by kernel_rfl) (fun _ _ _ h => h) (Or.inl ⟨by kernel_rfl, ?_⟩) (by assumption) ?_
        rotate_left
        · (intro w hSw; (try dsimp only at hSw); (try have hTk := Hid.out HTAKE _ hSw); go_simp)
          try (with_reducible rfl)
        rotate_left
        try simp (maxSteps := 4000000) only [Act.put, List.setIfInBounds_toArray, List.set_cons_zero, List.set_cons_succ, List.getElem_toArray, List.getElem_cons_zero, List.getElem_cons_succ]
        refine wpAnyH_take (i := 33) (v := ?_) rfl (by kernel_rfl) (by kernel_rfl) (by kernel_rfl) (fun _ _ _ h => h) (Or.inl ⟨by kernel_rfl, ?_⟩) (by assumption) ?_
        rotate_left
        · (intro w hSw; (try dsimp only at hSw); (try have hTk := Hid.out HTAKE _ hSw); go_simp)
          try (with_reducible rfl)
        rotate_left
        try simp (maxSteps := 4000000) only [Act.put, List.setIfInBounds_toArray, List.set_cons_zero, List.set_cons_succ, List.getElem_toArray, List.getElem_cons_zero, List.getElem_cons_succ]
        refine wpAnyH_done (by kernel_rfl) ?_ _
        clear hHeld HTAKE
        have HM9 := HM21
        have HC9 := HC21
        have HB9 := HB21
        go_upto_region 23 with (fail)
        obtain ⟨-, c0, c1⟩ := HC9.out
        go_wp2_with fail
        with_reducible refine Calls.mono (getq key ((a : Int) + 16) Q HKY.out.1 HKY.out.2 HQ.out.1 HQ.out.2.1 HQ.out.2.2 HM9.out (put_pg _ _) (fun b hb hb2 => if h : b = a then .inr ⟨by omega, h ▸ put_hd key a S C T N E HOK.out HBD.out.1 HBD.out.2.1 HBD.out.2.2.1 HBD.out.2.2.2.1 HBD.out.2.2.2.2⟩ else .inl ⟨by omega, put_far key a b _ HA16.out.1 hb h⟩)) ?_
        rintro e u1 ⟨A1, A2, A3, A4, A5, G, rfl, hG, hb⟩
        have HG := Lib.hid hG
        have HC10 := Lib.hid (HC9.out.below hb)
        have HB10 := Lib.hid (thn HB9.out hb)
        clear hb hG c0 c1
        go_upto_region 24 with (fail)
        have hbq := alc0 u1 (.cells #[.int .i64 A1, .int .i64 A2, .int .i64 A3, .int .i64 A4, .int .i64 A5] 83)
        have HC11 := Lib.hid (HC10.out.below hbq)
        have HB11 := Lib.hid (thn HB10.out hbq)
        clear hbq HC10 HB10 HC9 HB9
        generalize hu2 : World.alloc u1 _ = u2 at *
        generalize u1.heap.size = x18 at *
        clear hu2
        go_cut [133] (fun v wx => v = .bool false ∧ u2 = wx)
        case first =>
          have HQ0 := HQ.out
          by_cases hqp : Q = ((a : Int) + 16)
          · have f1 : (Q == ((a : Int) + 16)) = true := beq_iff_eq.2 hqp
            have f2 : (Q != ((a : Int) + 16)) = false := by rw [bne, f1]; rfl
            clear hqp HQ0
            go_wp2_with fail
            go_meet
            exact ⟨rfl, rfl⟩
          · have f1 : (Q == ((a : Int) + 16)) = false := beq_eq_false_iff_ne.2 hqp
            have f2 : (Q != ((a : Int) + 16)) = true := by rw [bne, f1]; rfl
            by_cases h16 : 16 ≤ Q
            · by_cases h78 : Q < 784
              · obtain rfl : G = 11 := HG.out hqp h16 h78
                have h1 : Q - 16 < 768 := by omega
                clear hqp HQ0
                go_wp2_with fail
                go_meet
                exact ⟨rfl, rfl⟩
              · have h1 : ¬ Q - 16 < 768 := by omega
                have h2 : Q < 1024 := HQ0.2.2
                clear hqp HQ0
                go_wp2_with fail
                go_meet
                exact ⟨rfl, rfl⟩
            · have h1 : 0 ≤ Q := HQ0.1
              clear hqp HQ0
              go_wp2_with fail
              go_meet
              exact ⟨rfl, rfl⟩
        case rest =>
          obtain ⟨rfl, rfl⟩ := hcut
          obtain ⟨-, c0, c1⟩ := HC11.out
          go_wp2_with fail
          with_reducible refine Calls.mono (chput_in key 32 9 0 0 0 0 (by decide)) ?_
          rintro e u3 ⟨rfl, hb⟩
          have HB12 := Lib.hid (thn HB11.out hb)
          clear hb c0 c1
          go_wp2_with fail
          go_ret
          exact ⟨rfl, HB12.out⟩
  · obtain ⟨P, hP⟩ : ∃ P : Int, P = (p : Int) := ⟨_, rfl⟩
    rw [← hP] at e1
    have HPP : Hid (¬ (16 ≤ P ∧ P % 16 = 0) ∧ 0 ≤ P ∧ P < 1024) := Lib.hid (by omega)
    have p0 : 0 ≤ P := by omega
    have p1 : P < 1024 := by omega
    obtain ⟨o, ho⟩ : ∃ o : Nat, p % 16 = o := ⟨_, rfl⟩
    have g1 : P % 16 = (o : Int) := by omega
    have g2 : P.tmod 16 = (o : Int) := by rw [Int.tmod_eq_emod_of_nonneg (by omega)]; exact g1
    by_cases h0 : o = 0
    · subst h0
      have l1 : P < 16 := by omega
      have g1 : P % 16 = 0 := g1
      have g2 : P.tmod 16 = 0 := g2
      clear hP ho hA hp1
      obtain ⟨-, t0, t1⟩ := HAT5.out
      go_quiet (fail)
      have hbq : Below v5.heap.size v5 (v5.drewN nq) := below_drewN (Below.refl _ _) nq
      generalize v5.drewN nq = v6 at *
      have HC6 := Lib.hid (HC5.out.below hbq)
      have HX6 := Lib.hid (HX5.out.below hbq)
      have HM6 := Lib.hid (HM5.out.later hbq)
      have HB6 := Lib.hid (thn HB5.out hbq)
      have HN6 : Hid (x8 < v6.heap.size ∧ x9 < v6.heap.size) := Lib.hid ⟨HC6.out.1, HX6.out.1⟩
      clear hbq t0 t1 HAT5 HC5 HX5 HM5 HB5 e1 e2 wq
      obtain ⟨-, c0, c1⟩ := HC6.out
      obtain ⟨-, d0, d1, d2, d3, d4, -⟩ := HX6.out
      go_wp2_with fail
      with_reducible refine Calls.mono (chput_in key P S C T N E (by rw [thereC_no HPP.out.1, Bool.false_and])) ?_
      rintro e v7 ⟨rfl, hb7⟩
      have HC7 := Lib.hid (HC6.out.below hb7)
      have HM7 := Lib.hid (HM6.out.later hb7)
      have HB7 := Lib.hid (thn HB6.out hb7)
      clear hb7 c0 c1 d0 d1 d2 d3 d4 HC6 HX6 HM6 HB6
      obtain ⟨-, c0, c1⟩ := HC7.out
      go_wp2_with fail
      with_reducible refine Calls.mono (chget_in key P (thereC_no HPP.out.1)) ?_
      rintro e v8 ⟨rfl, hb8⟩
      have HC8 := Lib.hid (HC7.out.below hb8)
      have HM8 := Lib.hid (HM7.out.later hb8)
      have HB8 := Lib.hid (thn HB7.out hb8)
      clear hb8 c0 c1 HC7 HM7 HB7
      go_upto_region 23 with (fail)
      have hbq := alc0 v8 (.cells #[.int .i64 0, .int .i64 0, .int .i64 0, .int .i64 0, .int .i64 0] 83)
      have HC9 := Lib.hid (HC8.out.below hbq)
      have HM9 := Lib.hid (HM8.out.later hbq)
      have HB9 := Lib.hid (thn HB8.out hbq)
      clear hbq HC8 HM8 HB8
      generalize hv9 : World.alloc v8 _ = v9 at *
      generalize v8.heap.size = x14 at *
      clear hv9
      obtain ⟨-, c0, c1⟩ := HC9.out
      go_wp2_with fail
      with_reducible refine Calls.mono (getq key P Q HKY.out.1 HKY.out.2 HQ.out.1 HQ.out.2.1 HQ.out.2.2 HM9.out s3t_pg (fun b hb hb2 => .inl ⟨by have := HPP.out; omega, fun i hi => rfl⟩)) ?_
      rintro e u1 ⟨A1, A2, A3, A4, A5, G, rfl, hG, hb⟩
      have HG := Lib.hid hG
      have HC10 := Lib.hid (HC9.out.below hb)
      have HB10 := Lib.hid (thn HB9.out hb)
      clear hb hG c0 c1
      go_upto_region 24 with (fail)
      have hbq := alc0 u1 (.cells #[.int .i64 A1, .int .i64 A2, .int .i64 A3, .int .i64 A4, .int .i64 A5] 83)
      have HC11 := Lib.hid (HC10.out.below hbq)
      have HB11 := Lib.hid (thn HB10.out hbq)
      clear hbq HC10 HB10 HC9 HB9
      generalize hu2 : World.alloc u1 _ = u2 at *
      generalize u1.heap.size = x18 at *
      clear hu2
      go_cut [133] (fun v wx => v = .bool false ∧ u2 = wx)
      case first =>
        have HQ0 := HQ.out
        by_cases hqp : Q = P
        · have f1 : (Q == P) = true := beq_iff_eq.2 hqp
          have f2 : (Q != P) = false := by rw [bne, f1]; rfl
          clear hqp HQ0
          go_wp2_with fail
          go_meet
          exact ⟨rfl, rfl⟩
        · have f1 : (Q == P) = false := beq_eq_false_iff_ne.2 hqp
          have f2 : (Q != P) = true := by rw [bne, f1]; rfl
          by_cases h16 : 16 ≤ Q
          · by_cases h78 : Q < 784
            · obtain rfl : G = 11 := HG.out hqp h16 h78
              have h1 : Q - 16 < 768 := by omega
              clear hqp HQ0
              go_wp2_with fail
              go_meet
              exact ⟨rfl, rfl⟩
            · have h1 : ¬ Q - 16 < 768 := by omega
              have h2 : Q < 1024 := HQ0.2.2
              clear hqp HQ0
              go_wp2_with fail
              go_meet
              exact ⟨rfl, rfl⟩
          · have h1 : 0 ≤ Q := HQ0.1
            clear hqp HQ0
            go_wp2_with fail
            go_meet
            exact ⟨rfl, rfl⟩
      case rest =>
        obtain ⟨rfl, rfl⟩ := hcut
        obtain ⟨-, c0, c1⟩ := HC11.out
        go_wp2_with fail
        with_reducible refine Calls.mono (chput_in key 32 9 0 0 0 0 (by decide)) ?_
        rintro e u3 ⟨rfl, hb⟩
        have HB12 := Lib.hid (thn HB11.out hb)
        clear hb c0 c1
        go_wp2_with fail
        go_ret
        exact ⟨rfl, HB12.out⟩
    · have h5 : ((o : Int) == 0) = false := by simp; omega
      have h6 : ((o : Int) != 0) = true := by rw [bne, h5]; rfl
      have h7 : ¬ (o : Int) = 0 := by omega
      clear hP ho hA h0 hp1
      obtain ⟨-, t0, t1⟩ := HAT5.out
      go_quiet (fail)
      have hbq : Below v5.heap.size v5 (v5.drewN nq) := below_drewN (Below.refl _ _) nq
      generalize v5.drewN nq = v6 at *
      have HC6 := Lib.hid (HC5.out.below hbq)
      have HX6 := Lib.hid (HX5.out.below hbq)
      have HM6 := Lib.hid (HM5.out.later hbq)
      have HB6 := Lib.hid (thn HB5.out hbq)
      have HN6 : Hid (x8 < v6.heap.size ∧ x9 < v6.heap.size) := Lib.hid ⟨HC6.out.1, HX6.out.1⟩
      clear hbq t0 t1 HAT5 HC5 HX5 HM5 HB5 e1 e2 wq
      obtain ⟨-, c0, c1⟩ := HC6.out
      obtain ⟨-, d0, d1, d2, d3, d4, -⟩ := HX6.out
      go_wp2_with fail
      with_reducible refine Calls.mono (chput_in key P S C T N E (by rw [thereC_no HPP.out.1, Bool.false_and])) ?_
      rintro e v7 ⟨rfl, hb7⟩
      have HC7 := Lib.hid (HC6.out.below hb7)
      have HM7 := Lib.hid (HM6.out.later hb7)
      have HB7 := Lib.hid (thn HB6.out hb7)
      clear hb7 c0 c1 d0 d1 d2 d3 d4 HC6 HX6 HM6 HB6
      obtain ⟨-, c0, c1⟩ := HC7.out
      go_wp2_with fail
      with_reducible refine Calls.mono (chget_in key P (thereC_no HPP.out.1)) ?_
      rintro e v8 ⟨rfl, hb8⟩
      have HC8 := Lib.hid (HC7.out.below hb8)
      have HM8 := Lib.hid (HM7.out.later hb8)
      have HB8 := Lib.hid (thn HB7.out hb8)
      clear hb8 c0 c1 HC7 HM7 HB7
      go_upto_region 23 with (fail)
      have hbq := alc0 v8 (.cells #[.int .i64 0, .int .i64 0, .int .i64 0, .int .i64 0, .int .i64 0] 83)
      have HC9 := Lib.hid (HC8.out.below hbq)
      have HM9 := Lib.hid (HM8.out.later hbq)
      have HB9 := Lib.hid (thn HB8.out hbq)
      clear hbq HC8 HM8 HB8
      generalize hv9 : World.alloc v8 _ = v9 at *
      generalize v8.heap.size = x14 at *
      clear hv9
      obtain ⟨-, c0, c1⟩ := HC9.out
      go_wp2_with fail
      with_reducible refine Calls.mono (getq key P Q HKY.out.1 HKY.out.2 HQ.out.1 HQ.out.2.1 HQ.out.2.2 HM9.out s3t_pg (fun b hb hb2 => .inl ⟨by have := HPP.out; omega, fun i hi => rfl⟩)) ?_
      rintro e u1 ⟨A1, A2, A3, A4, A5, G, rfl, hG, hb⟩
      have HG := Lib.hid hG
      have HC10 := Lib.hid (HC9.out.below hb)
      have HB10 := Lib.hid (thn HB9.out hb)
      clear hb hG c0 c1
      go_upto_region 24 with (fail)
      have hbq := alc0 u1 (.cells #[.int .i64 A1, .int .i64 A2, .int .i64 A3, .int .i64 A4, .int .i64 A5] 83)
      have HC11 := Lib.hid (HC10.out.below hbq)
      have HB11 := Lib.hid (thn HB10.out hbq)
      clear hbq HC10 HB10 HC9 HB9
      generalize hu2 : World.alloc u1 _ = u2 at *
      generalize u1.heap.size = x18 at *
      clear hu2
      go_cut [133] (fun v wx => v = .bool false ∧ u2 = wx)
      case first =>
        have HQ0 := HQ.out
        by_cases hqp : Q = P
        · have f1 : (Q == P) = true := beq_iff_eq.2 hqp
          have f2 : (Q != P) = false := by rw [bne, f1]; rfl
          clear hqp HQ0
          go_wp2_with fail
          go_meet
          exact ⟨rfl, rfl⟩
        · have f1 : (Q == P) = false := beq_eq_false_iff_ne.2 hqp
          have f2 : (Q != P) = true := by rw [bne, f1]; rfl
          by_cases h16 : 16 ≤ Q
          · by_cases h78 : Q < 784
            · obtain rfl : G = 11 := HG.out hqp h16 h78
              have h1 : Q - 16 < 768 := by omega
              clear hqp HQ0
              go_wp2_with fail
              go_meet
              exact ⟨rfl, rfl⟩
            · have h1 : ¬ Q - 16 < 768 := by omega
              have h2 : Q < 1024 := HQ0.2.2
              clear hqp HQ0
              go_wp2_with fail
              go_meet
              exact ⟨rfl, rfl⟩
          · have h1 : 0 ≤ Q := HQ0.1
            clear hqp HQ0
            go_wp2_with fail
            go_meet
            exact ⟨rfl, rfl⟩
      case rest =>
        obtain ⟨rfl, rfl⟩ := hcut
        obtain ⟨-, c0, c1⟩ := HC11.out
        go_wp2_with fail
        with_reducible refine Calls.mono (chput_in key 32 9 0 0 0 0 (by decide)) ?_
        rintro e u3 ⟨rfl, hb⟩
        have HB12 := Lib.hid (thn HB11.out hb)
        clear hb c0 c1
        go_wp2_with fail
        go_ret
        exact ⟨rfl, HB12.out⟩
end Go.Proofs.YtgidnmjeifgciaaDoor
