/- HpZPw0, HpZPw2 in one text: a claim holds at most 60 files. -/
import Derived.Test.YtgidnmjeifgciaaDoorHpZS
import Derived.Deep.RegionHeld3
import Derived.Deep.CutBlock
namespace Go.Proofs.YtgidnmjeifgciaaDoor
set_option maxRecDepth 100000
open Go.RowKit Go.ChangeMaps Go.MapKept
set_option linter.unusedVariables false
set_option linter.unusedSimpArgs false

set_option maxHeartbeats 60000000 in
theorem hpStep_w0 : hpStep.2.1 := by
  intro l cp W T L hl HLEN Z zz0 v0 HB0 v1 M col a0 va v2 cl1 zz1 wo u24 u25 u26 u27 u28 u29 u30 zz2 zz3 v3 cl3 zz4 zz5 zz6 wr u2 u7 u8 u9 u10 u11 u12 u13 u14 u15 u16 u17 zz7 zz8 zz9 zz10 zz11 zz12 zz13 zz14 zz15 zz16 zz17 zz18 zz19 zz20 zz21 zz22 zz23 zz24 zz25 zz26 zz27 zz28 zz29 zz30 zz31 zz32 zz33 zz34 u64 zz35 zz36 zz37 zz38 zz39 zz40 zz41 zz42 zz43 zz44 zz45 zz46 zz47 zz48 zz49 zz50 zz51 zz52 zz53 u84 zz54 zz55 zz56 zz57 zz58 zz59 zz60 zz61 zz62 zz63 zz64 zz65 zz66 zz67 zz68 zz69 zz70 zz71 zz72 zz73 zz74 zz75 zz76 zz77 zz78 zz79 zz80 zz81 zz82 zz83 zz84 zz85 u117 zz86 zz87 zz88 zz89 zz90 zz91 zz92 zz93 zz94 zz95 zz96 zz97 zz98 zz99 zz100 zz101 zz102 zz103 zz104 zz105 zz106 zz107 zz108 zz109 zz110 zz111 zz112 zz113 zz114 zz115 zz116 zz117 zz118 zz119 zz120 zz121 zz122 zz123 zz124 zz125 zz126 zz127 zz128 zz129 zz130 u163 zz131 zz132 zz133 zz134 zz135 zz136 zz137 zz138 zz139 zz140 zz141 zz142 zz143 zz144 zz145 zz146 zz147 zz148 i σ r cl hi hi30 g1 g2 g1I g2I p ab ao HA zz149 zz150 HZW zz151 zz152 zz153 w4 zz154 zz155 zz156 zz157 zz158 zz159 zz160 zz161 zz162 zz163 zz164 zz165 zz166 zz167 zz168 zz169 zz170 zz171 zz172 zz173 zz174 zz175 zz176 zz177 zz178 zz179 zz180 zz181 zz182 zz183 zz184 zz185 zz186 zz187 zz188 zz189 zz190 zz191 zz192 zz193 zz194 zz195 zz196 zz197 zz198 zz199 zz200 zz201 zz202 zz203 zz204 zz205 zz206 zz207 zz208 zz209 zz210 zz211 zz212 zz213 zz214 zz215 zz216 zz217 zz218 zz219 zz220 zz221 zz222 zz223 zz224 zz225 zz226 zz227 zz228 zz229 zz230 zz231 zz232 zz233 zz234 zz235 zz236 zz237 zz238 zz239 zz240 zz241 zz242 zz243 zz244 zz245 zz246 zz247 zz248 zz249 zz250 zz251 zz252 zz253 zz254 zz255 zz256 zz257 zz258 zz259 zz260 zz261 zz262 zz263 zz264 zz265 zz266 zz267 zz268 zz269 zz270 zz271 zz272 zz273 zz274 zz275 zz276 zz277 zz278 zz279 zz280 zz281 zz282 zz283 zz284 zz285 zz286 zz287 zz288 zz289 zz290 zz291 zz292 zz293 zz294 zz295 x6 x7 b1 l1 c1 p1 t1 b2 l2 c2 p2 t2 q1 q2 q3 q4 q5 q6 q7 q8 q9 q10 q11 k1 k2 k3 k4 k5 k6 k7 k8 k9 k10 k11 HP4 HX60 HX70 HNA HX6 HX7 a0' a1 a2 a3 a4 a5 d0 d1 d2 d3 d4 d5 kd k5' hk5 zz296 zz297 u36 u37 u38 u39 u40 u41 u42 u43 u44 u45 u46 u47 u48 u49 u50 u51 u52 u53 u54 u55 u56 u57 u58 u59 u60 u61 u62 u63 u65 u66 u67 u68 u69 u70 u71 u72 u73 u74 u75 u76 u77 u78 u79 u80 u81 u82 u83 u85 u86 u87 u88 u89 u90 u91 u92 u93 u94 u95 u96 u97 u98 u99 u100 u101 u102 u103 u104 u105 u106 u107 u108 u109 u110 u111 u112 u113 u114 u115 u116 u118 u119 u120 u121 u122 u123 u124 u125 u126 u127 u128 u129 u130 u131 u132 u133 u134 u135 u136 u137 u138 u139 u140 u141 u142 u143 u144 u145 u146 u147 u148 u149 u150 u151 u152 u153 u154 u155 u156 u157 u158 u159 u160 u161 u162 u164 u165 u166 u167 u168 u169 u170 u171 u172 u173 u174 u175 u176 u177 u178 u179 u180 u181
  obtain ⟨E, hE⟩ : ∃ E, slotE σ b1 l1 c1 p1 t1 true 8 = E := ⟨_, rfl⟩
  have HE := Lib.hid hE
  have HER : Hid (slotR r b1 l1 c1 p1 t1 true 8 = E) := Lib.hid (by rw [← HP4.out.lk.slot _ _ _ _ _ _ 8 (by decide)]; exact hE)
  have HRG := Lib.hid HP4.out.half.rat.range
  have HI1 := Lib.hid (RS.info r)
  clear hE
  go_wp2_with (refine wpList_load_mid rfl 34 (.tmp 4) rfl a0 0 rfl r.l _ HRG.out Tryd.underlying34 rfl HI1.out ?_)
  refine (rslot E r HP4.out.half.one b1 l1 c1 p1 t1 true 8 _ HER.out).mono ?_
  rintro e w5 ⟨rfl, hb5⟩
  have HP5 := Lib.hid (HP4.out.later hb5)
  have HX65 := Lib.hid (HX6.out.below hb5)
  have HX75 := Lib.hid (HX7.out.below hb5)
  clear hb5 HRG
  clear a0' a1 a2 a3 a4 a5 d0 d1 d2 d3 d4 d5
  by_cases h0 : E = 0
  · subst h0
    have hn := accE_nat (slotE_ok HE.out).1
    obtain ⟨C, rfl⟩ : ∃ n : Nat, c1 = n := ⟨c1.toNat, by omega⟩
    have HC16 : Hid (C + 16 ≤ 2048 ∧ C % 16 = 0) := Lib.hid (by
      have h1 := HP4.out.lk.low (tagd_open ((accE_ok (slotE_ok HE.out).1).2.2.2 (by decide)))
      have h2 := (slotE_ok HE.out).2
      omega)
    obtain ⟨g, hg⟩ : ∃ g, C = 16 * g := ⟨C / 16, by have := HC16.out; omega⟩
    have HG := Lib.hid hg
    clear hn hg
    obtain ⟨L1, rfl⟩ : ∃ n : Nat, b2 = n := ⟨b2.toNat, by omega⟩
    obtain ⟨L2, rfl⟩ : ∃ n : Nat, l2 = n := ⟨l2.toNat, by omega⟩
    obtain ⟨L4, rfl⟩ : ∃ n : Nat, p2 = n := ⟨p2.toNat, by omega⟩
    obtain ⟨L5, rfl⟩ : ∃ n : Nat, t2 = n := ⟨t2.toNat, by omega⟩
    obtain ⟨LD, hLD⟩ : ∃ n : Nat, c2 - L1 + 1048576 = n := ⟨(c2 - L1 + 1048576).toNat, by omega⟩
    have HLD := Lib.hid hLD
    have HXN : Hid (x6 ≠ a0 ∧ x7 ≠ a0) := Lib.hid HNA.out
    clear hLD
    obtain ⟨-, a0', a1, a2, a3, a4, a5, -⟩ := HX65.out
    obtain ⟨-, d0, d1, d2, d3, d4, d5, -⟩ := HX75.out
    cases hal : aliveB σ L1 L2 c2 L4 L5 true with
    | false =>
      have HAL := Lib.hid hal
      have HALR : Hid (aliveR (wrN r C (fun _ => 0) 16) L1 L2 c2 L4 L5 true = false) := Lib.hid (show aliveR r L1 L2 c2 L4 L5 true = false from (HP4.out.lk.alive _ _ _ _ _ _).symm.trans hal)
      clear hal
      go_wp2_with fail
      with_reducible refine Calls.mono (hstore_dead b1 l1 p1 t1 C true L1 L2 c2 L4 L5 true HP5.out.half.mem HE.out HAL.out) ?_
      rintro e w6 ⟨rfl, hs6⟩
      obtain ⟨cl6, hh6, hc6, ho6, hz6⟩ := HP5.out.half.step hs6
      have HH6 : Hid (MHalf v0.heap.size M a0 v0 (wrS σ C 16 (fun _ => 0)) r cl6 w6) := Lib.hid hh6
      have HX66 := Lib.hid (HX65.out.keep hz6 (ho6 _ HX65.out.1 (by rw [HX60.out]; decide)))
      have HX76 := Lib.hid (HX75.out.keep hz6 (ho6 _ HX75.out.1 (by rw [HX70.out]; decide)))
      clear hs6 hh6 hc6 ho6 hz6
      clear a0' a1 a2 a3 a4 a5 d0 d1 d2 d3 d4 d5
      go_upto_region 27 with (fail)
      go_cut [6] (fun v6 wx => v6 = .int .i64 (i : Int) ∧ Hid (MHalf v0.heap.size M a0 v0 (wrS σ C 16 (fun _ => 0)) (wrN r C (fun _ => 0) 16) cl6 wx) ∧ Hid (CapAt x6 wx b1 l1 (C : Int) p1 t1 true) ∧ Hid (CapAt x7 wx L1 L2 c2 L4 L5 true))
      case first =>
        have hmk := mk16
        have HTAKE := Lib.hid (fun (w' : World) (h : CapAt x6 w' b1 l1 (C : Int) p1 t1 true) => h.2)
        refine wp_region_held_drew (S := fun w' => CapAt x6 w' b1 l1 (C : Int) p1 t1 true) (by kernel_rfl) ?_ (fun hHeld => ?_)
        · exact HX66.out.drew
        refine wpAnyH_take (i := 1) (v := ?_) rfl (by kernel_rfl) (by kernel_rfl) (by kernel_rfl) (fun _ _ _ h => h) (Or.inl ⟨by kernel_rfl, ?_⟩) (by assumption) ?_
        rotate_left
        · (intro w hSw; (try dsimp only at hSw); (try have hTk := Hid.out HTAKE _ hSw); go_simp)
          try (with_reducible rfl)
        rotate_left
        try simp (maxSteps := 4000000) only [Act.put, List.setIfInBounds_toArray, List.set_cons_zero, List.set_cons_succ]
        refine wpAnyH_take (i := 2) (v := ?_) rfl (by kernel_rfl) (by kernel_rfl) (by kernel_rfl) (fun _ _ _ h => h) (Or.inl ⟨by kernel_rfl, ?_⟩) (by assumption) ?_
        rotate_left
        · (intro w hSw; (try dsimp only at hSw); (try have hTk := Hid.out HTAKE _ hSw); go_simp)
          try (with_reducible rfl)
        rotate_left
        try simp (maxSteps := 4000000) only [Act.put, List.setIfInBounds_toArray, List.set_cons_zero, List.set_cons_succ]
        have hbq : Below w6.heap.size w6 (w6.alloc (.cells (madeCells #[.int .u8 0] 16) 5)).drew := (alc0 w6 _).drew
        have HQ0 := Lib.hid (HH6.out.later hbq)
        have HXq0 := Lib.hid (And.intro (HX66.out.below hbq) (HX76.out.below hbq))
        have HPZ0 : Hid (∀ i, i < 16 → (w6.alloc (.cells (madeCells #[.int .u8 0] 16) 5)).drew.cell? ⟨w6.heap.size, 0 + i, none⟩ = some (.int .u8 ((fun _ => 0 : Nat → Nat) i : Int))) := Lib.hid (fun i hi => by rw [Nat.zero_add]; exact made_cell w6 16 _ i hi)
        have HRG := Lib.hid HH6.out.rat.range
        have HRQ := Lib.hid HQ0.out.rat.range
        have HI1 := Lib.hid (RS.info r)
        clear hbq
        refine wpAnyH_ready (rs := [0, 3]) (by kernel_rfl) (by simp) ?_
        refine AllReadyH.cons rfl (fun K2 hK2 => ?_) (AllReadyH.cons rfl (fun K2 hK2 => ?_) AllReadyH.nil)
        · refine wp_load_mid 34 (.tmp 4) rfl a0 0 rfl r.l _ (show w6.drew.rangeAt a0 0 r.l from HRG.out) Tryd.underlying34 rfl HI1.out ?_
          refine hK2.out _ _ (HX66.out.drew) (fun hHeld2 => ?_)
          clear hK2 K2 hHeld
          have hHeld := hHeld2
          clear hHeld2
          try simp (maxSteps := 4000000) only [Act.put, List.setIfInBounds_toArray, List.set_cons_zero, List.set_cons_succ]
          refine wpAnyH_ready (rs := [3]) (by kernel_rfl) (by simp) ?_
          refine AllReadyH.cons rfl (fun K2 hK2 => ?_) AllReadyH.nil
          go_simp
          generalize (w6.alloc (.cells (madeCells #[.int .u8 0] 16) 5)).drew = w8 at *
          generalize w6.heap.size = DZ at *
          have HQ := HQ0
          have HXq := HXq0
          have HPZ := HPZ0
          clear HQ0 HXq0 HPZ0
          refine hK2.out _ _ (HXq.out.1) (fun hHeld2 => ?_)
          clear hK2 K2 hHeld
          have hHeld := hHeld2
          clear hHeld2
          try simp (maxSteps := 4000000) only [Act.put, List.setIfInBounds_toArray, List.set_cons_zero, List.set_cons_succ]
          refine wpAnyH_ready (rs := [4]) (by kernel_rfl) (by simp) ?_
          refine AllReadyH.cons rfl (fun K2 hK2 => ?_) AllReadyH.nil
          go_simp
          have RW := Lib.hid (rwrite r HQ.out.one C 16 DZ 0 16 (fun _ => 0) HC16.out.1 (by decide) w8 HPZ.out (fun _ _ => (by decide : 0 < 256)))
          with_reducible refine Calls.mono RW.out ?_
          rintro e w9 ⟨rfl, hb9⟩
          have hone := wrN_one HQ.out.one C (fun _ => 0) 16
          have HTH := Lib.hid ((HQ.out.later hb9).there (wrN r C (fun _ => 0) 16))
          have HI2 := Lib.hid (RS.infoA (wrN r C (fun _ => 0) 16))
          have HON := Lib.hid (RS.one hone)
          have HQ2 := Lib.hid ((HQ.out.later hb9).put hone)
          have HX69 := Lib.hid (HXq.out.1.below hb9)
          have HX79 := Lib.hid (HXq.out.2.below hb9)
          clear hb9 RW hone
          refine hK2.out _ _ (HX69.out) (fun hHeld2 => ?_)
          clear hK2 K2 hHeld
          have hHeld := hHeld2
          clear hHeld2
          try simp (maxSteps := 4000000) only [Act.put, List.setIfInBounds_toArray, List.set_cons_zero, List.set_cons_succ]
          refine wpAnyH_ready (rs := [5]) (by kernel_rfl) (by simp) ?_
          refine AllReadyH.cons rfl (fun K2 hK2 => ?_) AllReadyH.nil
          refine wp_store_mid 34 (.tmp 4) (.tmp 102) rfl a0 0 (wrN r C (fun _ => 0) 16).l.toArray rfl rfl (by simpa using HTH.out) HI2.out HON.out ?_
          have HX6a := Lib.hid (HX69.out.keep (Nat.le_of_eq (ob_cells a0 _ 0 w9).2.symm) ((ob_cells a0 (wrN r C (fun _ => 0) 16).l 0 w9).1.2.1 _ HX69.out.1 HXN.out.1))
          have HX7a := Lib.hid (HX79.out.keep (Nat.le_of_eq (ob_cells a0 _ 0 w9).2.symm) ((ob_cells a0 (wrN r C (fun _ => 0) 16).l 0 w9).1.2.1 _ HX79.out.1 HXN.out.2))
          refine hK2.out _ _ (HX6a.out) (fun hHeld2 => ?_)
          clear hK2 K2 hHeld
          have hHeld := hHeld2
          clear hHeld2
          try simp (maxSteps := 4000000) only [Act.put, List.setIfInBounds_toArray, List.set_cons_zero, List.set_cons_succ]
          refine wpAnyH_done (by kernel_rfl) ?_ _
          go_wp2_with fail
          go_meet
          exact ⟨rfl, HQ2, HX6a, HX7a⟩
        · go_simp
          generalize (w6.alloc (.cells (madeCells #[.int .u8 0] 16) 5)).drew = w8 at *
          generalize w6.heap.size = DZ at *
          have HQ := HQ0
          have HXq := HXq0
          have HPZ := HPZ0
          clear HQ0 HXq0 HPZ0
          refine hK2.out _ _ (HXq.out.1) (fun hHeld2 => ?_)
          clear hK2 K2 hHeld
          have hHeld := hHeld2
          clear hHeld2
          try simp (maxSteps := 4000000) only [Act.put, List.setIfInBounds_toArray, List.set_cons_zero, List.set_cons_succ]
          refine wpAnyH_ready (rs := [0]) (by kernel_rfl) (by simp) ?_
          refine AllReadyH.cons rfl (fun K2 hK2 => ?_) AllReadyH.nil
          refine wp_load_mid 34 (.tmp 4) rfl a0 0 rfl r.l _ HRQ.out Tryd.underlying34 rfl HI1.out ?_
          refine hK2.out _ _ (HXq.out.1) (fun hHeld2 => ?_)
          clear hK2 K2 hHeld
          have hHeld := hHeld2
          clear hHeld2
          try simp (maxSteps := 4000000) only [Act.put, List.setIfInBounds_toArray, List.set_cons_zero, List.set_cons_succ]
          refine wpAnyH_ready (rs := [4]) (by kernel_rfl) (by simp) ?_
          refine AllReadyH.cons rfl (fun K2 hK2 => ?_) AllReadyH.nil
          go_simp
          have RW := Lib.hid (rwrite r HQ.out.one C 16 DZ 0 16 (fun _ => 0) HC16.out.1 (by decide) w8 HPZ.out (fun _ _ => (by decide : 0 < 256)))
          with_reducible refine Calls.mono RW.out ?_
          rintro e w9 ⟨rfl, hb9⟩
          have hone := wrN_one HQ.out.one C (fun _ => 0) 16
          have HTH := Lib.hid ((HQ.out.later hb9).there (wrN r C (fun _ => 0) 16))
          have HI2 := Lib.hid (RS.infoA (wrN r C (fun _ => 0) 16))
          have HON := Lib.hid (RS.one hone)
          have HQ2 := Lib.hid ((HQ.out.later hb9).put hone)
          have HX69 := Lib.hid (HXq.out.1.below hb9)
          have HX79 := Lib.hid (HXq.out.2.below hb9)
          clear hb9 RW hone
          refine hK2.out _ _ (HX69.out) (fun hHeld2 => ?_)
          clear hK2 K2 hHeld
          have hHeld := hHeld2
          clear hHeld2
          try simp (maxSteps := 4000000) only [Act.put, List.setIfInBounds_toArray, List.set_cons_zero, List.set_cons_succ]
          refine wpAnyH_ready (rs := [5]) (by kernel_rfl) (by simp) ?_
          refine AllReadyH.cons rfl (fun K2 hK2 => ?_) AllReadyH.nil
          refine wp_store_mid 34 (.tmp 4) (.tmp 102) rfl a0 0 (wrN r C (fun _ => 0) 16).l.toArray rfl rfl (by simpa using HTH.out) HI2.out HON.out ?_
          have HX6a := Lib.hid (HX69.out.keep (Nat.le_of_eq (ob_cells a0 _ 0 w9).2.symm) ((ob_cells a0 (wrN r C (fun _ => 0) 16).l 0 w9).1.2.1 _ HX69.out.1 HXN.out.1))
          have HX7a := Lib.hid (HX79.out.keep (Nat.le_of_eq (ob_cells a0 _ 0 w9).2.symm) ((ob_cells a0 (wrN r C (fun _ => 0) 16).l 0 w9).1.2.1 _ HX79.out.1 HXN.out.2))
          refine hK2.out _ _ (HX6a.out) (fun hHeld2 => ?_)
          clear hK2 K2 hHeld
          have hHeld := hHeld2
          clear hHeld2
          try simp (maxSteps := 4000000) only [Act.put, List.setIfInBounds_toArray, List.set_cons_zero, List.set_cons_succ]
          refine wpAnyH_done (by kernel_rfl) ?_ _
          go_wp2_with fail
          go_meet
          exact ⟨rfl, HQ2, HX6a, HX7a⟩
      case rest =>
        obtain ⟨rfl, HH9, HX69, HX79⟩ := hcut
        rename World => w9
        obtain ⟨-, a0', a1, a2, a3, a4, a5, -⟩ := HX69.out
        obtain ⟨-, d0, d1, d2, d3, d4, d5, -⟩ := HX79.out
        have HRG := Lib.hid HH9.out.rat.range
        have HI1 := Lib.hid (RS.info (wrN r C (fun _ => 0) 16))
        go_wp2_with (refine wpList_load_mid rfl 34 (.tmp 4) rfl a0 0 rfl (wrN r C (fun _ => 0) 16).l _ HRG.out Tryd.underlying34 rfl HI1.out ?_)
        refine (ralive false (wrN r C (fun _ => 0) 16) HH9.out.one L1 L2 c2 L4 L5 true _ HALR.out).mono ?_
        rintro e w10 ⟨rfl, hb10⟩
        have HH10 := Lib.hid (HH9.out.later hb10)
        have HX6b := Lib.hid (HX69.out.below hb10)
        have HX7b := Lib.hid (HX79.out.below hb10)
        clear hb10 HRG HH9 HX69 HX79
        clear a0' a1 a2 a3 a4 a5 d0 d1 d2 d3 d4 d5
        have HFIN : Hid (MH v0.heap.size M a0 v0 (wrS σ C 16 (fun _ => 0)) (wrN r C (fun _ => 0) 16) cl6 w10) := Lib.hid ⟨HH10.out, HP4.out.lk.write (by decide) HC16.out.1, HP4.out.pg⟩
        go_wp2_with fail
        go_roundw
        case rel => exact ⟨i + 1, _, _, _, by omega, by omega, by go_num, HFIN⟩
        case measure => simp [intOf]; omega
    | true =>
      have HAL := Lib.hid hal
      have HALR : Hid (aliveR (wrN r C (fun _ => 0) 16) L1 L2 c2 L4 L5 true = true) := Lib.hid (show aliveR r L1 L2 c2 L4 L5 true = true from (HP4.out.lk.alive _ _ _ _ _ _).symm.trans hal)
      have HOK : Hid (capOkB L1 L2 c2 L4 L5 = true) := Lib.hid (by
        have h := hal
        unfold aliveB at h
        rw [Bool.true_and, Bool.and_eq_true] at h
        exact h.1)
      clear hal
      go_wp2_with fail
      with_reducible refine Calls.mono (hstore_yes b1 l1 p1 t1 C true L1 L2 LD L4 L5 c2 HP5.out.half.mem HE.out HAL.out HLD.out) ?_
      rintro e w6 ⟨rfl, hs6⟩
      obtain ⟨cl6, hh6, hc6, ho6, hz6⟩ := HP5.out.half.step hs6
      have HH6 : Hid (MHalf v0.heap.size M a0 v0 (keepS σ C (codeF L1 L2 LD L4 L5)) r cl6 w6) := Lib.hid hh6
      have HX66 := Lib.hid (HX65.out.keep hz6 (ho6 _ HX65.out.1 (by rw [HX60.out]; decide)))
      have HX76 := Lib.hid (HX75.out.keep hz6 (ho6 _ HX75.out.1 (by rw [HX70.out]; decide)))
      clear hs6 hh6 hc6 ho6 hz6
      clear a0' a1 a2 a3 a4 a5 d0 d1 d2 d3 d4 d5
      go_upto_region 27 with (fail)
      go_cut [6] (fun v6 wx => v6 = .int .i64 (i : Int) ∧ Hid (MHalf v0.heap.size M a0 v0 (keepS σ C (codeF L1 L2 LD L4 L5)) (wrN r C (fun _ => 0) 16) cl6 wx) ∧ Hid (CapAt x6 wx b1 l1 (C : Int) p1 t1 true) ∧ Hid (CapAt x7 wx L1 L2 c2 L4 L5 true))
      case first =>
        have hmk := mk16
        have HTAKE := Lib.hid (fun (w' : World) (h : CapAt x6 w' b1 l1 (C : Int) p1 t1 true) => h.2)
        refine wp_region_held_drew (S := fun w' => CapAt x6 w' b1 l1 (C : Int) p1 t1 true) (by kernel_rfl) ?_ (fun hHeld => ?_)
        · exact HX66.out.drew
        refine wpAnyH_take (i := 1) (v := ?_) rfl (by kernel_rfl) (by kernel_rfl) (by kernel_rfl) (fun _ _ _ h => h) (Or.inl ⟨by kernel_rfl, ?_⟩) (by assumption) ?_
        rotate_left
        · (intro w hSw; (try dsimp only at hSw); (try have hTk := Hid.out HTAKE _ hSw); go_simp)
          try (with_reducible rfl)
        rotate_left
        try simp (maxSteps := 4000000) only [Act.put, List.setIfInBounds_toArray, List.set_cons_zero, List.set_cons_succ]
        refine wpAnyH_take (i := 2) (v := ?_) rfl (by kernel_rfl) (by kernel_rfl) (by kernel_rfl) (fun _ _ _ h => h) (Or.inl ⟨by kernel_rfl, ?_⟩) (by assumption) ?_
        rotate_left
        · (intro w hSw; (try dsimp only at hSw); (try have hTk := Hid.out HTAKE _ hSw); go_simp)
          try (with_reducible rfl)
        rotate_left
        try simp (maxSteps := 4000000) only [Act.put, List.setIfInBounds_toArray, List.set_cons_zero, List.set_cons_succ]
        have hbq : Below w6.heap.size w6 (w6.alloc (.cells (madeCells #[.int .u8 0] 16) 5)).drew := (alc0 w6 _).drew
        have HQ0 := Lib.hid (HH6.out.later hbq)
        have HXq0 := Lib.hid (And.intro (HX66.out.below hbq) (HX76.out.below hbq))
        have HPZ0 : Hid (∀ i, i < 16 → (w6.alloc (.cells (madeCells #[.int .u8 0] 16) 5)).drew.cell? ⟨w6.heap.size, 0 + i, none⟩ = some (.int .u8 ((fun _ => 0 : Nat → Nat) i : Int))) := Lib.hid (fun i hi => by rw [Nat.zero_add]; exact made_cell w6 16 _ i hi)
        have HRG := Lib.hid HH6.out.rat.range
        have HRQ := Lib.hid HQ0.out.rat.range
        have HI1 := Lib.hid (RS.info r)
        clear hbq
        refine wpAnyH_ready (rs := [0, 3]) (by kernel_rfl) (by simp) ?_
        refine AllReadyH.cons rfl (fun K2 hK2 => ?_) (AllReadyH.cons rfl (fun K2 hK2 => ?_) AllReadyH.nil)
        · refine wp_load_mid 34 (.tmp 4) rfl a0 0 rfl r.l _ (show w6.drew.rangeAt a0 0 r.l from HRG.out) Tryd.underlying34 rfl HI1.out ?_
          refine hK2.out _ _ (HX66.out.drew) (fun hHeld2 => ?_)
          clear hK2 K2 hHeld
          have hHeld := hHeld2
          clear hHeld2
          try simp (maxSteps := 4000000) only [Act.put, List.setIfInBounds_toArray, List.set_cons_zero, List.set_cons_succ]
          refine wpAnyH_ready (rs := [3]) (by kernel_rfl) (by simp) ?_
          refine AllReadyH.cons rfl (fun K2 hK2 => ?_) AllReadyH.nil
          go_simp
          generalize (w6.alloc (.cells (madeCells #[.int .u8 0] 16) 5)).drew = w8 at *
          generalize w6.heap.size = DZ at *
          have HQ := HQ0
          have HXq := HXq0
          have HPZ := HPZ0
          clear HQ0 HXq0 HPZ0
          refine hK2.out _ _ (HXq.out.1) (fun hHeld2 => ?_)
          clear hK2 K2 hHeld
          have hHeld := hHeld2
          clear hHeld2
          try simp (maxSteps := 4000000) only [Act.put, List.setIfInBounds_toArray, List.set_cons_zero, List.set_cons_succ]
          refine wpAnyH_ready (rs := [4]) (by kernel_rfl) (by simp) ?_
          refine AllReadyH.cons rfl (fun K2 hK2 => ?_) AllReadyH.nil
          go_simp
          have RW := Lib.hid (rwrite r HQ.out.one C 16 DZ 0 16 (fun _ => 0) HC16.out.1 (by decide) w8 HPZ.out (fun _ _ => (by decide : 0 < 256)))
          with_reducible refine Calls.mono RW.out ?_
          rintro e w9 ⟨rfl, hb9⟩
          have hone := wrN_one HQ.out.one C (fun _ => 0) 16
          have HTH := Lib.hid ((HQ.out.later hb9).there (wrN r C (fun _ => 0) 16))
          have HI2 := Lib.hid (RS.infoA (wrN r C (fun _ => 0) 16))
          have HON := Lib.hid (RS.one hone)
          have HQ2 := Lib.hid ((HQ.out.later hb9).put hone)
          have HX69 := Lib.hid (HXq.out.1.below hb9)
          have HX79 := Lib.hid (HXq.out.2.below hb9)
          clear hb9 RW hone
          refine hK2.out _ _ (HX69.out) (fun hHeld2 => ?_)
          clear hK2 K2 hHeld
          have hHeld := hHeld2
          clear hHeld2
          try simp (maxSteps := 4000000) only [Act.put, List.setIfInBounds_toArray, List.set_cons_zero, List.set_cons_succ]
          refine wpAnyH_ready (rs := [5]) (by kernel_rfl) (by simp) ?_
          refine AllReadyH.cons rfl (fun K2 hK2 => ?_) AllReadyH.nil
          refine wp_store_mid 34 (.tmp 4) (.tmp 102) rfl a0 0 (wrN r C (fun _ => 0) 16).l.toArray rfl rfl (by simpa using HTH.out) HI2.out HON.out ?_
          have HX6a := Lib.hid (HX69.out.keep (Nat.le_of_eq (ob_cells a0 _ 0 w9).2.symm) ((ob_cells a0 (wrN r C (fun _ => 0) 16).l 0 w9).1.2.1 _ HX69.out.1 HXN.out.1))
          have HX7a := Lib.hid (HX79.out.keep (Nat.le_of_eq (ob_cells a0 _ 0 w9).2.symm) ((ob_cells a0 (wrN r C (fun _ => 0) 16).l 0 w9).1.2.1 _ HX79.out.1 HXN.out.2))
          refine hK2.out _ _ (HX6a.out) (fun hHeld2 => ?_)
          clear hK2 K2 hHeld
          have hHeld := hHeld2
          clear hHeld2
          try simp (maxSteps := 4000000) only [Act.put, List.setIfInBounds_toArray, List.set_cons_zero, List.set_cons_succ]
          refine wpAnyH_done (by kernel_rfl) ?_ _
          go_wp2_with fail
          go_meet
          exact ⟨rfl, HQ2, HX6a, HX7a⟩
        · go_simp
          generalize (w6.alloc (.cells (madeCells #[.int .u8 0] 16) 5)).drew = w8 at *
          generalize w6.heap.size = DZ at *
          have HQ := HQ0
          have HXq := HXq0
          have HPZ := HPZ0
          clear HQ0 HXq0 HPZ0
          refine hK2.out _ _ (HXq.out.1) (fun hHeld2 => ?_)
          clear hK2 K2 hHeld
          have hHeld := hHeld2
          clear hHeld2
          try simp (maxSteps := 4000000) only [Act.put, List.setIfInBounds_toArray, List.set_cons_zero, List.set_cons_succ]
          refine wpAnyH_ready (rs := [0]) (by kernel_rfl) (by simp) ?_
          refine AllReadyH.cons rfl (fun K2 hK2 => ?_) AllReadyH.nil
          refine wp_load_mid 34 (.tmp 4) rfl a0 0 rfl r.l _ HRQ.out Tryd.underlying34 rfl HI1.out ?_
          refine hK2.out _ _ (HXq.out.1) (fun hHeld2 => ?_)
          clear hK2 K2 hHeld
          have hHeld := hHeld2
          clear hHeld2
          try simp (maxSteps := 4000000) only [Act.put, List.setIfInBounds_toArray, List.set_cons_zero, List.set_cons_succ]
          refine wpAnyH_ready (rs := [4]) (by kernel_rfl) (by simp) ?_
          refine AllReadyH.cons rfl (fun K2 hK2 => ?_) AllReadyH.nil
          go_simp
          have RW := Lib.hid (rwrite r HQ.out.one C 16 DZ 0 16 (fun _ => 0) HC16.out.1 (by decide) w8 HPZ.out (fun _ _ => (by decide : 0 < 256)))
          with_reducible refine Calls.mono RW.out ?_
          rintro e w9 ⟨rfl, hb9⟩
          have hone := wrN_one HQ.out.one C (fun _ => 0) 16
          have HTH := Lib.hid ((HQ.out.later hb9).there (wrN r C (fun _ => 0) 16))
          have HI2 := Lib.hid (RS.infoA (wrN r C (fun _ => 0) 16))
          have HON := Lib.hid (RS.one hone)
          have HQ2 := Lib.hid ((HQ.out.later hb9).put hone)
          have HX69 := Lib.hid (HXq.out.1.below hb9)
          have HX79 := Lib.hid (HXq.out.2.below hb9)
          clear hb9 RW hone
          refine hK2.out _ _ (HX69.out) (fun hHeld2 => ?_)
          clear hK2 K2 hHeld
          have hHeld := hHeld2
          clear hHeld2
          try simp (maxSteps := 4000000) only [Act.put, List.setIfInBounds_toArray, List.set_cons_zero, List.set_cons_succ]
          refine wpAnyH_ready (rs := [5]) (by kernel_rfl) (by simp) ?_
          refine AllReadyH.cons rfl (fun K2 hK2 => ?_) AllReadyH.nil
          refine wp_store_mid 34 (.tmp 4) (.tmp 102) rfl a0 0 (wrN r C (fun _ => 0) 16).l.toArray rfl rfl (by simpa using HTH.out) HI2.out HON.out ?_
          have HX6a := Lib.hid (HX69.out.keep (Nat.le_of_eq (ob_cells a0 _ 0 w9).2.symm) ((ob_cells a0 (wrN r C (fun _ => 0) 16).l 0 w9).1.2.1 _ HX69.out.1 HXN.out.1))
          have HX7a := Lib.hid (HX79.out.keep (Nat.le_of_eq (ob_cells a0 _ 0 w9).2.symm) ((ob_cells a0 (wrN r C (fun _ => 0) 16).l 0 w9).1.2.1 _ HX79.out.1 HXN.out.2))
          refine hK2.out _ _ (HX6a.out) (fun hHeld2 => ?_)
          clear hK2 K2 hHeld
          have hHeld := hHeld2
          clear hHeld2
          try simp (maxSteps := 4000000) only [Act.put, List.setIfInBounds_toArray, List.set_cons_zero, List.set_cons_succ]
          refine wpAnyH_done (by kernel_rfl) ?_ _
          go_wp2_with fail
          go_meet
          exact ⟨rfl, HQ2, HX6a, HX7a⟩
      case rest =>
        obtain ⟨rfl, HH9, HX69, HX79⟩ := hcut
        rename World => w9
        obtain ⟨-, a0', a1, a2, a3, a4, a5, -⟩ := HX69.out
        obtain ⟨-, d0, d1, d2, d3, d4, d5, -⟩ := HX79.out
        have HRG := Lib.hid HH9.out.rat.range
        have HI1 := Lib.hid (RS.info (wrN r C (fun _ => 0) 16))
        go_wp2_with (refine wpList_load_mid rfl 34 (.tmp 4) rfl a0 0 rfl (wrN r C (fun _ => 0) 16).l _ HRG.out Tryd.underlying34 rfl HI1.out ?_)
        refine (ralive true (wrN r C (fun _ => 0) 16) HH9.out.one L1 L2 c2 L4 L5 true _ HALR.out).mono ?_
        rintro e w10 ⟨rfl, hb10⟩
        have HH10 := Lib.hid (HH9.out.later hb10)
        have HX6b := Lib.hid (HX69.out.below hb10)
        have HX7b := Lib.hid (HX79.out.below hb10)
        clear hb10 HRG HH9 HX69 HX79
        clear a0' a1 a2 a3 a4 a5 d0 d1 d2 d3 d4 d5
        have hg8 : g < 128 := by have := HC16.out; have := HG.out; omega
        have HG8 := Lib.hid hg8
        have g1 : (C : Int).tdiv 16 = (g : Int) := by rw [Int.tdiv_eq_ediv_of_nonneg (by omega)]; have := HG.out; omega
        have g2 : (C : Int) / 16 = (g : Int) := by have := HG.out; omega
        have r0 : (0 : Int) ≤ (g : Int) := by omega
        have r1 : (g : Int) < 128 := by omega
        have r2 : (g : Int).toNat = g := Int.toNat_natCast g
        have wg : IntKind.i64.wrap (g : Int) = (g : Int) := IntWalk.i64_in _ (by omega)
        clear hg8
        have k3 := (HH10.out.rat.2 (2184 + g) (by have := HG8.out; omega)).1
        have k4 := (HH10.out.rat.2 (2184 + g) (by have := HG8.out; omega)).2
        rw [RS.ck _ HG8.out] at k3
        have HHd := Lib.hid (HH10.out.later (Below.refl _ _).drew)
        have HTK : Hid ((w10.drew.setCell ⟨a0, 2184 + g, none⟩ (.bool true)).there a0 (2312 + g * 6) (#[.int .i64 (L1 : Int), .int .i64 (L2 : Int), .int .i64 c2, .int .i64 (L4 : Int), .int .i64 (L5 : Int), .bool true] : Array Value).size) := Lib.hid (rat_thkv HHd.out.rat HG8.out true)
        have HFH := Lib.hid (HHd.out.kv HG8.out true (capv L1 L2 c2 L4 L5) (capC L1 L2 c2 L4 L5) rfl (fun q hq => capC_at L1 L2 c2 L4 L5 g q hq) (fun x _ _ => capv_one L1 L2 c2 L4 L5 x))
        have HFIN := Lib.hid (MH.mk HFH.out (HP4.out.lk.keep HG.out HG8.out HOK.out HLD.out) HP4.out.pg)
        generalize (wrN r C (fun _ => 0) 16).k g = rk at k3
        go_upto_region 29 with (fail)
        have HTAKE := Lib.hid (fun (w' : World) (h : CapAt x6 w' b1 l1 (C : Int) p1 t1 true ∧ CapAt x7 w' L1 L2 c2 L4 L5 true) => And.intro h.1.2 h.2.2)
        refine wp_region_held_drew (S := fun w' => CapAt x6 w' b1 l1 (C : Int) p1 t1 true ∧ CapAt x7 w' L1 L2 c2 L4 L5 true) (by kernel_rfl) ?_ (fun hHeld => ?_)
        · exact ⟨HX6b.out.drew, HX7b.out.drew⟩
        refine wpAnyH_take (i := 0) (v := ?_) rfl (by kernel_rfl) (by kernel_rfl) (by kernel_rfl) (fun _ _ _ h => h) (Or.inl ⟨by kernel_rfl, ?_⟩) (by assumption) ?_
        rotate_left
        · (intro w hSw; (try dsimp only at hSw); (try have hTk := Hid.out HTAKE _ hSw); go_simp)
          try (with_reducible rfl)
        rotate_left
        try simp (maxSteps := 4000000) only [Act.put, List.setIfInBounds_toArray, List.set_cons_zero, List.set_cons_succ, List.getElem_toArray, List.getElem_cons_zero, List.getElem_cons_succ]
        refine wpAnyH_take (i := 1) (v := ?_) rfl (by kernel_rfl) (by kernel_rfl) (by kernel_rfl) (fun _ _ _ h => h) (Or.inl ⟨by kernel_rfl, ?_⟩) (by assumption) ?_
        rotate_left
        · (intro w hSw; (try dsimp only at hSw); (try have hTk := Hid.out HTAKE _ hSw); go_simp)
          try (with_reducible rfl)
        rotate_left
        try simp (maxSteps := 4000000) only [Act.put, List.setIfInBounds_toArray, List.set_cons_zero, List.set_cons_succ, List.getElem_toArray, List.getElem_cons_zero, List.getElem_cons_succ]
        refine wpAnyH_take (i := 2) (v := ?_) rfl (by kernel_rfl) (by kernel_rfl) (by kernel_rfl) (fun _ _ _ h => h) (Or.inl ⟨by kernel_rfl, ?_⟩) (by assumption) ?_
        rotate_left
        · (intro w hSw; (try dsimp only at hSw); (try have hTk := Hid.out HTAKE _ hSw); go_simp)
          try (with_reducible rfl)
        rotate_left
        try simp (maxSteps := 4000000) only [Act.put, List.setIfInBounds_toArray, List.set_cons_zero, List.set_cons_succ, List.getElem_toArray, List.getElem_cons_zero, List.getElem_cons_succ]
        refine wpAnyH_take (i := 3) (v := ?_) rfl (by kernel_rfl) (by kernel_rfl) (by kernel_rfl) (fun _ _ _ h => h) (Or.inl ⟨by kernel_rfl, ?_⟩) (by assumption) ?_
        rotate_left
        · (intro w hSw; (try dsimp only at hSw); (try have hTk := Hid.out HTAKE _ hSw); go_simp)
          try (with_reducible rfl)
        rotate_left
        try simp (maxSteps := 4000000) only [Act.put, List.setIfInBounds_toArray, List.set_cons_zero, List.set_cons_succ, List.getElem_toArray, List.getElem_cons_zero, List.getElem_cons_succ]
        refine wpAnyH_take (i := 4) (v := ?_) rfl (by kernel_rfl) (by kernel_rfl) (by kernel_rfl) (fun _ _ _ h => h) (Or.inl ⟨by kernel_rfl, ?_⟩) (by assumption) ?_
        rotate_left
        · (intro w hSw; (try dsimp only at hSw); (try have hTk := Hid.out HTAKE _ hSw); go_simp)
          try (with_reducible rfl)
        rotate_left
        try simp (maxSteps := 4000000) only [Act.put, List.setIfInBounds_toArray, List.set_cons_zero, List.set_cons_succ, List.getElem_toArray, List.getElem_cons_zero, List.getElem_cons_succ]
        refine wpAnyH_take (i := 5) (v := ?_) rfl (by kernel_rfl) (by kernel_rfl) (by kernel_rfl) (fun _ _ _ h => h) (Or.inl ⟨by kernel_rfl, ?_⟩) (by assumption) ?_
        rotate_left
        · (intro w hSw; (try dsimp only at hSw); (try have hTk := Hid.out HTAKE _ hSw); go_simp)
          try (with_reducible rfl)
        rotate_left
        try simp (maxSteps := 4000000) only [Act.put, List.setIfInBounds_toArray, List.set_cons_zero, List.set_cons_succ, List.getElem_toArray, List.getElem_cons_zero, List.getElem_cons_succ]
        refine wpAnyH_take (i := 6) (v := ?_) rfl (by kernel_rfl) (by kernel_rfl) (by kernel_rfl) (fun _ _ _ h => h) (Or.inl ⟨by kernel_rfl, ?_⟩) (by assumption) ?_
        rotate_left
        · (intro w hSw; (try dsimp only at hSw); (try have hTk := Hid.out HTAKE _ hSw); go_simp)
          try (with_reducible rfl)
        rotate_left
        try simp (maxSteps := 4000000) only [Act.put, List.setIfInBounds_toArray, List.set_cons_zero, List.set_cons_succ, List.getElem_toArray, List.getElem_cons_zero, List.getElem_cons_succ]
        refine wpAnyH_take (i := 7) (v := ?_) rfl (by kernel_rfl) (by kernel_rfl) (by kernel_rfl) (fun _ _ _ h => h) (Or.inl ⟨by kernel_rfl, ?_⟩) (by assumption) ?_
        rotate_left
        · (intro w hSw; (try dsimp only at hSw); (try have hTk := Hid.out HTAKE _ hSw); go_simp)
          try (with_reducible rfl)
        rotate_left
        try simp (maxSteps := 4000000) only [Act.put, List.setIfInBounds_toArray, List.set_cons_zero, List.set_cons_succ, List.getElem_toArray, List.getElem_cons_zero, List.getElem_cons_succ]
        refine wpAnyH_take (i := 8) (v := ?_) rfl (by kernel_rfl) (by kernel_rfl) (by kernel_rfl) (fun _ _ _ h => h) (Or.inl ⟨by kernel_rfl, ?_⟩) (by assumption) ?_
        rotate_left
        · (intro w hSw; (try dsimp only at hSw); (try have hTk := Hid.out HTAKE _ hSw); go_simp)
          try (with_reducible rfl)
        rotate_left
        try simp (maxSteps := 4000000) only [Act.put, List.setIfInBounds_toArray, List.set_cons_zero, List.set_cons_succ, List.getElem_toArray, List.getElem_cons_zero, List.getElem_cons_succ]
        refine wpAnyH_take (i := 10) (v := ?_) rfl (by kernel_rfl) (by kernel_rfl) (by kernel_rfl) (fun _ _ _ h => h) (Or.inl ⟨by kernel_rfl, ?_⟩) (by assumption) ?_
        rotate_left
        · (intro w hSw; (try dsimp only at hSw); (try have hTk := Hid.out HTAKE _ hSw); go_simp)
          try (with_reducible rfl)
        rotate_left
        try simp (maxSteps := 4000000) only [Act.put, List.setIfInBounds_toArray, List.set_cons_zero, List.set_cons_succ, List.getElem_toArray, List.getElem_cons_zero, List.getElem_cons_succ]
        refine wpAnyH_ready (rs := [9]) (by kernel_rfl) (by simp) ?_
        refine AllReadyH.cons rfl (fun K2 hK2 => ?_) AllReadyH.nil
        go_simp
        rw [show (w10.setCell ⟨a0, 2184 + g, none⟩ (.bool true)).drew = w10.drew.setCell ⟨a0, 2184 + g, none⟩ (.bool true) from rfl]
        have HXa := Lib.hid (HX6b.out.drew.far (o := 2184 + g) (a := .bool true) HXN.out.1)
        have HXb := Lib.hid (HX7b.out.drew.far (o := 2184 + g) (a := .bool true) HXN.out.2)
        clear k3 k4
        refine hK2.out _ _ (⟨HXa.out, HXb.out⟩) (fun hHeld2 => ?_)
        clear hK2 K2 hHeld
        have hHeld := hHeld2
        clear hHeld2
        try simp (maxSteps := 4000000) only [Act.put, List.setIfInBounds_toArray, List.set_cons_zero, List.set_cons_succ]
        refine wpAnyH_take (i := 11) (v := ?_) rfl (by kernel_rfl) (by kernel_rfl) (by kernel_rfl) (fun _ _ _ h => h) (Or.inl ⟨by kernel_rfl, ?_⟩) (by assumption) ?_
        rotate_left
        · (intro w hSw; (try dsimp only at hSw); (try have hTk := Hid.out HTAKE _ hSw); go_simp)
          try (with_reducible rfl)
        rotate_left
        try simp (maxSteps := 4000000) only [Act.put, List.setIfInBounds_toArray, List.set_cons_zero, List.set_cons_succ]
        refine wpAnyH_ready (rs := [12]) (by kernel_rfl) (by simp) ?_
        refine AllReadyH.cons rfl (fun K2 hK2 => ?_) AllReadyH.nil
        refine wp_store_mid 31 (.tmp 116) (.tmp 112) rfl a0 (2312 + g * 6) #[.int .i64 (L1 : Int), .int .i64 (L2 : Int), .int .i64 c2, .int .i64 (L4 : Int), .int .i64 (L5 : Int), .bool true] rfl rfl (by simpa using HTK.out) capInfo (capCOne L1 L2 c2 L4 L5) ?_
        have hob := ob_cells a0 (capC L1 L2 c2 L4 L5) (2312 + g * 6) (w10.drew.setCell ⟨a0, 2184 + g, none⟩ (.bool true))
        refine hK2.out _ _ (⟨HXa.out.keep (Nat.le_of_eq hob.2.symm) (hob.1.2.1 _ HXa.out.1 HXN.out.1), HXb.out.keep (Nat.le_of_eq hob.2.symm) (hob.1.2.1 _ HXb.out.1 HXN.out.2)⟩) (fun hHeld2 => ?_)
        clear hK2 K2 hHeld
        have hHeld := hHeld2
        clear hHeld2
        try simp (maxSteps := 4000000) only [Act.put, List.setIfInBounds_toArray, List.set_cons_zero, List.set_cons_succ]
        clear hob
        refine wpAnyH_done (by kernel_rfl) ?_ _
        clear hHeld
        go_wp2_with fail
        go_roundw
        case rel => exact ⟨i + 1, _, _, _, by omega, by omega, by go_num, HFIN⟩
        case measure => simp [intOf]; omega
  · obtain ⟨-, a0', a1, a2, a3, a4, a5, -⟩ := HX65.out
    obtain ⟨-, d0, d1, d2, d3, d4, d5, -⟩ := HX75.out
    have h5 : (E == 0) = false := by simpa using h0
    go_wp2_with fail
    with_reducible refine Calls.mono (hstore_no E b1 l1 c1 p1 t1 true b2 l2 c2 p2 t2 true HP5.out.half.mem HE.out h0) ?_
    rintro e w6 ⟨rfl, hb6⟩
    have HFIN := Lib.hid (HP5.out.later hb6)
    clear hb6 h0
    clear a0' a1 a2 a3 a4 a5 d0 d1 d2 d3 d4 d5
    go_wp2_with fail
    go_roundw
    case rel => exact ⟨i + 1, _, _, _, by omega, by omega, by go_num, HFIN⟩
    case measure => simp [intOf]; omega
end Go.Proofs.YtgidnmjeifgciaaDoor
namespace Go.Proofs.YtgidnmjeifgciaaDoor
set_option maxRecDepth 100000
open Go.RowKit Go.ChangeMaps Go.MapKept
set_option linter.unusedVariables false
set_option linter.unusedSimpArgs false

set_option maxHeartbeats 60000000 in
theorem hpStep_w2 : hpStep.2.2.1 := by
  intro l cp W T L hl HLEN Z zz0 v0 HB0 v1 M col a0 va v2 cl1 zz1 wo u24 u25 u26 u27 u28 u29 u30 zz2 zz3 v3 cl3 zz4 zz5 zz6 wr u2 u7 u8 u9 u10 u11 u12 u13 u14 u15 u16 u17 zz7 zz8 zz9 zz10 zz11 zz12 zz13 zz14 zz15 zz16 zz17 zz18 zz19 zz20 zz21 zz22 zz23 zz24 zz25 zz26 zz27 zz28 zz29 zz30 zz31 zz32 zz33 zz34 u64 zz35 zz36 zz37 zz38 zz39 zz40 zz41 zz42 zz43 zz44 zz45 zz46 zz47 zz48 zz49 zz50 zz51 zz52 zz53 u84 zz54 zz55 zz56 zz57 zz58 zz59 zz60 zz61 zz62 zz63 zz64 zz65 zz66 zz67 zz68 zz69 zz70 zz71 zz72 zz73 zz74 zz75 zz76 zz77 zz78 zz79 zz80 zz81 zz82 zz83 zz84 zz85 u117 zz86 zz87 zz88 zz89 zz90 zz91 zz92 zz93 zz94 zz95 zz96 zz97 zz98 zz99 zz100 zz101 zz102 zz103 zz104 zz105 zz106 zz107 zz108 zz109 zz110 zz111 zz112 zz113 zz114 zz115 zz116 zz117 zz118 zz119 zz120 zz121 zz122 zz123 zz124 zz125 zz126 zz127 zz128 zz129 zz130 u163 zz131 zz132 zz133 zz134 zz135 zz136 zz137 zz138 zz139 zz140 zz141 zz142 zz143 zz144 zz145 zz146 zz147 zz148 i σ r cl hi hi30 g1 g2 g1I g2I p ab ao HA zz149 zz150 HZW zz151 zz152 zz153 w4 u36 u37 u38 u39 u40 u41 u42 u43 u44 u45 u46 u47 u48 u49 u50 u51 u52 u53 u54 u55 u56 u57 u58 u59 u60 u61 u62 u63 u65 u66 u67 u68 u69 u70 u71 u72 u73 u74 u75 u76 u77 u78 u79 u80 u81 u82 u83 u85 u86 u87 u88 u89 u90 u91 u92 u93 u94 u95 u96 u97 u98 u99 u100 u101 u102 u103 u104 u105 u106 u107 u108 u109 u110 u111 u112 u113 u114 u115 u116 u118 u119 u120 u121 u122 u123 u124 u125 u126 u127 u128 u129 u130 u131 u132 u133 u134 u135 u136 u137 u138 u139 u140 u141 u142 u143 u144 u145 u146 u147 u148 u149 u150 u151 u152 u153 u154 u155 u156 u157 u158 u159 u160 u161 u162 u164 u165 u166 u167 u168 u169 u170 u171 u172 u173 u174 u175 u176 u177 u178 u179 u180 u181 x6 x7 b1 l1 c1 p1 t1 b2 l2 c2 p2 t2 q1 q2 q3 q4 q5 q6 q7 q8 q9 q10 q11 k1 k2 k3 k4 k5 k6 k7 k8 k9 k10 k11 HP4 HX60 HX70 HNA HX6 HX7 a0' a1 a2 a3 a4 a5 d0 d1 d2 d3 d4 d5 kd f15 hk5 fr
  obtain ⟨E, hE⟩ : ∃ E, slotE σ b1 l1 c1 p1 t1 true 4 = E := ⟨_, rfl⟩
  have HE := Lib.hid hE
  have HER : Hid (slotR r b1 l1 c1 p1 t1 true 4 = E) := Lib.hid (by rw [← HP4.out.lk.slot _ _ _ _ _ _ 4 (by decide)]; exact hE)
  have HRG := Lib.hid HP4.out.half.rat.range
  have HI1 := Lib.hid (RS.info r)
  clear hE
  go_wp2_with (refine wpList_load_mid rfl 34 (.tmp 4) rfl a0 0 rfl r.l _ HRG.out Tryd.underlying34 rfl HI1.out ?_)
  refine (rslot E r HP4.out.half.one b1 l1 c1 p1 t1 true 4 _ HER.out).mono ?_
  rintro e w5 ⟨rfl, hb5⟩
  have HP5 := Lib.hid (HP4.out.later hb5)
  have HX65 := Lib.hid (HX6.out.below hb5)
  clear hb5 HRG a0' a1 a2 a3 a4 a5 d0 d1 d2 d3 d4 d5
  go_upto_region 32 with (fail)
  have hbq := alc0 w5 (.cells #[.int .i64 0, .int .i64 0, .int .i64 0, .int .i64 0, .int .i64 0, .bool false] 31)
  have HP6 := Lib.hid (HP5.out.later hbq)
  have HX66 := Lib.hid (HX65.out.below hbq)
  have HZ := Lib.hid (CapAt.new w5 0 0 0 0 0 false 31)
  have HZ0 : Hid (cl w5.heap.size = 0) := Lib.hid (HP5.out.half.mem.old (Nat.le_refl _))
  have HZB : Hid (v0.heap.size ≤ w5.heap.size ∧ x6 ≠ w5.heap.size) := Lib.hid ⟨HP5.out.half.mem.size, by have := HX65.out.1; omega⟩
  have HZA : Hid (w5.heap.size ≠ a0) := Lib.hid (by have := HP5.out.half.rat.1; omega)
  clear hbq
  generalize hw6 : World.alloc w5 _ = w6 at *
  generalize w5.heap.size = x11 at *
  clear hw6
  by_cases h0 : E = 0
  · subst h0
    have hn := accE_nat (slotE_ok HE.out).1
    obtain ⟨C, rfl⟩ : ∃ n : Nat, c1 = n := ⟨c1.toNat, by omega⟩
    have HC16 : Hid (C + 16 ≤ 2048 ∧ C % 16 = 0) := Lib.hid (by
      have h1 := HP4.out.lk.low (tagd_open ((accE_ok (slotE_ok HE.out).1).2.2.2 (by decide)))
      have h2 := (slotE_ok HE.out).2
      omega)
    obtain ⟨g, hg⟩ : ∃ g, C = 16 * g := ⟨C / 16, by have := HC16.out; omega⟩
    have hg8 : g < 128 := by have := HC16.out; omega
    have HG := Lib.hid hg
    have HG8 := Lib.hid hg8
    have g1 : (C : Int).tdiv 16 = (g : Int) := by rw [Int.tdiv_eq_ediv_of_nonneg (by omega)]; omega
    have g2 : (C : Int) / 16 = (g : Int) := by omega
    have HGC := Lib.hid g2
    have r0 : (0 : Int) ≤ (g : Int) := by omega
    have r1 : (g : Int) < 128 := by omega
    have r2 : (g : Int).toNat = g := Int.toNat_natCast g
    have wg : IntKind.i64.wrap (g : Int) = (g : Int) := IntWalk.i64_in _ (by omega)
    clear hn hg hg8
    cases hk : σ.kp g with
    | false =>
      have HKR : Hid (r.k g = false) := Lib.hid (by rw [HP4.out.lk.kep g HG8.out]; exact hk)
      have HK := Lib.hid hk
      clear hk
      have HTAKE := Lib.hid (fun (w' : World) (h : RAt a0 w' r ∧ CapAt x6 w' b1 l1 (C : Int) p1 t1 true) => And.intro h.2.2 ((h.1.2 (2184 + g) (by have := HG8.out; omega)).1.trans (by rw [RS.ck _ HG8.out, HKR.out])))
      refine wp_region_held_drew (S := fun w' => RAt a0 w' r ∧ CapAt x6 w' b1 l1 (C : Int) p1 t1 true) (by kernel_rfl) ?_ (fun hHeld => ?_)
      · exact ⟨HP6.out.half.rat.below (Below.refl _ _).drew, HX66.out.drew⟩
      refine wpAnyH_take (i := 0) (v := ?_) rfl (by kernel_rfl) (by kernel_rfl) (by kernel_rfl) (fun _ _ _ h => h) (Or.inl ⟨by kernel_rfl, ?_⟩) (by assumption) ?_
      rotate_left
      · (intro w hSw; (try dsimp only at hSw); (try have hTk := Hid.out HTAKE _ hSw); go_simp)
        try (with_reducible rfl)
      rotate_left
      try simp (maxSteps := 4000000) only [Act.put, List.setIfInBounds_toArray, List.set_cons_zero, List.set_cons_succ, List.getElem_toArray, List.getElem_cons_zero, List.getElem_cons_succ]
      refine wpAnyH_take (i := 1) (v := ?_) rfl (by kernel_rfl) (by kernel_rfl) (by kernel_rfl) (fun _ _ _ h => h) (Or.inl ⟨by kernel_rfl, ?_⟩) (by assumption) ?_
      rotate_left
      · (intro w hSw; (try dsimp only at hSw); (try have hTk := Hid.out HTAKE _ hSw); go_simp)
        try (with_reducible rfl)
      rotate_left
      try simp (maxSteps := 4000000) only [Act.put, List.setIfInBounds_toArray, List.set_cons_zero, List.set_cons_succ, List.getElem_toArray, List.getElem_cons_zero, List.getElem_cons_succ]
      refine wpAnyH_take (i := 2) (v := ?_) rfl (by kernel_rfl) (by kernel_rfl) (by kernel_rfl) (fun _ _ _ h => h) (Or.inl ⟨by kernel_rfl, ?_⟩) (by assumption) ?_
      rotate_left
      · (intro w hSw; (try dsimp only at hSw); (try have hTk := Hid.out HTAKE _ hSw); go_simp)
        try (with_reducible rfl)
      rotate_left
      try simp (maxSteps := 4000000) only [Act.put, List.setIfInBounds_toArray, List.set_cons_zero, List.set_cons_succ, List.getElem_toArray, List.getElem_cons_zero, List.getElem_cons_succ]
      refine wpAnyH_take (i := 3) (v := ?_) rfl (by kernel_rfl) (by kernel_rfl) (by kernel_rfl) (fun _ _ _ h => h) (Or.inl ⟨by kernel_rfl, ?_⟩) (by assumption) ?_
      rotate_left
      · (intro w hSw; (try dsimp only at hSw); (try have hTk := Hid.out HTAKE _ hSw); go_simp)
        try (with_reducible rfl)
      rotate_left
      try simp (maxSteps := 4000000) only [Act.put, List.setIfInBounds_toArray, List.set_cons_zero, List.set_cons_succ, List.getElem_toArray, List.getElem_cons_zero, List.getElem_cons_succ]
      refine wpAnyH_take (i := 4) (v := ?_) rfl (by kernel_rfl) (by kernel_rfl) (by kernel_rfl) (fun _ _ _ h => h) (Or.inl ⟨by kernel_rfl, ?_⟩) (by assumption) ?_
      rotate_left
      · (intro w hSw; (try dsimp only at hSw); (try have hTk := Hid.out HTAKE _ hSw); go_simp)
        try (with_reducible rfl)
      rotate_left
      try simp (maxSteps := 4000000) only [Act.put, List.setIfInBounds_toArray, List.set_cons_zero, List.set_cons_succ, List.getElem_toArray, List.getElem_cons_zero, List.getElem_cons_succ]
      refine wpAnyH_take (i := 5) (v := ?_) rfl (by kernel_rfl) (by kernel_rfl) (by kernel_rfl) (fun _ _ _ h => h) (Or.inl ⟨by kernel_rfl, ?_⟩) (by assumption) ?_
      rotate_left
      · (intro w hSw; (try dsimp only at hSw); (try have hTk := Hid.out HTAKE _ hSw); go_simp)
        try (with_reducible rfl)
      rotate_left
      try simp (maxSteps := 4000000) only [Act.put, List.setIfInBounds_toArray, List.set_cons_zero, List.set_cons_succ, List.getElem_toArray, List.getElem_cons_zero, List.getElem_cons_succ]
      refine wpAnyH_take (i := 6) (v := ?_) rfl (by kernel_rfl) (by kernel_rfl) (by kernel_rfl) (fun _ _ _ h => h) (Or.inl ⟨by kernel_rfl, ?_⟩) (by assumption) ?_
      rotate_left
      · (intro w hSw; (try dsimp only at hSw); (try have hTk := Hid.out HTAKE _ hSw); go_simp)
        try (with_reducible rfl)
      rotate_left
      try simp (maxSteps := 4000000) only [Act.put, List.setIfInBounds_toArray, List.set_cons_zero, List.set_cons_succ, List.getElem_toArray, List.getElem_cons_zero, List.getElem_cons_succ]
      refine wpAnyH_take (i := 7) (v := ?_) rfl (by kernel_rfl) (by kernel_rfl) (by kernel_rfl) (fun _ _ _ h => h) (Or.inl ⟨by kernel_rfl, ?_⟩) (by assumption) ?_
      rotate_left
      · (intro w hSw; (try dsimp only at hSw); (try have hTk := Hid.out HTAKE _ hSw); go_simp)
        try (with_reducible rfl)
      rotate_left
      try simp (maxSteps := 4000000) only [Act.put, List.setIfInBounds_toArray, List.set_cons_zero, List.set_cons_succ, List.getElem_toArray, List.getElem_cons_zero, List.getElem_cons_succ]
      refine wpAnyH_take (i := 8) (v := ?_) rfl (by kernel_rfl) (by kernel_rfl) (by kernel_rfl) (fun _ _ _ h => h) (Or.inl ⟨by kernel_rfl, ?_⟩) (by assumption) ?_
      rotate_left
      · (intro w hSw; (try dsimp only at hSw); (try have hTk := Hid.out HTAKE _ hSw); go_simp)
        try (with_reducible rfl)
      rotate_left
      try simp (maxSteps := 4000000) only [Act.put, List.setIfInBounds_toArray, List.set_cons_zero, List.set_cons_succ, List.getElem_toArray, List.getElem_cons_zero, List.getElem_cons_succ]
      refine wpAnyH_take (i := 9) (v := ?_) rfl (by kernel_rfl) (by kernel_rfl) (by kernel_rfl) (fun _ _ _ h => h) (Or.inl ⟨by kernel_rfl, ?_⟩) (by assumption) ?_
      rotate_left
      · (intro w hSw; (try dsimp only at hSw); (try have hTk := Hid.out HTAKE _ hSw); go_simp)
        try (with_reducible rfl)
      rotate_left
      try simp (maxSteps := 4000000) only [Act.put, List.setIfInBounds_toArray, List.set_cons_zero, List.set_cons_succ, List.getElem_toArray, List.getElem_cons_zero, List.getElem_cons_succ]
      refine wpAnyH_take (i := 10) (v := ?_) rfl (by kernel_rfl) (by kernel_rfl) (by kernel_rfl) (fun _ _ _ h => h) (Or.inl ⟨by kernel_rfl, ?_⟩) (by assumption) ?_
      rotate_left
      · (intro w hSw; (try dsimp only at hSw); (try have hTk := Hid.out HTAKE _ hSw); go_simp)
        try (with_reducible rfl)
      rotate_left
      try simp (maxSteps := 4000000) only [Act.put, List.setIfInBounds_toArray, List.set_cons_zero, List.set_cons_succ, List.getElem_toArray, List.getElem_cons_zero, List.getElem_cons_succ]
      refine wpAnyH_take (i := 11) (v := undef) rfl (by kernel_rfl) (by kernel_rfl) (by kernel_rfl) (fun _ _ _ h => h) (Or.inr ⟨by kernel_rfl, rfl⟩) (by assumption) ?_
      try simp (maxSteps := 4000000) only [Act.put, List.setIfInBounds_toArray, List.set_cons_zero, List.set_cons_succ, List.getElem_toArray, List.getElem_cons_zero, List.getElem_cons_succ]
      refine wpAnyH_take (i := 12) (v := undef) rfl (by kernel_rfl) (by kernel_rfl) (by kernel_rfl) (fun _ _ _ h => h) (Or.inr ⟨by kernel_rfl, rfl⟩) (by assumption) ?_
      try simp (maxSteps := 4000000) only [Act.put, List.setIfInBounds_toArray, List.set_cons_zero, List.set_cons_succ, List.getElem_toArray, List.getElem_cons_zero, List.getElem_cons_succ]
      refine wpAnyH_take (i := 13) (v := undef) rfl (by kernel_rfl) (by kernel_rfl) (by kernel_rfl) (fun _ _ _ h => h) (Or.inr ⟨by kernel_rfl, rfl⟩) (by assumption) ?_
      try simp (maxSteps := 4000000) only [Act.put, List.setIfInBounds_toArray, List.set_cons_zero, List.set_cons_succ, List.getElem_toArray, List.getElem_cons_zero, List.getElem_cons_succ]
      refine wpAnyH_take (i := 14) (v := undef) rfl (by kernel_rfl) (by kernel_rfl) (by kernel_rfl) (fun _ _ _ h => h) (Or.inr ⟨by kernel_rfl, rfl⟩) (by assumption) ?_
      try simp (maxSteps := 4000000) only [Act.put, List.setIfInBounds_toArray, List.set_cons_zero, List.set_cons_succ, List.getElem_toArray, List.getElem_cons_zero, List.getElem_cons_succ]
      refine wpAnyH_take (i := 15) (v := undef) rfl (by kernel_rfl) (by kernel_rfl) (by kernel_rfl) (fun _ _ _ h => h) (Or.inr ⟨by kernel_rfl, rfl⟩) (by assumption) ?_
      try simp (maxSteps := 4000000) only [Act.put, List.setIfInBounds_toArray, List.set_cons_zero, List.set_cons_succ, List.getElem_toArray, List.getElem_cons_zero, List.getElem_cons_succ]
      refine wpAnyH_take (i := 16) (v := undef) rfl (by kernel_rfl) (by kernel_rfl) (by kernel_rfl) (fun _ _ _ h => h) (Or.inr ⟨by kernel_rfl, rfl⟩) (by assumption) ?_
      try simp (maxSteps := 4000000) only [Act.put, List.setIfInBounds_toArray, List.set_cons_zero, List.set_cons_succ, List.getElem_toArray, List.getElem_cons_zero, List.getElem_cons_succ]
      refine wpAnyH_take (i := 17) (v := undef) rfl (by kernel_rfl) (by kernel_rfl) (by kernel_rfl) (fun _ _ _ h => h) (Or.inr ⟨by kernel_rfl, rfl⟩) (by assumption) ?_
      try simp (maxSteps := 4000000) only [Act.put, List.setIfInBounds_toArray, List.set_cons_zero, List.set_cons_succ, List.getElem_toArray, List.getElem_cons_zero, List.getElem_cons_succ]
      refine wpAnyH_take (i := 18) (v := undef) rfl (by kernel_rfl) (by kernel_rfl) (by kernel_rfl) (fun _ _ _ h => h) (Or.inr ⟨by kernel_rfl, rfl⟩) (by assumption) ?_
      try simp (maxSteps := 4000000) only [Act.put, List.setIfInBounds_toArray, List.set_cons_zero, List.set_cons_succ, List.getElem_toArray, List.getElem_cons_zero, List.getElem_cons_succ]
      refine wpAnyH_take (i := 19) (v := ?_) rfl (by kernel_rfl) (by kernel_rfl) (by kernel_rfl) (fun _ _ _ h => h) (Or.inl ⟨by kernel_rfl, ?_⟩) (by assumption) ?_
      rotate_left
      · (intro w hSw; (try dsimp only at hSw); (try have hTk := Hid.out HTAKE _ hSw); go_simp)
        try (with_reducible rfl)
      rotate_left
      try simp (maxSteps := 4000000) only [Act.put, List.setIfInBounds_toArray, List.set_cons_zero, List.set_cons_succ, List.getElem_toArray, List.getElem_cons_zero, List.getElem_cons_succ]
      refine wpAnyH_done (by kernel_rfl) ?_ _
      clear hHeld HTAKE
      have hbq := (Below.refl w6.heap.size w6).drew
      have HP7 := Lib.hid (HP6.out.later hbq)
      have HX67 := Lib.hid (HX66.out.below hbq)
      have HZ7 := Lib.hid (HZ.out.below hbq)
      clear hbq
      generalize hw7 : w6.drew = w7 at *
      clear hw7
      obtain ⟨-, a0', a1, a2, a3, a4, a5, -⟩ := HX67.out
      go_wp2_with fail
      with_reducible refine Calls.mono (hload_none b1 l1 (C : Int) p1 t1 true HP7.out.half.mem HE.out (by rw [HGC.out, Int.toNat_natCast]; exact HK.out)) ?_
      rintro e w8 ⟨rfl, hb8⟩
      have HP8 := Lib.hid (HP7.out.later hb8)
      have HZ8 := Lib.hid (HZ7.out.below hb8)
      clear hb8 a0' a1 a2 a3 a4 a5
      go_upto_region 35 with (fail)
      have hbq := alc0 w8 (.cells #[.int .i64 (0), .int .i64 (0), .int .i64 (0), .int .i64 (0), .int .i64 (0), .bool (false)] 31)
      have HP9 := Lib.hid (HP8.out.later hbq)
      have HZ9 := Lib.hid (HZ8.out.below hbq)
      have HY9 := Lib.hid (CapAt.new w8 (0) (0) (0) (0) (0) (false) 31)
      clear hbq
      generalize hw9 : World.alloc w8 _ = w9 at *
      generalize w8.heap.size = x12 at *
      clear hw9
      obtain ⟨-, z0, z1, z2, z3, z4, z5, -⟩ := HZ9.out
      obtain ⟨-, y0, y1, y2, y3, y4, y5, -⟩ := HY9.out
      go_wp2_with fail
      go_roundw
      case rel => exact ⟨i + 1, _, _, _, by omega, by omega, by go_num, HP9⟩
      case measure => simp [intOf]; omega
    | true =>
      have HKR : Hid (r.k g = true) := Lib.hid (by rw [HP4.out.lk.kep g HG8.out]; exact hk)
      have HK := Lib.hid hk
      obtain ⟨L1, L2, LD, L4, L5, L3, hv, hok, hD, hkv⟩ := HP4.out.lk.val g HG8.out hk
      have HKV := Lib.hid hkv
      have HCD := Lib.hid (kept_code hok hD)
      have HV6 : Hid (∀ j, j < 6 → ∀ w', RAt a0 w' r → w'.cell? ⟨a0, 2312 + g * 6 + j, none⟩ = some (capv L1 L2 L3 L4 L5 (6 * g + j))) := Lib.hid (fun j hj w' h => by
        rw [show 2312 + g * 6 + j = 2312 + (6 * g + j) by omega, (h.2 _ (by have := HG8.out; omega)).1, RS.cv _ (by have := HG8.out; omega), hv _ (by omega) (by omega)])
      have HVC : Hid (∀ w', RAt a0 w' r → w'.cell? ⟨a0, 2312 + g * 6, none⟩ = some (.int .i64 L1) ∧ w'.cell? ⟨a0, 2312 + g * 6 + 1, none⟩ = some (.int .i64 L2) ∧ w'.cell? ⟨a0, 2312 + g * 6 + 2, none⟩ = some (.int .i64 L3) ∧ w'.cell? ⟨a0, 2312 + g * 6 + 3, none⟩ = some (.int .i64 L4) ∧ w'.cell? ⟨a0, 2312 + g * 6 + 4, none⟩ = some (.int .i64 L5) ∧ w'.cell? ⟨a0, 2312 + g * 6 + 5, none⟩ = some (.bool true)) := Lib.hid (fun w' h => by
        have e : ∀ j, j < 6 → (capC L1 L2 L3 L4 L5)[j]? = some (capv L1 L2 L3 L4 L5 (6 * g + j)) := fun j hj => capC_at L1 L2 L3 L4 L5 g j hj
        refine ⟨(HV6.out 0 (by decide) w' h).trans (e 0 (by decide)).symm, (HV6.out 1 (by decide) w' h).trans (e 1 (by decide)).symm, (HV6.out 2 (by decide) w' h).trans (e 2 (by decide)).symm, (HV6.out 3 (by decide) w' h).trans (e 3 (by decide)).symm, (HV6.out 4 (by decide) w' h).trans (e 4 (by decide)).symm, (HV6.out 5 (by decide) w' h).trans (e 5 (by decide)).symm⟩)
      clear hk hv hok hD hkv HV6
      cases hal : aliveB σ L1 L2 L3 L4 L5 true with
      | false =>
        have HAL : Hid (aliveB σ L1 L2 L3 L4 L5 true = false) := Lib.hid hal
        have HALR : Hid (aliveR r L1 L2 L3 L4 L5 true = false) := Lib.hid (by rw [← HP4.out.lk.alive]; exact hal)
        clear hal
        have HTAKE := Lib.hid (fun (w' : World) (h : RAt a0 w' r ∧ CapAt x6 w' b1 l1 (C : Int) p1 t1 true) => And.intro h.2.2 (And.intro ((h.1.2 (2184 + g) (by have := HG8.out; omega)).1.trans (by rw [RS.ck _ HG8.out, HKR.out])) (HVC.out w' h.1)))
        refine wp_region_held_drew (S := fun w' => RAt a0 w' r ∧ CapAt x6 w' b1 l1 (C : Int) p1 t1 true) (by kernel_rfl) ?_ (fun hHeld => ?_)
        · exact ⟨HP6.out.half.rat.below (Below.refl _ _).drew, HX66.out.drew⟩
        have HRG6 := Lib.hid HP6.out.half.rat.range
        refine wpAnyH_take (i := 0) (v := ?_) rfl (by kernel_rfl) (by kernel_rfl) (by kernel_rfl) (fun _ _ _ h => h) (Or.inl ⟨by kernel_rfl, ?_⟩) (by assumption) ?_
        rotate_left
        · (intro w hSw; (try dsimp only at hSw); (try have hTk := Hid.out HTAKE _ hSw); go_simp)
          try (with_reducible rfl)
        rotate_left
        try simp (maxSteps := 4000000) only [Act.put, List.setIfInBounds_toArray, List.set_cons_zero, List.set_cons_succ]
        refine wpAnyH_take (i := 1) (v := ?_) rfl (by kernel_rfl) (by kernel_rfl) (by kernel_rfl) (fun _ _ _ h => h) (Or.inl ⟨by kernel_rfl, ?_⟩) (by assumption) ?_
        rotate_left
        · (intro w hSw; (try dsimp only at hSw); (try have hTk := Hid.out HTAKE _ hSw); go_simp)
          try (with_reducible rfl)
        rotate_left
        try simp (maxSteps := 4000000) only [Act.put, List.setIfInBounds_toArray, List.set_cons_zero, List.set_cons_succ]
        refine wpAnyH_take (i := 2) (v := ?_) rfl (by kernel_rfl) (by kernel_rfl) (by kernel_rfl) (fun _ _ _ h => h) (Or.inl ⟨by kernel_rfl, ?_⟩) (by assumption) ?_
        rotate_left
        · (intro w hSw; (try dsimp only at hSw); (try have hTk := Hid.out HTAKE _ hSw); go_simp)
          try (with_reducible rfl)
        rotate_left
        try simp (maxSteps := 4000000) only [Act.put, List.setIfInBounds_toArray, List.set_cons_zero, List.set_cons_succ]
        refine wpAnyH_take (i := 3) (v := ?_) rfl (by kernel_rfl) (by kernel_rfl) (by kernel_rfl) (fun _ _ _ h => h) (Or.inl ⟨by kernel_rfl, ?_⟩) (by assumption) ?_
        rotate_left
        · (intro w hSw; (try dsimp only at hSw); (try have hTk := Hid.out HTAKE _ hSw); go_simp)
          try (with_reducible rfl)
        rotate_left
        try simp (maxSteps := 4000000) only [Act.put, List.setIfInBounds_toArray, List.set_cons_zero, List.set_cons_succ]
        refine wpAnyH_take (i := 4) (v := ?_) rfl (by kernel_rfl) (by kernel_rfl) (by kernel_rfl) (fun _ _ _ h => h) (Or.inl ⟨by kernel_rfl, ?_⟩) (by assumption) ?_
        rotate_left
        · (intro w hSw; (try dsimp only at hSw); (try have hTk := Hid.out HTAKE _ hSw); go_simp)
          try (with_reducible rfl)
        rotate_left
        try simp (maxSteps := 4000000) only [Act.put, List.setIfInBounds_toArray, List.set_cons_zero, List.set_cons_succ]
        refine wpAnyH_take (i := 5) (v := ?_) rfl (by kernel_rfl) (by kernel_rfl) (by kernel_rfl) (fun _ _ _ h => h) (Or.inl ⟨by kernel_rfl, ?_⟩) (by assumption) ?_
        rotate_left
        · (intro w hSw; (try dsimp only at hSw); (try have hTk := Hid.out HTAKE _ hSw); go_simp)
          try (with_reducible rfl)
        rotate_left
        try simp (maxSteps := 4000000) only [Act.put, List.setIfInBounds_toArray, List.set_cons_zero, List.set_cons_succ]
        refine wpAnyH_take (i := 6) (v := ?_) rfl (by kernel_rfl) (by kernel_rfl) (by kernel_rfl) (fun _ _ _ h => h) (Or.inl ⟨by kernel_rfl, ?_⟩) (by assumption) ?_
        rotate_left
        · (intro w hSw; (try dsimp only at hSw); (try have hTk := Hid.out HTAKE _ hSw); go_simp)
          try (with_reducible rfl)
        rotate_left
        try simp (maxSteps := 4000000) only [Act.put, List.setIfInBounds_toArray, List.set_cons_zero, List.set_cons_succ]
        refine wpAnyH_take (i := 7) (v := ?_) rfl (by kernel_rfl) (by kernel_rfl) (by kernel_rfl) (fun _ _ _ h => h) (Or.inl ⟨by kernel_rfl, ?_⟩) (by assumption) ?_
        rotate_left
        · (intro w hSw; (try dsimp only at hSw); (try have hTk := Hid.out HTAKE _ hSw); go_simp)
          try (with_reducible rfl)
        rotate_left
        try simp (maxSteps := 4000000) only [Act.put, List.setIfInBounds_toArray, List.set_cons_zero, List.set_cons_succ]
        refine wpAnyH_take (i := 8) (v := ?_) rfl (by kernel_rfl) (by kernel_rfl) (by kernel_rfl) (fun _ _ _ h => h) (Or.inl ⟨by kernel_rfl, ?_⟩) (by assumption) ?_
        rotate_left
        · (intro w hSw; (try dsimp only at hSw); (try have hTk := Hid.out HTAKE _ hSw); go_simp)
          try (with_reducible rfl)
        rotate_left
        try simp (maxSteps := 4000000) only [Act.put, List.setIfInBounds_toArray, List.set_cons_zero, List.set_cons_succ]
        refine wpAnyH_take (i := 9) (v := ?_) rfl (by kernel_rfl) (by kernel_rfl) (by kernel_rfl) (fun _ _ _ h => h) (Or.inl ⟨by kernel_rfl, ?_⟩) (by assumption) ?_
        rotate_left
        · (intro w hSw; (try dsimp only at hSw); (try have hTk := Hid.out HTAKE _ hSw); go_simp)
          try (with_reducible rfl)
        rotate_left
        try simp (maxSteps := 4000000) only [Act.put, List.setIfInBounds_toArray, List.set_cons_zero, List.set_cons_succ]
        refine wpAnyH_take (i := 10) (v := ?_) rfl (by kernel_rfl) (by kernel_rfl) (by kernel_rfl) (fun _ _ _ h => h) (Or.inl ⟨by kernel_rfl, ?_⟩) (by assumption) ?_
        rotate_left
        · (intro w hSw; (try dsimp only at hSw); (try have hTk := Hid.out HTAKE _ hSw); go_simp)
          try (with_reducible rfl)
        rotate_left
        try simp (maxSteps := 4000000) only [Act.put, List.setIfInBounds_toArray, List.set_cons_zero, List.set_cons_succ]
        refine wpAnyH_take (i := 12) (v := ?_) rfl (by kernel_rfl) (by kernel_rfl) (by kernel_rfl) (fun _ _ _ h => h) (Or.inl ⟨by kernel_rfl, ?_⟩) (by assumption) ?_
        rotate_left
        · (intro w hSw; (try dsimp only at hSw); (try have hTk := Hid.out HTAKE _ hSw); go_simp)
          try (with_reducible rfl)
        rotate_left
        try simp (maxSteps := 4000000) only [Act.put, List.setIfInBounds_toArray, List.set_cons_zero, List.set_cons_succ]
        refine wpAnyH_take (i := 13) (v := ?_) rfl (by kernel_rfl) (by kernel_rfl) (by kernel_rfl) (fun _ _ _ h => h) (Or.inl ⟨by kernel_rfl, ?_⟩) (by assumption) ?_
        rotate_left
        · (intro w hSw; (try dsimp only at hSw); (try have hTk := Hid.out HTAKE _ hSw); go_simp)
          try (with_reducible rfl)
        rotate_left
        try simp (maxSteps := 4000000) only [Act.put, List.setIfInBounds_toArray, List.set_cons_zero, List.set_cons_succ]
        refine wpAnyH_take (i := 14) (v := ?_) rfl (by kernel_rfl) (by kernel_rfl) (by kernel_rfl) (fun _ _ _ h => h) (Or.inl ⟨by kernel_rfl, ?_⟩) (by assumption) ?_
        rotate_left
        · (intro w hSw; (try dsimp only at hSw); (try have hTk := Hid.out HTAKE _ hSw); go_simp)
          try (with_reducible rfl)
        rotate_left
        try simp (maxSteps := 4000000) only [Act.put, List.setIfInBounds_toArray, List.set_cons_zero, List.set_cons_succ]
        refine wpAnyH_take (i := 15) (v := ?_) rfl (by kernel_rfl) (by kernel_rfl) (by kernel_rfl) (fun _ _ _ h => h) (Or.inl ⟨by kernel_rfl, ?_⟩) (by assumption) ?_
        rotate_left
        · (intro w hSw; (try dsimp only at hSw); (try have hTk := Hid.out HTAKE _ hSw); go_simp)
          try (with_reducible rfl)
        rotate_left
        try simp (maxSteps := 4000000) only [Act.put, List.setIfInBounds_toArray, List.set_cons_zero, List.set_cons_succ]
        refine wpAnyH_take (i := 16) (v := ?_) rfl (by kernel_rfl) (by kernel_rfl) (by kernel_rfl) (fun _ _ _ h => h) (Or.inl ⟨by kernel_rfl, ?_⟩) (by assumption) ?_
        rotate_left
        · (intro w hSw; (try dsimp only at hSw); (try have hTk := Hid.out HTAKE _ hSw); go_simp)
          try (with_reducible rfl)
        rotate_left
        try simp (maxSteps := 4000000) only [Act.put, List.setIfInBounds_toArray, List.set_cons_zero, List.set_cons_succ]
        refine wpAnyH_take (i := 17) (v := ?_) rfl (by kernel_rfl) (by kernel_rfl) (by kernel_rfl) (fun _ _ _ h => h) (Or.inl ⟨by kernel_rfl, ?_⟩) (by assumption) ?_
        rotate_left
        · (intro w hSw; (try dsimp only at hSw); (try have hTk := Hid.out HTAKE _ hSw); go_simp)
          try (with_reducible rfl)
        rotate_left
        try simp (maxSteps := 4000000) only [Act.put, List.setIfInBounds_toArray, List.set_cons_zero, List.set_cons_succ]
        refine wpAnyH_take (i := 11) (v := .agg r.l.toArray) rfl (by kernel_rfl) (by kernel_rfl) (by kernel_rfl) (fun _ _ _ h => h) ?qg6false ?qg7false ?qg8false
        case qg6false =>
          refine yieldsIf_load_mid ?qgafalse 34 (.tmp 4) rfl a0 0 ?qgcfalse r.l _ ?qgdfalse Tryd.underlying34 rfl ?qgffalse
          case qgafalse => kernel_rfl
          case qgcfalse => (first | go_simp | kernel_rfl)
          case qgdfalse => exact fun w h => h.1.range
          case qgffalse => exact RS.info r
        case qg7false => exact hHeld
        case qg8false =>
        try simp (maxSteps := 4000000) only [Act.put, List.setIfInBounds_toArray, List.set_cons_zero, List.set_cons_succ]
        refine wpAnyH_ready (rs := [18]) (by kernel_rfl) (by simp) ?_
        refine AllReadyH.cons rfl (fun K2 hK2 => ?_) AllReadyH.nil
        go_simp
        with_reducible refine Calls.mono (ralive false r HP4.out.half.one L1 L2 L3 L4 L5 true w6.drew HALR.out) ?_
        rintro e w7 ⟨rfl, hb7⟩
        have hbq : Below w6.heap.size w6 w7 := thn (Below.refl _ _).drew hb7
        have HP7 := Lib.hid (HP6.out.later hbq)
        have HX67 := Lib.hid (HX66.out.below hbq)
        have HZ7 := Lib.hid (HZ.out.below hbq)
        clear hb7 hbq
        refine hK2.out _ _ (⟨HP7.out.half.rat, HX67.out⟩) (fun hHeld2 => ?_)
        clear hK2 K2 hHeld
        have hHeld := hHeld2
        clear hHeld2
        try simp (maxSteps := 4000000) only [Act.put, List.setIfInBounds_toArray, List.set_cons_zero, List.set_cons_succ]
        refine wpAnyH_take (i := 19) (v := ?_) rfl (by kernel_rfl) (by kernel_rfl) (by kernel_rfl) (fun _ _ _ h => h) (Or.inl ⟨by kernel_rfl, ?_⟩) (by assumption) ?_
        rotate_left
        · (intro w hSw; (try dsimp only at hSw); (try have hTk := Hid.out HTAKE _ hSw); go_simp)
          try (with_reducible rfl)
        rotate_left
        try simp (maxSteps := 4000000) only [Act.put, List.setIfInBounds_toArray, List.set_cons_zero, List.set_cons_succ, List.getElem_toArray, List.getElem_cons_zero, List.getElem_cons_succ]
        refine wpAnyH_done (by kernel_rfl) ?_ _
        clear hHeld HTAKE
        obtain ⟨-, a0', a1, a2, a3, a4, a5, -⟩ := HX67.out
        go_wp2_with fail
        with_reducible refine Calls.mono (hload_dead b1 l1 (C : Int) p1 t1 true g (codeF L1 L2 LD L4 L5) HP7.out.half.mem HE.out HGC.out HK.out HKV.out HCD.out.2.2.2.2.2.2 L1 L2 L4 L5 L3 ⟨HCD.out.1, HCD.out.2.1, HCD.out.2.2.1, HCD.out.2.2.2.1, HCD.out.2.2.2.2.1, HCD.out.2.2.2.2.2.1, HAL.out⟩) ?_
        rintro e w8 ⟨rfl, hb8⟩
        have HP8 := Lib.hid (HP7.out.later hb8)
        have HZ8 := Lib.hid (HZ7.out.below hb8)
        clear hb8 a0' a1 a2 a3 a4 a5
        go_upto_region 35 with (fail)
        have hbq := alc0 w8 (.cells #[.int .i64 (0), .int .i64 (0), .int .i64 (0), .int .i64 (0), .int .i64 (0), .bool (false)] 31)
        have HP9 := Lib.hid (HP8.out.later hbq)
        have HZ9 := Lib.hid (HZ8.out.below hbq)
        have HY9 := Lib.hid (CapAt.new w8 (0) (0) (0) (0) (0) (false) 31)
        clear hbq
        generalize hw9 : World.alloc w8 _ = w9 at *
        generalize w8.heap.size = x12 at *
        clear hw9
        obtain ⟨-, z0, z1, z2, z3, z4, z5, -⟩ := HZ9.out
        obtain ⟨-, y0, y1, y2, y3, y4, y5, -⟩ := HY9.out
        go_wp2_with fail
        go_roundw
        case rel => exact ⟨i + 1, _, _, _, by omega, by omega, by go_num, HP9⟩
        case measure => simp [intOf]; omega
      | true =>
        have HAL : Hid (aliveB σ L1 L2 L3 L4 L5 true = true) := Lib.hid hal
        have HALR : Hid (aliveR r L1 L2 L3 L4 L5 true = true) := Lib.hid (by rw [← HP4.out.lk.alive]; exact hal)
        clear hal
        have HTAKE := Lib.hid (fun (w' : World) (h : RAt a0 w' r ∧ CapAt x6 w' b1 l1 (C : Int) p1 t1 true) => And.intro h.2.2 (And.intro ((h.1.2 (2184 + g) (by have := HG8.out; omega)).1.trans (by rw [RS.ck _ HG8.out, HKR.out])) (HVC.out w' h.1)))
        refine wp_region_held_drew (S := fun w' => RAt a0 w' r ∧ CapAt x6 w' b1 l1 (C : Int) p1 t1 true) (by kernel_rfl) ?_ (fun hHeld => ?_)
        · exact ⟨HP6.out.half.rat.below (Below.refl _ _).drew, HX66.out.drew⟩
        have HRG6 := Lib.hid HP6.out.half.rat.range
        refine wpAnyH_take (i := 0) (v := ?_) rfl (by kernel_rfl) (by kernel_rfl) (by kernel_rfl) (fun _ _ _ h => h) (Or.inl ⟨by kernel_rfl, ?_⟩) (by assumption) ?_
        rotate_left
        · (intro w hSw; (try dsimp only at hSw); (try have hTk := Hid.out HTAKE _ hSw); go_simp)
          try (with_reducible rfl)
        rotate_left
        try simp (maxSteps := 4000000) only [Act.put, List.setIfInBounds_toArray, List.set_cons_zero, List.set_cons_succ]
        refine wpAnyH_take (i := 1) (v := ?_) rfl (by kernel_rfl) (by kernel_rfl) (by kernel_rfl) (fun _ _ _ h => h) (Or.inl ⟨by kernel_rfl, ?_⟩) (by assumption) ?_
        rotate_left
        · (intro w hSw; (try dsimp only at hSw); (try have hTk := Hid.out HTAKE _ hSw); go_simp)
          try (with_reducible rfl)
        rotate_left
        try simp (maxSteps := 4000000) only [Act.put, List.setIfInBounds_toArray, List.set_cons_zero, List.set_cons_succ]
        refine wpAnyH_take (i := 2) (v := ?_) rfl (by kernel_rfl) (by kernel_rfl) (by kernel_rfl) (fun _ _ _ h => h) (Or.inl ⟨by kernel_rfl, ?_⟩) (by assumption) ?_
        rotate_left
        · (intro w hSw; (try dsimp only at hSw); (try have hTk := Hid.out HTAKE _ hSw); go_simp)
          try (with_reducible rfl)
        rotate_left
        try simp (maxSteps := 4000000) only [Act.put, List.setIfInBounds_toArray, List.set_cons_zero, List.set_cons_succ]
        refine wpAnyH_take (i := 3) (v := ?_) rfl (by kernel_rfl) (by kernel_rfl) (by kernel_rfl) (fun _ _ _ h => h) (Or.inl ⟨by kernel_rfl, ?_⟩) (by assumption) ?_
        rotate_left
        · (intro w hSw; (try dsimp only at hSw); (try have hTk := Hid.out HTAKE _ hSw); go_simp)
          try (with_reducible rfl)
        rotate_left
        try simp (maxSteps := 4000000) only [Act.put, List.setIfInBounds_toArray, List.set_cons_zero, List.set_cons_succ]
        refine wpAnyH_take (i := 4) (v := ?_) rfl (by kernel_rfl) (by kernel_rfl) (by kernel_rfl) (fun _ _ _ h => h) (Or.inl ⟨by kernel_rfl, ?_⟩) (by assumption) ?_
        rotate_left
        · (intro w hSw; (try dsimp only at hSw); (try have hTk := Hid.out HTAKE _ hSw); go_simp)
          try (with_reducible rfl)
        rotate_left
        try simp (maxSteps := 4000000) only [Act.put, List.setIfInBounds_toArray, List.set_cons_zero, List.set_cons_succ]
        refine wpAnyH_take (i := 5) (v := ?_) rfl (by kernel_rfl) (by kernel_rfl) (by kernel_rfl) (fun _ _ _ h => h) (Or.inl ⟨by kernel_rfl, ?_⟩) (by assumption) ?_
        rotate_left
        · (intro w hSw; (try dsimp only at hSw); (try have hTk := Hid.out HTAKE _ hSw); go_simp)
          try (with_reducible rfl)
        rotate_left
        try simp (maxSteps := 4000000) only [Act.put, List.setIfInBounds_toArray, List.set_cons_zero, List.set_cons_succ]
        refine wpAnyH_take (i := 6) (v := ?_) rfl (by kernel_rfl) (by kernel_rfl) (by kernel_rfl) (fun _ _ _ h => h) (Or.inl ⟨by kernel_rfl, ?_⟩) (by assumption) ?_
        rotate_left
        · (intro w hSw; (try dsimp only at hSw); (try have hTk := Hid.out HTAKE _ hSw); go_simp)
          try (with_reducible rfl)
        rotate_left
        try simp (maxSteps := 4000000) only [Act.put, List.setIfInBounds_toArray, List.set_cons_zero, List.set_cons_succ]
        refine wpAnyH_take (i := 7) (v := ?_) rfl (by kernel_rfl) (by kernel_rfl) (by kernel_rfl) (fun _ _ _ h => h) (Or.inl ⟨by kernel_rfl, ?_⟩) (by assumption) ?_
        rotate_left
        · (intro w hSw; (try dsimp only at hSw); (try have hTk := Hid.out HTAKE _ hSw); go_simp)
          try (with_reducible rfl)
        rotate_left
        try simp (maxSteps := 4000000) only [Act.put, List.setIfInBounds_toArray, List.set_cons_zero, List.set_cons_succ]
        refine wpAnyH_take (i := 8) (v := ?_) rfl (by kernel_rfl) (by kernel_rfl) (by kernel_rfl) (fun _ _ _ h => h) (Or.inl ⟨by kernel_rfl, ?_⟩) (by assumption) ?_
        rotate_left
        · (intro w hSw; (try dsimp only at hSw); (try have hTk := Hid.out HTAKE _ hSw); go_simp)
          try (with_reducible rfl)
        rotate_left
        try simp (maxSteps := 4000000) only [Act.put, List.setIfInBounds_toArray, List.set_cons_zero, List.set_cons_succ]
        refine wpAnyH_take (i := 9) (v := ?_) rfl (by kernel_rfl) (by kernel_rfl) (by kernel_rfl) (fun _ _ _ h => h) (Or.inl ⟨by kernel_rfl, ?_⟩) (by assumption) ?_
        rotate_left
        · (intro w hSw; (try dsimp only at hSw); (try have hTk := Hid.out HTAKE _ hSw); go_simp)
          try (with_reducible rfl)
        rotate_left
        try simp (maxSteps := 4000000) only [Act.put, List.setIfInBounds_toArray, List.set_cons_zero, List.set_cons_succ]
        refine wpAnyH_take (i := 10) (v := ?_) rfl (by kernel_rfl) (by kernel_rfl) (by kernel_rfl) (fun _ _ _ h => h) (Or.inl ⟨by kernel_rfl, ?_⟩) (by assumption) ?_
        rotate_left
        · (intro w hSw; (try dsimp only at hSw); (try have hTk := Hid.out HTAKE _ hSw); go_simp)
          try (with_reducible rfl)
        rotate_left
        try simp (maxSteps := 4000000) only [Act.put, List.setIfInBounds_toArray, List.set_cons_zero, List.set_cons_succ]
        refine wpAnyH_take (i := 12) (v := ?_) rfl (by kernel_rfl) (by kernel_rfl) (by kernel_rfl) (fun _ _ _ h => h) (Or.inl ⟨by kernel_rfl, ?_⟩) (by assumption) ?_
        rotate_left
        · (intro w hSw; (try dsimp only at hSw); (try have hTk := Hid.out HTAKE _ hSw); go_simp)
          try (with_reducible rfl)
        rotate_left
        try simp (maxSteps := 4000000) only [Act.put, List.setIfInBounds_toArray, List.set_cons_zero, List.set_cons_succ]
        refine wpAnyH_take (i := 13) (v := ?_) rfl (by kernel_rfl) (by kernel_rfl) (by kernel_rfl) (fun _ _ _ h => h) (Or.inl ⟨by kernel_rfl, ?_⟩) (by assumption) ?_
        rotate_left
        · (intro w hSw; (try dsimp only at hSw); (try have hTk := Hid.out HTAKE _ hSw); go_simp)
          try (with_reducible rfl)
        rotate_left
        try simp (maxSteps := 4000000) only [Act.put, List.setIfInBounds_toArray, List.set_cons_zero, List.set_cons_succ]
        refine wpAnyH_take (i := 14) (v := ?_) rfl (by kernel_rfl) (by kernel_rfl) (by kernel_rfl) (fun _ _ _ h => h) (Or.inl ⟨by kernel_rfl, ?_⟩) (by assumption) ?_
        rotate_left
        · (intro w hSw; (try dsimp only at hSw); (try have hTk := Hid.out HTAKE _ hSw); go_simp)
          try (with_reducible rfl)
        rotate_left
        try simp (maxSteps := 4000000) only [Act.put, List.setIfInBounds_toArray, List.set_cons_zero, List.set_cons_succ]
        refine wpAnyH_take (i := 15) (v := ?_) rfl (by kernel_rfl) (by kernel_rfl) (by kernel_rfl) (fun _ _ _ h => h) (Or.inl ⟨by kernel_rfl, ?_⟩) (by assumption) ?_
        rotate_left
        · (intro w hSw; (try dsimp only at hSw); (try have hTk := Hid.out HTAKE _ hSw); go_simp)
          try (with_reducible rfl)
        rotate_left
        try simp (maxSteps := 4000000) only [Act.put, List.setIfInBounds_toArray, List.set_cons_zero, List.set_cons_succ]
        refine wpAnyH_take (i := 16) (v := ?_) rfl (by kernel_rfl) (by kernel_rfl) (by kernel_rfl) (fun _ _ _ h => h) (Or.inl ⟨by kernel_rfl, ?_⟩) (by assumption) ?_
        rotate_left
        · (intro w hSw; (try dsimp only at hSw); (try have hTk := Hid.out HTAKE _ hSw); go_simp)
          try (with_reducible rfl)
        rotate_left
        try simp (maxSteps := 4000000) only [Act.put, List.setIfInBounds_toArray, List.set_cons_zero, List.set_cons_succ]
        refine wpAnyH_take (i := 17) (v := ?_) rfl (by kernel_rfl) (by kernel_rfl) (by kernel_rfl) (fun _ _ _ h => h) (Or.inl ⟨by kernel_rfl, ?_⟩) (by assumption) ?_
        rotate_left
        · (intro w hSw; (try dsimp only at hSw); (try have hTk := Hid.out HTAKE _ hSw); go_simp)
          try (with_reducible rfl)
        rotate_left
        try simp (maxSteps := 4000000) only [Act.put, List.setIfInBounds_toArray, List.set_cons_zero, List.set_cons_succ]
        refine wpAnyH_take (i := 11) (v := .agg r.l.toArray) rfl (by kernel_rfl) (by kernel_rfl) (by kernel_rfl) (fun _ _ _ h => h) ?qg6true ?qg7true ?qg8true
        case qg6true =>
          refine yieldsIf_load_mid ?qgatrue 34 (.tmp 4) rfl a0 0 ?qgctrue r.l _ ?qgdtrue Tryd.underlying34 rfl ?qgftrue
          case qgatrue => kernel_rfl
          case qgctrue => (first | go_simp | kernel_rfl)
          case qgdtrue => exact fun w h => h.1.range
          case qgftrue => exact RS.info r
        case qg7true => exact hHeld
        case qg8true =>
        try simp (maxSteps := 4000000) only [Act.put, List.setIfInBounds_toArray, List.set_cons_zero, List.set_cons_succ]
        refine wpAnyH_ready (rs := [18]) (by kernel_rfl) (by simp) ?_
        refine AllReadyH.cons rfl (fun K2 hK2 => ?_) AllReadyH.nil
        go_simp
        with_reducible refine Calls.mono (ralive true r HP4.out.half.one L1 L2 L3 L4 L5 true w6.drew HALR.out) ?_
        rintro e w7 ⟨rfl, hb7⟩
        have hbq : Below w6.heap.size w6 w7 := thn (Below.refl _ _).drew hb7
        have HP7 := Lib.hid (HP6.out.later hbq)
        have HX67 := Lib.hid (HX66.out.below hbq)
        have HZ7 := Lib.hid (HZ.out.below hbq)
        clear hb7 hbq
        refine hK2.out _ _ (⟨HP7.out.half.rat, HX67.out⟩) (fun hHeld2 => ?_)
        clear hK2 K2 hHeld
        have hHeld := hHeld2
        clear hHeld2
        try simp (maxSteps := 4000000) only [Act.put, List.setIfInBounds_toArray, List.set_cons_zero, List.set_cons_succ]
        refine wpAnyH_take (i := 19) (v := ?_) rfl (by kernel_rfl) (by kernel_rfl) (by kernel_rfl) (fun _ _ _ h => h) (Or.inl ⟨by kernel_rfl, ?_⟩) (by assumption) ?_
        rotate_left
        · (intro w hSw; (try dsimp only at hSw); (try have hTk := Hid.out HTAKE _ hSw); go_simp)
          try (with_reducible rfl)
        rotate_left
        try simp (maxSteps := 4000000) only [Act.put, List.setIfInBounds_toArray, List.set_cons_zero, List.set_cons_succ, List.getElem_toArray, List.getElem_cons_zero, List.getElem_cons_succ]
        refine wpAnyH_done (by kernel_rfl) ?_ _
        clear hHeld HTAKE
        obtain ⟨v0', v1, v2, v3, v4, v5⟩ := HVC.out w7 HP7.out.half.rat
        obtain ⟨-, a0', a1, a2, a3, a4, a5, -⟩ := HX67.out
        obtain ⟨-, z0, z1, z2, z3, z4, z5, -⟩ := HZ7.out
        obtain ⟨f0, f1, f2, f3, f4, f5⟩ := HZ7.out.fz
        go_upto_region 34 with (fail)
        obtain ⟨w7', hw7, hz7, hs7, hk7, hb7⟩ := cap_st HZ7.out (Nat.le_refl x11) (Below.refl x11 w7) (L1 : Int) (L2 : Int) L3 (L4 : Int) (L5 : Int) true
        rw [hw7]
        have hob : OB x11 w7 w7' := by rw [← hw7]; exact (((((ob_set x11 0 w7 _).trans (ob_set x11 1 _ _) (.inl rfl)).trans (ob_set x11 2 _ _) (.inl rfl)).trans (ob_set x11 3 _ _) (.inl rfl)).trans (ob_set x11 4 _ _) (.inl rfl)).trans (ob_set x11 5 _ _) (.inl rfl)
        have HP7' := Lib.hid (MH.mk (half_ob HP7.out.half hob HZ0.out HZA.out HZB.out.1) HP7.out.lk HP7.out.pg)
        have HX67' := Lib.hid (HX67.out.keep (Nat.le_of_eq hs7.symm) (hk7 _ HZB.out.2))
        have HZ7' := Lib.hid hz7
        clear hw7 hz7 hs7 hk7 hb7 hob HP7 HX67 HZ7 v0' v1 v2 v3 v4 v5 a0' a1 a2 a3 a4 a5 z0 z1 z2 z3 z4 z5 f0 f1 f2 f3 f4 f5
        have HP7 := HP7'
        have HX67 := HX67'
        have HZ7 := HZ7'
        clear HP7' HX67' HZ7'
        obtain ⟨-, a0', a1, a2, a3, a4, a5, -⟩ := HX67.out
        go_wp2_with fail
        with_reducible refine Calls.mono (hload_live b1 l1 (C : Int) p1 t1 true g (codeF L1 L2 LD L4 L5) HP7.out.half.mem HE.out HGC.out HK.out HKV.out HCD.out.2.2.2.2.2.2 L1 L2 L4 L5 L3 ⟨HCD.out.1, HCD.out.2.1, HCD.out.2.2.1, HCD.out.2.2.2.1, HCD.out.2.2.2.2.1, HCD.out.2.2.2.2.2.1, HAL.out⟩) ?_
        rintro e w8 ⟨rfl, hb8⟩
        have HP8 := Lib.hid (HP7.out.later hb8)
        have HZ8 := Lib.hid (HZ7.out.below hb8)
        clear hb8 a0' a1 a2 a3 a4 a5
        go_upto_region 35 with (fail)
        have hbq := alc0 w8 (.cells #[.int .i64 ((L1 : Int)), .int .i64 ((L2 : Int)), .int .i64 (L3), .int .i64 ((L4 : Int)), .int .i64 ((L5 : Int)), .bool (true)] 31)
        have HP9 := Lib.hid (HP8.out.later hbq)
        have HZ9 := Lib.hid (HZ8.out.below hbq)
        have HY9 := Lib.hid (CapAt.new w8 ((L1 : Int)) ((L2 : Int)) (L3) ((L4 : Int)) ((L5 : Int)) (true) 31)
        clear hbq
        generalize hw9 : World.alloc w8 _ = w9 at *
        generalize w8.heap.size = x12 at *
        clear hw9
        obtain ⟨-, z0, z1, z2, z3, z4, z5, -⟩ := HZ9.out
        obtain ⟨-, y0, y1, y2, y3, y4, y5, -⟩ := HY9.out
        go_wp2_with fail
        go_roundw
        case rel => exact ⟨i + 1, _, _, _, by omega, by omega, by go_num, HP9⟩
        case measure => simp [intOf]; omega
  · have h6 : (E == 0) = false := by simpa using h0
    refine wp_region_held_drew (S := fun w' => True) (by kernel_rfl) trivial (fun hHeld => ?_)
    refine wpAnyH_take (i := 0) (v := ?_) rfl (by kernel_rfl) (by kernel_rfl) (by kernel_rfl) (fun _ _ _ h => h) (Or.inl ⟨by kernel_rfl, ?_⟩) (by assumption) ?_
    rotate_left
    · (intro w hSw; (try dsimp only at hSw); (try have hTk := Hid.out HTAKE _ hSw); go_simp)
      try (with_reducible rfl)
    rotate_left
    try simp (maxSteps := 4000000) only [Act.put, List.setIfInBounds_toArray, List.set_cons_zero, List.set_cons_succ, List.getElem_toArray, List.getElem_cons_zero, List.getElem_cons_succ]
    refine wpAnyH_take (i := 1) (v := ?_) rfl (by kernel_rfl) (by kernel_rfl) (by kernel_rfl) (fun _ _ _ h => h) (Or.inl ⟨by kernel_rfl, ?_⟩) (by assumption) ?_
    rotate_left
    · (intro w hSw; (try dsimp only at hSw); (try have hTk := Hid.out HTAKE _ hSw); go_simp)
      try (with_reducible rfl)
    rotate_left
    try simp (maxSteps := 4000000) only [Act.put, List.setIfInBounds_toArray, List.set_cons_zero, List.set_cons_succ, List.getElem_toArray, List.getElem_cons_zero, List.getElem_cons_succ]
    refine wpAnyH_take (i := 2) (v := ?_) rfl (by kernel_rfl) (by kernel_rfl) (by kernel_rfl) (fun _ _ _ h => h) (Or.inl ⟨by kernel_rfl, ?_⟩) (by assumption) ?_
    rotate_left
    · (intro w hSw; (try dsimp only at hSw); (try have hTk := Hid.out HTAKE _ hSw); go_simp)
      try (with_reducible rfl)
    rotate_left
    try simp (maxSteps := 4000000) only [Act.put, List.setIfInBounds_toArray, List.set_cons_zero, List.set_cons_succ, List.getElem_toArray, List.getElem_cons_zero, List.getElem_cons_succ]
    refine wpAnyH_take (i := 3) (v := undef) rfl (by kernel_rfl) (by kernel_rfl) (by kernel_rfl) (fun _ _ _ h => h) (Or.inr ⟨by kernel_rfl, rfl⟩) (by assumption) ?_
    try simp (maxSteps := 4000000) only [Act.put, List.setIfInBounds_toArray, List.set_cons_zero, List.set_cons_succ, List.getElem_toArray, List.getElem_cons_zero, List.getElem_cons_succ]
    refine wpAnyH_take (i := 4) (v := undef) rfl (by kernel_rfl) (by kernel_rfl) (by kernel_rfl) (fun _ _ _ h => h) (Or.inr ⟨by kernel_rfl, rfl⟩) (by assumption) ?_
    try simp (maxSteps := 4000000) only [Act.put, List.setIfInBounds_toArray, List.set_cons_zero, List.set_cons_succ, List.getElem_toArray, List.getElem_cons_zero, List.getElem_cons_succ]
    refine wpAnyH_take (i := 5) (v := undef) rfl (by kernel_rfl) (by kernel_rfl) (by kernel_rfl) (fun _ _ _ h => h) (Or.inr ⟨by kernel_rfl, rfl⟩) (by assumption) ?_
    try simp (maxSteps := 4000000) only [Act.put, List.setIfInBounds_toArray, List.set_cons_zero, List.set_cons_succ, List.getElem_toArray, List.getElem_cons_zero, List.getElem_cons_succ]
    refine wpAnyH_take (i := 6) (v := undef) rfl (by kernel_rfl) (by kernel_rfl) (by kernel_rfl) (fun _ _ _ h => h) (Or.inr ⟨by kernel_rfl, rfl⟩) (by assumption) ?_
    try simp (maxSteps := 4000000) only [Act.put, List.setIfInBounds_toArray, List.set_cons_zero, List.set_cons_succ, List.getElem_toArray, List.getElem_cons_zero, List.getElem_cons_succ]
    refine wpAnyH_take (i := 7) (v := undef) rfl (by kernel_rfl) (by kernel_rfl) (by kernel_rfl) (fun _ _ _ h => h) (Or.inr ⟨by kernel_rfl, rfl⟩) (by assumption) ?_
    try simp (maxSteps := 4000000) only [Act.put, List.setIfInBounds_toArray, List.set_cons_zero, List.set_cons_succ, List.getElem_toArray, List.getElem_cons_zero, List.getElem_cons_succ]
    refine wpAnyH_take (i := 8) (v := undef) rfl (by kernel_rfl) (by kernel_rfl) (by kernel_rfl) (fun _ _ _ h => h) (Or.inr ⟨by kernel_rfl, rfl⟩) (by assumption) ?_
    try simp (maxSteps := 4000000) only [Act.put, List.setIfInBounds_toArray, List.set_cons_zero, List.set_cons_succ, List.getElem_toArray, List.getElem_cons_zero, List.getElem_cons_succ]
    refine wpAnyH_take (i := 9) (v := ?_) rfl (by kernel_rfl) (by kernel_rfl) (by kernel_rfl) (fun _ _ _ h => h) (Or.inl ⟨by kernel_rfl, ?_⟩) (by assumption) ?_
    rotate_left
    · (intro w hSw; (try dsimp only at hSw); (try have hTk := Hid.out HTAKE _ hSw); go_simp)
      try (with_reducible rfl)
    rotate_left
    try simp (maxSteps := 4000000) only [Act.put, List.setIfInBounds_toArray, List.set_cons_zero, List.set_cons_succ, List.getElem_toArray, List.getElem_cons_zero, List.getElem_cons_succ]
    refine wpAnyH_take (i := 10) (v := ?_) rfl (by kernel_rfl) (by kernel_rfl) (by kernel_rfl) (fun _ _ _ h => h) (Or.inl ⟨by kernel_rfl, ?_⟩) (by assumption) ?_
    rotate_left
    · (intro w hSw; (try dsimp only at hSw); (try have hTk := Hid.out HTAKE _ hSw); go_simp)
      try (with_reducible rfl)
    rotate_left
    try simp (maxSteps := 4000000) only [Act.put, List.setIfInBounds_toArray, List.set_cons_zero, List.set_cons_succ, List.getElem_toArray, List.getElem_cons_zero, List.getElem_cons_succ]
    refine wpAnyH_take (i := 11) (v := undef) rfl (by kernel_rfl) (by kernel_rfl) (by kernel_rfl) (fun _ _ _ h => h) (Or.inr ⟨by kernel_rfl, rfl⟩) (by assumption) ?_
    try simp (maxSteps := 4000000) only [Act.put, List.setIfInBounds_toArray, List.set_cons_zero, List.set_cons_succ, List.getElem_toArray, List.getElem_cons_zero, List.getElem_cons_succ]
    refine wpAnyH_take (i := 12) (v := undef) rfl (by kernel_rfl) (by kernel_rfl) (by kernel_rfl) (fun _ _ _ h => h) (Or.inr ⟨by kernel_rfl, rfl⟩) (by assumption) ?_
    try simp (maxSteps := 4000000) only [Act.put, List.setIfInBounds_toArray, List.set_cons_zero, List.set_cons_succ, List.getElem_toArray, List.getElem_cons_zero, List.getElem_cons_succ]
    refine wpAnyH_take (i := 13) (v := undef) rfl (by kernel_rfl) (by kernel_rfl) (by kernel_rfl) (fun _ _ _ h => h) (Or.inr ⟨by kernel_rfl, rfl⟩) (by assumption) ?_
    try simp (maxSteps := 4000000) only [Act.put, List.setIfInBounds_toArray, List.set_cons_zero, List.set_cons_succ, List.getElem_toArray, List.getElem_cons_zero, List.getElem_cons_succ]
    refine wpAnyH_take (i := 14) (v := undef) rfl (by kernel_rfl) (by kernel_rfl) (by kernel_rfl) (fun _ _ _ h => h) (Or.inr ⟨by kernel_rfl, rfl⟩) (by assumption) ?_
    try simp (maxSteps := 4000000) only [Act.put, List.setIfInBounds_toArray, List.set_cons_zero, List.set_cons_succ, List.getElem_toArray, List.getElem_cons_zero, List.getElem_cons_succ]
    refine wpAnyH_take (i := 15) (v := undef) rfl (by kernel_rfl) (by kernel_rfl) (by kernel_rfl) (fun _ _ _ h => h) (Or.inr ⟨by kernel_rfl, rfl⟩) (by assumption) ?_
    try simp (maxSteps := 4000000) only [Act.put, List.setIfInBounds_toArray, List.set_cons_zero, List.set_cons_succ, List.getElem_toArray, List.getElem_cons_zero, List.getElem_cons_succ]
    refine wpAnyH_take (i := 16) (v := undef) rfl (by kernel_rfl) (by kernel_rfl) (by kernel_rfl) (fun _ _ _ h => h) (Or.inr ⟨by kernel_rfl, rfl⟩) (by assumption) ?_
    try simp (maxSteps := 4000000) only [Act.put, List.setIfInBounds_toArray, List.set_cons_zero, List.set_cons_succ, List.getElem_toArray, List.getElem_cons_zero, List.getElem_cons_succ]
    refine wpAnyH_take (i := 17) (v := undef) rfl (by kernel_rfl) (by kernel_rfl) (by kernel_rfl) (fun _ _ _ h => h) (Or.inr ⟨by kernel_rfl, rfl⟩) (by assumption) ?_
    try simp (maxSteps := 4000000) only [Act.put, List.setIfInBounds_toArray, List.set_cons_zero, List.set_cons_succ, List.getElem_toArray, List.getElem_cons_zero, List.getElem_cons_succ]
    refine wpAnyH_take (i := 18) (v := undef) rfl (by kernel_rfl) (by kernel_rfl) (by kernel_rfl) (fun _ _ _ h => h) (Or.inr ⟨by kernel_rfl, rfl⟩) (by assumption) ?_
    try simp (maxSteps := 4000000) only [Act.put, List.setIfInBounds_toArray, List.set_cons_zero, List.set_cons_succ, List.getElem_toArray, List.getElem_cons_zero, List.getElem_cons_succ]
    refine wpAnyH_take (i := 19) (v := ?_) rfl (by kernel_rfl) (by kernel_rfl) (by kernel_rfl) (fun _ _ _ h => h) (Or.inl ⟨by kernel_rfl, ?_⟩) (by assumption) ?_
    rotate_left
    · (intro w hSw; (try dsimp only at hSw); (try have hTk := Hid.out HTAKE _ hSw); go_simp)
      try (with_reducible rfl)
    rotate_left
    try simp (maxSteps := 4000000) only [Act.put, List.setIfInBounds_toArray, List.set_cons_zero, List.set_cons_succ, List.getElem_toArray, List.getElem_cons_zero, List.getElem_cons_succ]
    refine wpAnyH_done (by kernel_rfl) ?_ _
    clear hHeld
    have hbq := (Below.refl w6.heap.size w6).drew
    have HP7 := Lib.hid (HP6.out.later hbq)
    have HX67 := Lib.hid (HX66.out.below hbq)
    have HZ7 := Lib.hid (HZ.out.below hbq)
    clear hbq
    generalize hw7 : w6.drew = w7 at *
    clear hw7
    obtain ⟨-, a0', a1, a2, a3, a4, a5, -⟩ := HX67.out
    go_wp2_with fail
    with_reducible refine Calls.mono (hload_no E b1 l1 c1 p1 t1 true HP7.out.half.mem HE.out h0) ?_
    rintro e w8 ⟨rfl, hb8⟩
    have HP8 := Lib.hid (HP7.out.later hb8)
    have HZ8 := Lib.hid (HZ7.out.below hb8)
    clear hb8 a0' a1 a2 a3 a4 a5
    go_upto_region 35 with (fail)
    have hbq := alc0 w8 (.cells #[.int .i64 (0), .int .i64 (0), .int .i64 (0), .int .i64 (0), .int .i64 (0), .bool (false)] 31)
    have HP9 := Lib.hid (HP8.out.later hbq)
    have HZ9 := Lib.hid (HZ8.out.below hbq)
    have HY9 := Lib.hid (CapAt.new w8 (0) (0) (0) (0) (0) (false) 31)
    clear hbq
    generalize hw9 : World.alloc w8 _ = w9 at *
    generalize w8.heap.size = x12 at *
    clear hw9
    obtain ⟨-, z0, z1, z2, z3, z4, z5, -⟩ := HZ9.out
    obtain ⟨-, y0, y1, y2, y3, y4, y5, -⟩ := HY9.out
    go_wp2_with fail
    go_roundw
    case rel => exact ⟨i + 1, _, _, _, by omega, by omega, by go_num, HP9⟩
    case measure => simp [intOf]; omega
end Go.Proofs.YtgidnmjeifgciaaDoor
