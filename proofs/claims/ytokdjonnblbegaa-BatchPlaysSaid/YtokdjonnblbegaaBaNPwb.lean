/- A part of the walk. -/
import Derived.Test.YtokdjonnblbegaaBaNS
import Derived.Deep.RegionHeld3
import Derived.Deep.DeepCutAuto
import Derived.Deep.CutBlock
import Derived.RegionTactic
import Derived.BigRegion
namespace Go.Proofs.Ytokdjonnblbegaa
set_option maxRecDepth 100000
open Go.RowKit Go.Maps
set_option linter.unusedVariables false
set_option linter.unusedSimpArgs false

set_option maxHeartbeats 6400000 in
theorem bpStep_wb : bpStep.2.1 := by
  intro n l0 c0 W sz HSZ hsz1 hsz2 N ll0 HN yyn0 u22 u23 u24 u25 u26 u27 yyn1 yyn2 yyn3 yyn4 yyn5 yyn6 yyn7 yyn8 yyn9 yyn10 yyn11 yyn12 yyn13 yyn14 yyn15 yyn16 yyn17 yyn18 yyn19 yyn20 yyn21 yyn22 yyn23 yyn24 yyn25 yyn26 yyn27 yyn28 yyn29 yyn30 yyn31 yyn32 yyn33 yyn34 yyn35 yyn36 yyn37 yyn38 yyn39 yyn40 yyn41 yyn42 yyn43 yyn44 yyn45 yyn46 yyn47 yyn48 yyn49 yyn50 yyn51 yyn52 yyn53 yyn54 yyn55 yyn56 yyn57 yyn58 yyn59 yyn60 yyn61 yyn62 yyn63 yyn64 yyn65 yyn66 yyn67 yyn68 yyn69 yyn70 yyn71 yyn72 yyn73 yyn74 yyn75 yyn76 yyn77 yyn78 yyn79 yyn80 yyn81 yyn82 yyn83 yyn84 yyn85 yyn86 yyn87 yyn88 yyn89 yyn90 yyn91 yyn92 yyn93 yyn94 yyn95 yyn96 yyn97 yyn98 yyn99 yyn100 yyn101 yyn102 yyn103 yyn104 yyn105 yyn106 yyn107 yyn108 yyn109 yyn110 yyn111 yyn112 yyn113 yyn114 yyn115 yyn116 yyn117 yyn118 yyn119 yyn120 yyn121 yyn122 yyn123 yyn124 yyn125 yyn126 yyn127 yyn128 yyn129 yyn130 yyn131 yyn132 yyn133 yyn134 yyn135 yyn136 yyn137 yyn138 yyn139 yyn140 yyn141 yyn142 yyn143 yyn144 yyn145 yyn146 yyn147 yyn148 yyn149 yyn150 yyn151 yyn152 yyn153 yyn154 yyn155 yyn156 yyn157 yyn158 yyn159 yyn160 yyn161 yyn162 yyn163 yyn164 yyn165 yyn166 u197 u198 u199 u200 u201 u202 u203 u204 u205 u206 u207 u208 u209 u210 u211 u212 u213 u214 u215 u216 u217 u218 u219 u220 u221 u222 u223 u224 u225 u226 u227 u228 w1 yyn167 yyn168 w2 p HP wr u4 u7 u9 u10 u11 u12 u13 u14 u15 u16 u17 u18 u19 u20 yyn169 yyn170 yyn171 yyn172 yyn173 yyn174 yyn175 yyn176 yyn177 yyn178 yyn179 yyn180 yyn181 yyn182 yyn183 yyn184 yyn185 yyn186 yyn187 yyn188 yyn189 yyn190 yyn191 yyn192 yyn193 yyn194 yyn195 yyn196 u56 yyn197 yyn198 yyn199 yyn200 yyn201 yyn202 yyn203 yyn204 yyn205 yyn206 yyn207 yyn208 yyn209 yyn210 yyn211 yyn212 yyn213 yyn214 yyn215 yyn216 yyn217 yyn218 yyn219 yyn220 yyn221 yyn222 yyn223 yyn224 yyn225 yyn226 yyn227 yyn228 yyn229 yyn230 yyn231 yyn232 yyn233 yyn234 yyn235 yyn236 yyn237 yyn238 yyn239 yyn240 yyn241 yyn242 yyn243 yyn244 yyn245 yyn246 yyn247 yyn248 yyn249 yyn250 yyn251 yyn252 yyn253 yyn254 yyn255 yyn256 yyn257 yyn258 yyn259 yyn260 u121 yyn261 yyn262 yyn263 yyn264 yyn265 yyn266 yyn267 yyn268 yyn269 yyn270 yyn271 yyn272 yyn273 yyn274 yyn275 yyn276 yyn277 yyn278 yyn279 yyn280 yyn281 yyn282 yyn283 yyn284 yyn285 yyn286 u148 yyn287 yyn288 yyn289 yyn290 yyn291 yyn292 yyn293 yyn294 yyn295 yyn296 yyn297 yyn298 yyn299 yyn300 yyn301 yyn302 yyn303 yyn304 yyn305 yyn306 yyn307 yyn308 yyn309 yyn310 yyn311 yyn312 yyn313 yyn314 yyn315 yyn316 yyn317 yyn318 yyn319 yyn320 yyn321 yyn322 yyn323 yyn324 yyn325 yyn326 yyn327 yyn328 yyn329 yyn330 yyn331 yyn332 yyn333 yyn334 i ls hiN HBD yyn335 yyn336 yyn337 yyn338 yyn339 yyn340 yyn341 yyn342 yyn343 yyn344 yyn345 yyn346 yyn347 yyn348 yyn349 yyn350 yyn351 yyn352 yyn353 yyn354 yyn355 yyn356 yyn357 yyn358 yyn359 yyn360 yyn361 yyn362 yyn363 yyn364 yyn365 yyn366 yyn367 yyn368 yyn369 yyn370 yyn371 yyn372 yyn373 yyn374 yyn375 yyn376 yyn377 yyn378 yyn379 yyn380 yyn381 yyn382 yyn383 yyn384 yyn385 yyn386 yyn387 yyn388 yyn389 yyn390 yyn391 yyn392 yyn393 yyn394 yyn395 yyn396 yyn397 yyn398 yyn399 yyn400 yyn401 yyn402 yyn403 yyn404 yyn405 yyn406 yyn407 yyn408 yyn409 yyn410 yyn411 yyn412 yyn413 yyn414 yyn415 yyn416 yyn417 yyn418 yyn419 yyn420 yyn421 yyn422 yyn423 yyn424 yyn425 yyn426 yyn427 yyn428 yyn429 yyn430 yyn431 yyn432 yyn433 yyn434 yyn435 yyn436 yyn437 yyn438 yyn439 yyn440 yyn441 yyn442 yyn443 yyn444 yyn445 yyn446 yyn447 yyn448 yyn449 yyn450 yyn451 yyn452 yyn453 yyn454 yyn455 yyn456 yyn457 yyn458 yyn459 yyn460 yyn461 yyn462 yyn463 yyn464 yyn465 yyn466 yyn467 yyn468 yyn469 yyn470 yyn471 yyn472 yyn473 yyn474 yyn475 yyn476 yyn477 yyn478 yyn479 yyn480 yyn481 yyn482 yyn483 yyn484 yyn485 yyn486 yyn487 yyn488 yyn489 yyn490 yyn491 yyn492 yyn493 yyn494 yyn495 yyn496 yyn497 yyn498 yyn499 h1 h2 i1 i2 q ab ao HAC yyn500 hab0 yyn501 yyn502 n0 hn3 u28 u29 u30 u31 u32 u33 u34 u35 u36 u37 u38 u39 u40 u41 u42 u43 u44 u45 u46 u47 u48 u49 u50 u51 u52 u53 u54 u55 u57 u58 u59 u60 u61 u62 u63 u64 u65 u66 u67 u68 u69 u70 u71 u72 u73 u74 u75 u76 u77 u78 u79 u80 u81 u82 u83 u84 u85 u86 u87 u88 u89 u90 u91 u92 u93 u94 u95 u96 u97 u98 u99 u100 u101 u102 u103 u104 u105 u106 u107 u108 u109 u110 u111 u112 u113 u114 u115 u116 u117 u118 u119 u120 u122 u123 u124 u125 u126 u127 u128 u129 u130 u131 u132 u133 u134 u135 u136 u137 u138 u139 u140 u141 u142 u143 u144 u145 u146 u147 u149 u150 u151 u152 u153 u154 u155 u156 u157 u158 u159 u160 u161 u162 u163 u164 u165 u166 u167 u168 u169 u170 u171 u172 u173 u174 u175 u176 u177 u178 u179 u180 u181 u182 u183 u184 u185 u186 u187 u188 u189 u190 u191 u192 u193 u194 u195 u196 xs HXL hsz16 wz HLP2 qP qcp hncp HXS qw c0z yyn503 yyn504 yyn505 yyn506 yyn507 f3 yyn508
  clear HAC HSZ c0z
  obtain ⟨b, v, gs, cs, vals, hT, hbb, hWp, hWb, hnext⟩ := HLP2.out.give_pre
  have hWz := HLP2.out.bel
  obtain ⟨sb, so, hA, hcells, hb0⟩ : ∃ sb so, (n0 = 0 ∨ qP = some ⟨sb, so, none⟩) ∧ (∀ (i : Nat) (x : Int), xs[i]? = some x → wz.cell? ⟨sb, so + i, none⟩ = some (.int .i64 x)) ∧ (n0 = 0 ∨ sb ≠ p ∧ sb ≠ b) := by
    rcases (HXS.out.keep hWz).1 with h | ⟨sb, so, e1, e2, e3⟩
    · have h0 := HXL.out
      rw [h] at h0
      refine ⟨0, 0, .inl h0.symm, fun i x hx => ?_, .inl h0.symm⟩
      rw [h] at hx
      simp at hx
    · rcases HXS.out.1 with h | ⟨sb', so', e1', e2', -⟩
      · have h0 := HXL.out
        rw [h] at h0
        refine ⟨0, 0, .inl h0.symm, fun i x hx => ?_, .inl h0.symm⟩
        rw [h] at hx
        simp at hx
      · rw [e1] at e1'
        injection e1' with e1'
        injection e1' with e1' _ _
        subst e1'
        exact ⟨sb, so, .inr e1, e3, .inr ⟨by omega, by omega⟩⟩
  have hbd := HBD.out
  have hG := bgive_t hA HXL.out hcells hb0 (by have := hbd.2.1; omega) (by have := hbd.2.2.1; omega) hncp hbb hT
  have HG := Lib.hid hG
  have HNX := Lib.hid hnext
  have HA := Lib.hid hA
  clear hT hbb hWp hWb hnext hcells hb0 hbd hG hWz hA
  go_wp2_with fail
  refine HG.out.mono ?_
  rintro e w3 ⟨rfl, hgv, hs3, hk3, ho3⟩
  have HLP3 : Hid (LP W p sz (ls ++ chL sz xs) u7 ls w3) := Lib.hid (HNX.out _ _ hgv hs3 hk3 ho3)
  have HXC : Hid (∀ V : World, Below W.heap.size W V → IS V qP qcp xs) := Lib.hid (fun V hV => HXS.out.keep hV)
  clear hgv hs3 hk3 ho3 HG HNX HLP2
  go_wp2_with fail
  go_loopw [7, 10] (fun v7 v10 wq => ∃ t : Nat, v10 = .int .i64 ((t * sz : Nat) : Int) ∧ (∀ j, j < t → j * sz < n0) ∧ t * sz ≤ n0 + sz ∧ Hid (LP W p sz (ls ++ chL sz xs) v7 (ls ++ (List.range t).map fun j => (xs.drop (j * sz)).take sz) wq)) (fun _ v10 _ => n0 + sz - (intOf v10).toNat)
  case atStart => exact ⟨0, by simp, by simp, by omega, Lib.hid (by simpa using HLP3.out)⟩
  case round =>
    rename World => wq
    obtain ⟨t, rfl, htl, htn, HLQ⟩ := hrel
    by_cases hlt : t * sz < n0
    · have hts : ∀ j, j < t + 1 → j * sz < n0 := fun j hj => by
        rcases Nat.lt_or_ge j t with h | h
        · exact htl j h
        · obtain rfl : j = t := by omega
          exact hlt
      have HTS := Lib.hid hts
      have HNXT := Lib.hid (chL_next (k := sz) (zs := xs) (n := 0) t)
      have hsucc : (t + 1) * sz = t * sz + sz := Nat.succ_mul t sz
      have HSU := Lib.hid hsucc
      obtain ⟨pc, hpc⟩ : ∃ pc, (xs.drop (t * sz)).take sz = pc := ⟨_, rfl⟩
      have HPC := Lib.hid hpc
      have hpl : pc.length = min sz (n0 - t * sz) := by rw [← hpc, List.length_take, List.length_drop, HXL.out]
      obtain ⟨sb, so, e1, e2, e3⟩ : ∃ sb so, qP = some ⟨sb, so, none⟩ ∧ sb < wq.heap.size ∧ ∀ (i : Nat) (x : Int), xs[i]? = some x → wq.cell? ⟨sb, so + i, none⟩ = some (.int .i64 x) := by
        rcases (HXC.out wq HLQ.out.bel).1 with h | h
        · have h0 := HXL.out
          rw [h] at h0
          simp at h0
          omega
        · exact h
      subst e1
      have HSRC : Hid (∀ (i : Nat) (x : Int), pc[i]? = some x → wq.cell? ⟨sb, so + t * sz + i, none⟩ = some (.int .i64 x)) := Lib.hid (fun i x hx => by
        rw [← HPC.out] at hx
        have h9 := take_gi hx
        rw [List.getElem?_drop] at h9
        rw [Nat.add_assoc]
        exact e3 _ x h9)
      have HTM : Hid (t ≤ t * sz ∧ t * sz < n0) := Lib.hid ⟨Nat.le_mul_of_pos_right t (by omega), hlt⟩
      clear e3 htl hts hsucc hpc
      generalize hm : t * sz = m at *
      have j1 : (0 : Int) ≤ (m : Int) := by omega
      have j2 : (m : Int) < (n0 : Int) := by omega
      have j3 : ¬ qcp = m := by omega
      have j4 : m ≤ qcp := by omega
      have HE2 := Lib.hid e2
      clear e2
      have HTN : Hid (m ≤ n0 + sz) := Lib.hid htn
      clear htn
      by_cases hmin : m + sz ≤ n0
      · have k1 : ¬ (n0 : Int) < (m : Int) + (sz : Int) := by omega
        obtain ⟨hi, hhi⟩ : ∃ hi, m + sz = hi := ⟨_, rfl⟩
        have k2 : (m : Int) + (sz : Int) = (hi : Int) := by omega
        have hpl2 : pc.length = hi - m := by omega
        have HH : Hid (m < hi ∧ hi ≤ n0 ∧ hi ≤ m + sz) := Lib.hid (by omega)
        clear hhi hmin hpl
        have k1' : ¬ (n0 : Int) < (hi : Int) := by have := HH.out; omega
        have hil : (hi : Int) ≤ (qcp : Int) := by have := HH.out; omega
        have hil2 : hi ≤ qcp := by have := HH.out; omega
        have hml : m ≤ hi := by have := HH.out; omega
        have hmlI : (m : Int) ≤ (hi : Int) := by omega
        have h0i : (0 : Int) ≤ (hi : Int) := by omega
        have HPL := Lib.hid hpl2
        have hpos : 0 < hi - m := by have := HH.out; omega
        have hsm : hi - m ≤ 100000 := by have := HH.out; have := HBD.out.1; omega
        clear hpl2 hm
        have HQ1 : Hid ((pc.map (Value.int .i64)).length = (hi - m) * 1) := Lib.hid (by simpa using HPL.out)
        have HQ2 : Hid (∀ T (j : Nat) (u : Value), (pc.map (Value.int .i64))[j]? = some u → (wq.alloc (.cells #[] T)).cell? ((⟨sb, so + m, none⟩ : Addr).add j) = some u) := Lib.hid (fun T j u hu => by
          rw [List.getElem?_map] at hu
          obtain ⟨y, hy, rfl⟩ := Option.map_eq_some_iff.1 hu
          rw [addp]
          exact ((alc0 wq _).cell (p := ⟨sb, so + m + j, none⟩) HE2.out).trans (HSRC.out j y hy))
        have HQ3 : Hid (∀ u ∈ pc.map (Value.int .i64), u.oneCell' = true) := Lib.hid (fun u hu => by
          obtain ⟨y, -, rfl⟩ := List.mem_map.1 hu
          rfl)
        go_wp2_with (at_builtin; refine app_vz tyI rfl (.tmp 135) (.tmp 144) rfl wq.heap.size (.slice (some ⟨wq.heap.size, 0, none⟩) 0 0) 0 [] rfl (vz_made 1 wq _) ⟨sb, so + m, none⟩ (hi - m) (qcp - m) (pc.map (Value.int .i64)) rfl HQ1.out (HQ2.out _) HQ3.out (.inl hpos) (by omega) ?_)
        rintro v' w4 ⟨b5, hb5, hvz, hs5, hk5, hl5⟩
        have hB5 : Below wq.heap.size wq w4 := (alc0 wq _).trans (hl5 _ (Nat.le_refl _) (by simp))
        have hvz2 : RV b5 w4 v' pc := by
          unfold RV
          rw [HPL.out]
          simpa using hvz
        have hb5l : wq.heap.size ≤ b5 := by
          rcases hb5 with rfl | h
          · exact Nat.le_refl _
          · simp at h; omega
        have hppos : 0 < pc.length := by rw [HPL.out]; exact hpos
        have hb5g : b5 < w4.heap.size := by
          rcases hvz2.open_ with ⟨-, h⟩ | ⟨_, _, -, h, -⟩
          · rw [h] at hppos
            simp at hppos
          · exact h
        clear hvz hb5 hs5 hk5 hl5
        obtain ⟨A5, c5, hv5, -⟩ := id hvz2
        subst hv5
        obtain ⟨w5, hw5⟩ : ∃ w5, w4.alloc (.cells #[.slice A5 pc.length c5] 26) = w5 := ⟨_, rfl⟩
        have hB6 : Below w4.heap.size w4 w5 := by rw [← hw5]; exact alc0 _ _
        have hc5 : w5.cell? ⟨w4.heap.size, 0, none⟩ = some (.slice A5 pc.length c5) := by rw [← hw5]; simp
        obtain ⟨bm, mv, hz, hnx⟩ := HLQ.out.push_pre (thn hB5 hB6) (hvz2.below hB6) hppos hb5l (Nat.lt_of_lt_of_le hb5g hB6.size)
        obtain ⟨N9, hN9⟩ : ∃ N9, (ls ++ (List.range t).map fun j => (xs.drop (j * sz)).take sz).length = N9 := ⟨_, rfl⟩
        have hN95 : N9 ≤ 100000 := by
          rw [← hN9]
          have := HBD.out.2.1
          have := HBD.out.1
          have := HTM.out
          simp
          omega
        rw [hN9] at hz hnx
        have HZ := Lib.hid hz
        have HNX2 := Lib.hid hnx
        have HC5 := Lib.hid hc5
        rw [HPL.out] at *
        have hw5' := hw5
        clear hz hnx hN9 hB6 hvz2 hb5l hb5g hppos hc5 hw5
        have HR2 : Hid (∀ (j : Nat) (u : Value), [Value.slice A5 (hi - m) c5][j]? = some u → w5.cell? ((⟨w4.heap.size, 0, none⟩ : Addr).add j) = some u) := Lib.hid (fun j u hj => by
          have hj0 : j = 0 := by have := (List.getElem?_eq_some_iff.1 hj).1; simpa using this
          subst hj0
          obtain rfl : _ = u := by simpa using hj
          exact HC5.out)
        have HR3 : Hid (∀ u ∈ [Value.slice A5 (hi - m) c5], u.oneCell' = true) := Lib.hid (fun u hu => by
          obtain rfl := List.mem_singleton.1 hu
          rfl)
        go_wp2_with (first | (at_builtin; refine app_vz tyBs rfl (.tmp 134) (.tmp 146) rfl bm _ N9 mv rfl HZ.out ⟨w4.heap.size, 0, none⟩ 1 1 [.slice A5 (hi - m) c5] rfl rfl HR2.out HR3.out (.inl (by decide)) (by omega) ?_) | (at_builtin; rw [hw5']; refine app_vz tyBs rfl (.tmp 134) (.tmp 146) rfl bm _ N9 mv rfl HZ.out ⟨w4.heap.size, 0, none⟩ 1 1 [.slice A5 (hi - m) c5] rfl rfl HR2.out HR3.out (.inl (by decide)) (by omega) ?_))
        intro v'' w6 hV6
        have HLP6 : Hid (LP W p sz (ls ++ chL sz xs) v'' (ls ++ (List.range (t + 1)).map fun j => (xs.drop (j * sz)).take sz) w6) := Lib.hid (by
          have h9 := HNX2.out v'' w6 hV6
          rw [HNXT.out, HPC.out, ← List.append_assoc]
          exact h9)
        obtain ⟨_, _, ⟨A6, c6, hv6, -⟩, -⟩ := hV6
        subst hv6
        clear hw5'
        go_wp2_with fail
        go_roundw
        case rel => exact ⟨t + 1, by rw [HSU.out]; exact congrArg (Value.int .i64) (by omega), HTS.out, by rw [HSU.out]; omega, HLP6⟩
        case measure => simp [intOf]; omega
      · have k1 : (n0 : Int) < (m : Int) + (sz : Int) := by omega
        obtain ⟨mz, hmz⟩ : ∃ mz : Nat, (m : Int) + (sz : Int) = (mz : Int) := ⟨m + sz, by omega⟩
        have k1' : (n0 : Int) < (mz : Int) := by omega
        have hmzb : mz ≤ 5000 := by have := HBD.out.1; omega
        have hpl2 : pc.length = n0 - m := by omega
        have HH : Hid (m < n0 ∧ n0 ≤ n0 ∧ n0 ≤ m + sz) := Lib.hid (by omega)
        clear hmin hpl
        have hil : (n0 : Int) ≤ (qcp : Int) := by have := HH.out; omega
        have hil2 : n0 ≤ qcp := by have := HH.out; omega
        have hml : m ≤ n0 := by have := HH.out; omega
        have hmlI : (m : Int) ≤ (n0 : Int) := by omega
        have h0i : (0 : Int) ≤ (n0 : Int) := by omega
        have HPL := Lib.hid hpl2
        have hpos : 0 < n0 - m := by have := HH.out; omega
        have hsm : n0 - m ≤ 100000 := by have := HH.out; have := HBD.out.1; omega
        clear hpl2 hm
        have HQ1 : Hid ((pc.map (Value.int .i64)).length = (n0 - m) * 1) := Lib.hid (by simpa using HPL.out)
        have HQ2 : Hid (∀ T (j : Nat) (u : Value), (pc.map (Value.int .i64))[j]? = some u → (wq.alloc (.cells #[] T)).cell? ((⟨sb, so + m, none⟩ : Addr).add j) = some u) := Lib.hid (fun T j u hu => by
          rw [List.getElem?_map] at hu
          obtain ⟨y, hy, rfl⟩ := Option.map_eq_some_iff.1 hu
          rw [addp]
          exact ((alc0 wq _).cell (p := ⟨sb, so + m + j, none⟩) HE2.out).trans (HSRC.out j y hy))
        have HQ3 : Hid (∀ u ∈ pc.map (Value.int .i64), u.oneCell' = true) := Lib.hid (fun u hu => by
          obtain ⟨y, -, rfl⟩ := List.mem_map.1 hu
          rfl)
        go_wp2_with (at_builtin; refine app_vz tyI rfl (.tmp 135) (.tmp 144) rfl wq.heap.size (.slice (some ⟨wq.heap.size, 0, none⟩) 0 0) 0 [] rfl (vz_made 1 wq _) ⟨sb, so + m, none⟩ (n0 - m) (qcp - m) (pc.map (Value.int .i64)) rfl HQ1.out (HQ2.out _) HQ3.out (.inl hpos) (by omega) ?_)
        rintro v' w4 ⟨b5, hb5, hvz, hs5, hk5, hl5⟩
        have hB5 : Below wq.heap.size wq w4 := (alc0 wq _).trans (hl5 _ (Nat.le_refl _) (by simp))
        have hvz2 : RV b5 w4 v' pc := by
          unfold RV
          rw [HPL.out]
          simpa using hvz
        have hb5l : wq.heap.size ≤ b5 := by
          rcases hb5 with rfl | h
          · exact Nat.le_refl _
          · simp at h; omega
        have hppos : 0 < pc.length := by rw [HPL.out]; exact hpos
        have hb5g : b5 < w4.heap.size := by
          rcases hvz2.open_ with ⟨-, h⟩ | ⟨_, _, -, h, -⟩
          · rw [h] at hppos
            simp at hppos
          · exact h
        clear hvz hb5 hs5 hk5 hl5
        obtain ⟨A5, c5, hv5, -⟩ := id hvz2
        subst hv5
        obtain ⟨w5, hw5⟩ : ∃ w5, w4.alloc (.cells #[.slice A5 pc.length c5] 26) = w5 := ⟨_, rfl⟩
        have hB6 : Below w4.heap.size w4 w5 := by rw [← hw5]; exact alc0 _ _
        have hc5 : w5.cell? ⟨w4.heap.size, 0, none⟩ = some (.slice A5 pc.length c5) := by rw [← hw5]; simp
        obtain ⟨bm, mv, hz, hnx⟩ := HLQ.out.push_pre (thn hB5 hB6) (hvz2.below hB6) hppos hb5l (Nat.lt_of_lt_of_le hb5g hB6.size)
        obtain ⟨N9, hN9⟩ : ∃ N9, (ls ++ (List.range t).map fun j => (xs.drop (j * sz)).take sz).length = N9 := ⟨_, rfl⟩
        have hN95 : N9 ≤ 100000 := by
          rw [← hN9]
          have := HBD.out.2.1
          have := HBD.out.1
          have := HTM.out
          simp
          omega
        rw [hN9] at hz hnx
        have HZ := Lib.hid hz
        have HNX2 := Lib.hid hnx
        have HC5 := Lib.hid hc5
        rw [HPL.out] at *
        have hw5' := hw5
        clear hz hnx hN9 hB6 hvz2 hb5l hb5g hppos hc5 hw5
        have HR2 : Hid (∀ (j : Nat) (u : Value), [Value.slice A5 (n0 - m) c5][j]? = some u → w5.cell? ((⟨w4.heap.size, 0, none⟩ : Addr).add j) = some u) := Lib.hid (fun j u hj => by
          have hj0 : j = 0 := by have := (List.getElem?_eq_some_iff.1 hj).1; simpa using this
          subst hj0
          obtain rfl : _ = u := by simpa using hj
          exact HC5.out)
        have HR3 : Hid (∀ u ∈ [Value.slice A5 (n0 - m) c5], u.oneCell' = true) := Lib.hid (fun u hu => by
          obtain rfl := List.mem_singleton.1 hu
          rfl)
        go_wp2_with (first | (at_builtin; refine app_vz tyBs rfl (.tmp 134) (.tmp 146) rfl bm _ N9 mv rfl HZ.out ⟨w4.heap.size, 0, none⟩ 1 1 [.slice A5 (n0 - m) c5] rfl rfl HR2.out HR3.out (.inl (by decide)) (by omega) ?_) | (at_builtin; rw [hw5']; refine app_vz tyBs rfl (.tmp 134) (.tmp 146) rfl bm _ N9 mv rfl HZ.out ⟨w4.heap.size, 0, none⟩ 1 1 [.slice A5 (n0 - m) c5] rfl rfl HR2.out HR3.out (.inl (by decide)) (by omega) ?_))
        intro v'' w6 hV6
        have HLP6 : Hid (LP W p sz (ls ++ chL sz xs) v'' (ls ++ (List.range (t + 1)).map fun j => (xs.drop (j * sz)).take sz) w6) := Lib.hid (by
          have h9 := HNX2.out v'' w6 hV6
          rw [HNXT.out, HPC.out, ← List.append_assoc]
          exact h9)
        obtain ⟨_, _, ⟨A6, c6, hv6, -⟩, -⟩ := hV6
        subst hv6
        clear hw5'
        go_wp2_with fail
        go_roundw
        case rel => exact ⟨t + 1, by rw [HSU.out]; exact congrArg (Value.int .i64) (by omega), HTS.out, by rw [HSU.out]; omega, HLP6⟩
        case measure => simp [intOf]; omega
    · have hlt2 : n0 ≤ t * sz := by omega
      have HFIN : Hid ((List.range t).map (fun j => (xs.drop (j * sz)).take sz) = chL sz xs) := Lib.hid (chL_end hsz1 (by rw [HXL.out]; exact hlt2) (by rw [HXL.out]; exact htl))
      generalize hm : t * sz = m at *
      have j2 : ¬ (m : Int) < (n0 : Int) := by omega
      clear htl hlt
      go_wp2_with fail
      go_meet
      refine ⟨ls ++ chL sz xs, Lib.hid (HBD.out.give h2 hsz1 (by rw [HXL.out]; exact hn3) HXS.out.2.2.2), Lib.hid ?_⟩
      rw [← HFIN.out]
      have h9 := HLQ.out
      rw [HFIN.out] at h9 ⊢
      exact h9
end Go.Proofs.Ytokdjonnblbegaa
