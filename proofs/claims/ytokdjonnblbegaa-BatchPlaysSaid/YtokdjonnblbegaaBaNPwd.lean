/- A part of the walk. -/
import Derived.Test.YtokdjonnblbegaaBaNS
import Derived.Deep.RegionHeld3
import Derived.Deep.DeepCutAuto
import Derived.Deep.CutBlock
import Derived.RegionTactic
import Derived.BigRegion
namespace Go.Proofs.Ytokdjonnblbegaa
set_option maxRecDepth 100000
open Go.RowKit Go.Maps
set_option linter.unusedVariables false
set_option linter.unusedSimpArgs false

set_option maxHeartbeats 6400000 in
theorem bpStep_wd : bpStep.2.2.2.1 := by
  intro n l0 c0 W sz HSZ hsz1 hsz2 N ll0 HN yyn0 u22 u23 u24 u25 u26 u27 yyn1 yyn2 yyn3 yyn4 yyn5 yyn6 yyn7 yyn8 yyn9 yyn10 yyn11 yyn12 yyn13 yyn14 yyn15 yyn16 yyn17 yyn18 yyn19 yyn20 yyn21 yyn22 yyn23 yyn24 yyn25 yyn26 yyn27 yyn28 yyn29 yyn30 yyn31 yyn32 yyn33 yyn34 yyn35 yyn36 yyn37 yyn38 yyn39 yyn40 yyn41 yyn42 yyn43 yyn44 yyn45 yyn46 yyn47 yyn48 yyn49 yyn50 yyn51 yyn52 yyn53 yyn54 yyn55 yyn56 yyn57 yyn58 yyn59 yyn60 yyn61 yyn62 yyn63 yyn64 yyn65 yyn66 yyn67 yyn68 yyn69 yyn70 yyn71 yyn72 yyn73 yyn74 yyn75 yyn76 yyn77 yyn78 yyn79 yyn80 yyn81 yyn82 yyn83 yyn84 yyn85 yyn86 yyn87 yyn88 yyn89 yyn90 yyn91 yyn92 yyn93 yyn94 yyn95 yyn96 yyn97 yyn98 yyn99 yyn100 yyn101 yyn102 yyn103 yyn104 yyn105 yyn106 yyn107 yyn108 yyn109 yyn110 yyn111 yyn112 yyn113 yyn114 yyn115 yyn116 yyn117 yyn118 yyn119 yyn120 yyn121 yyn122 yyn123 yyn124 yyn125 yyn126 yyn127 yyn128 yyn129 yyn130 yyn131 yyn132 yyn133 yyn134 yyn135 yyn136 yyn137 yyn138 yyn139 yyn140 yyn141 yyn142 yyn143 yyn144 yyn145 yyn146 yyn147 yyn148 yyn149 yyn150 yyn151 yyn152 yyn153 yyn154 yyn155 yyn156 yyn157 yyn158 yyn159 yyn160 yyn161 yyn162 yyn163 yyn164 yyn165 yyn166 u197 u198 u199 u200 u201 u202 u203 u204 u205 u206 u207 u208 u209 u210 u211 u212 u213 u214 u215 u216 u217 u218 u219 u220 u221 u222 u223 u224 u225 u226 u227 u228 w1 yyn167 yyn168 w2 p HP wr u4 u7 u9 u10 u11 u12 u13 u14 u15 u16 u17 u18 u19 u20 yyn169 yyn170 yyn171 yyn172 yyn173 yyn174 yyn175 yyn176 yyn177 yyn178 yyn179 yyn180 yyn181 yyn182 yyn183 yyn184 yyn185 yyn186 yyn187 yyn188 yyn189 yyn190 yyn191 yyn192 yyn193 yyn194 yyn195 yyn196 u56 yyn197 yyn198 yyn199 yyn200 yyn201 yyn202 yyn203 yyn204 yyn205 yyn206 yyn207 yyn208 yyn209 yyn210 yyn211 yyn212 yyn213 yyn214 yyn215 yyn216 yyn217 yyn218 yyn219 yyn220 yyn221 yyn222 yyn223 yyn224 yyn225 yyn226 yyn227 yyn228 yyn229 yyn230 yyn231 yyn232 yyn233 yyn234 yyn235 yyn236 yyn237 yyn238 yyn239 yyn240 yyn241 yyn242 yyn243 yyn244 yyn245 yyn246 yyn247 yyn248 yyn249 yyn250 yyn251 yyn252 yyn253 yyn254 yyn255 yyn256 yyn257 yyn258 yyn259 yyn260 u121 yyn261 yyn262 yyn263 yyn264 yyn265 yyn266 yyn267 yyn268 yyn269 yyn270 yyn271 yyn272 yyn273 yyn274 yyn275 yyn276 yyn277 yyn278 yyn279 yyn280 yyn281 yyn282 yyn283 yyn284 yyn285 yyn286 u148 yyn287 yyn288 yyn289 yyn290 yyn291 yyn292 yyn293 yyn294 yyn295 yyn296 yyn297 yyn298 yyn299 yyn300 yyn301 yyn302 yyn303 yyn304 yyn305 yyn306 yyn307 yyn308 yyn309 yyn310 yyn311 yyn312 yyn313 yyn314 yyn315 yyn316 yyn317 yyn318 yyn319 yyn320 yyn321 yyn322 yyn323 yyn324 yyn325 yyn326 yyn327 yyn328 yyn329 yyn330 yyn331 yyn332 yyn333 yyn334 i ls hiN HBD yyn335 yyn336 yyn337 yyn338 yyn339 yyn340 yyn341 yyn342 yyn343 yyn344 yyn345 yyn346 yyn347 yyn348 yyn349 yyn350 yyn351 yyn352 yyn353 yyn354 yyn355 yyn356 yyn357 yyn358 yyn359 yyn360 yyn361 yyn362 yyn363 yyn364 yyn365 yyn366 yyn367 yyn368 yyn369 yyn370 yyn371 yyn372 yyn373 yyn374 yyn375 yyn376 yyn377 yyn378 yyn379 yyn380 yyn381 yyn382 yyn383 yyn384 yyn385 yyn386 yyn387 yyn388 yyn389 yyn390 yyn391 yyn392 yyn393 yyn394 yyn395 yyn396 yyn397 yyn398 yyn399 yyn400 yyn401 yyn402 yyn403 yyn404 yyn405 yyn406 yyn407 yyn408 yyn409 yyn410 yyn411 yyn412 yyn413 yyn414 yyn415 yyn416 yyn417 yyn418 yyn419 yyn420 yyn421 yyn422 yyn423 yyn424 yyn425 yyn426 yyn427 yyn428 yyn429 yyn430 yyn431 yyn432 yyn433 yyn434 yyn435 yyn436 yyn437 yyn438 yyn439 yyn440 yyn441 yyn442 yyn443 yyn444 yyn445 yyn446 yyn447 yyn448 yyn449 yyn450 yyn451 yyn452 yyn453 yyn454 yyn455 yyn456 yyn457 yyn458 yyn459 yyn460 yyn461 yyn462 yyn463 yyn464 yyn465 yyn466 yyn467 yyn468 yyn469 yyn470 yyn471 yyn472 yyn473 yyn474 yyn475 yyn476 yyn477 yyn478 yyn479 yyn480 yyn481 yyn482 yyn483 yyn484 yyn485 yyn486 yyn487 yyn488 yyn489 yyn490 yyn491 yyn492 yyn493 yyn494 yyn495 yyn496 yyn497 yyn498 yyn499 h1 h2 i1 i2 q ab ao HAC yyn500 hab0 yyn501 yyn502 n0 hn3 u28 u29 u30 u31 u32 u33 u34 u35 u36 u37 u38 u39 u40 u41 u42 u43 u44 u45 u46 u47 u48 u49 u50 u51 u52 u53 u54 u55 u57 u58 u59 u60 u61 u62 u63 u64 u65 u66 u67 u68 u69 u70 u71 u72 u73 u74 u75 u76 u77 u78 u79 u80 u81 u82 u83 u84 u85 u86 u87 u88 u89 u90 u91 u92 u93 u94 u95 u96 u97 u98 u99 u100 u101 u102 u103 u104 u105 u106 u107 u108 u109 u110 u111 u112 u113 u114 u115 u116 u117 u118 u119 u120 u122 u123 u124 u125 u126 u127 u128 u129 u130 u131 u132 u133 u134 u135 u136 u137 u138 u139 u140 u141 u142 u143 u144 u145 u146 u147 u149 u150 u151 u152 u153 u154 u155 u156 u157 u158 u159 u160 u161 u162 u163 u164 u165 u166 u167 u168 u169 u170 u171 u172 u173 u174 u175 u176 u177 u178 u179 u180 u181 u182 u183 u184 u185 u186 u187 u188 u189 u190 u191 u192 u193 u194 u195 u196 xs HXL hsz16 wz HLP2 qP qcp hncp HXS qw c0z yyn503 yyn504 yyn505 yyn506 yyn507 f3 yyn508
  have h33 : ((3 : Nat) : Int) = 3 := rfl
  simp only [h33]
  clear h33
  clear HAC HSZ c0z
  have HNN := HBD.out
  have hWz := HLP2.out.bel
  have HXC : Hid (∀ V : World, Below W.heap.size W V → IS V qP qcp xs) := Lib.hid (fun V hV => HXS.out.keep hV)
  obtain ⟨bm, gm, mv, hM, hWbm⟩ := HLP2.out.mt
  have HM := Lib.hid hM
  obtain ⟨M, hM9⟩ : ∃ M, ls.length = M := ⟨_, rfl⟩
  have HMN := Lib.hid hM9
  have hM5 : M ≤ 5000 := by have := HNN.2.1; have := HNN.1; omega
  have hu7 : ∃ A c, u7 = .slice A M c ∧ (0 < M → ∃ off, A = some ⟨bm, off, none⟩ ∧ ∀ (j : Nat) (u : Value), mv[j]? = some u → wz.cell? ⟨bm, off + j, none⟩ = some u) := by
    obtain ⟨A, c, e, h1, h2, h3, h4, ⟨e1, e2, e3⟩ | ⟨off, e1, e2, e3, e4⟩⟩ := hM.out
    · exact ⟨A, c, by rw [e, hM9], fun h => by omega⟩
    · exact ⟨A, c, by rw [e, hM9], fun _ => ⟨off, e1, fun j u hj => e3 j u hj⟩⟩
  obtain ⟨A7, c7, hv7, hA7⟩ := hu7
  subst hv7
  have HA7 := Lib.hid hA7
  have hbz : bm < wz.heap.size := hM.lt
  clear hM hM9 hA7 hWbm
  go_wp2_with fail
  have hmade := mt_made wz 26
  obtain ⟨w3, hw3⟩ : ∃ w3, wz.alloc (.cells #[] 26) = w3 := ⟨_, rfl⟩
  rw [hw3] at hmade ⊢
  have hb3 : Below wz.heap.size wz w3 := by rw [← hw3]; exact alc0 _ _
  have HMD := Lib.hid hmade
  have HB3 := Lib.hid hb3
  clear hw3 hmade hb3
  go_loopw [12, 13, 14] (fun v12 v13 v14 wq => ∃ (j : Nat) (bl : Nat) (gl : List Nat) (lv : List Value), j ≤ M ∧ v14 = .int .i64 j ∧ v12 = .int .i64 (goneL xs (ls.take j)) ∧ Hid (MT bl v13 gl (wL xs (ls.take j)) lv wq) ∧ wz.heap.size ≤ bl ∧ Hid (∀ g ∈ gl, wz.heap.size ≤ g) ∧ Hid (Below wz.heap.size wz wq)) (fun _ _ v14 _ => M - (intOf v14).toNat)
  case atStart => exact ⟨0, _, [], [], by omega, rfl, rfl, HMD, Nat.le_refl _, Lib.hid (by simp), HB3⟩
  case round =>
    rename World => wq
    obtain ⟨j, bl, gl, lv, hjM, rfl, rfl, HML, hbl, HGL, HBQ⟩ := hrel
    by_cases hlt : j < M
    · have hjM2 : j ≤ M := hjM
      obtain ⟨l, hl⟩ : ∃ l, ls[j]? = some l := ⟨ls[j]'(by have := HMN.out; omega), List.getElem?_eq_getElem _⟩
      obtain ⟨g, u, a1, a2, a3, a4, a5⟩ := HM.out.at_ j l hl
      obtain ⟨offm, rfl, hcell⟩ := HA7.out (by omega)
      have cj0 := hcell j u a2
      obtain ⟨ol, cl, rfl, b1, b2, b3, b4⟩ : ∃ ol cl, u = .slice (some ⟨g, ol, none⟩) l.length cl ∧ g < wz.heap.size ∧ l.length ≤ cl ∧ cl ≤ 9223372036854775807 ∧ ∀ (i : Nat) (x : Int), l[i]? = some x → wz.cell? ⟨g, ol + i, none⟩ = some (.int .i64 x) := by
        rcases a4.open_ with ⟨-, h⟩ | h
        · rw [h] at a3
          simp at a3
        · exact h
      have hlm : l ∈ ls := List.mem_of_getElem? hl
      have hkl5 : l.length ≤ 5000 := by
        have g1 := HNN.2.2.1
        have g2 := HNN.1
        have g3 : l.length ≤ (ls.map List.length).sum := mem_sum (List.mem_map.2 ⟨_, hlm, rfl⟩)
        omega
      obtain ⟨kl, hkl⟩ : ∃ kl, l.length = kl := ⟨_, rfl⟩
      have HKL := Lib.hid hkl
      have HGN := Lib.hid (goneL_next (zs := xs) hl)
      have HWN := Lib.hid (wL_next (zs := xs) hl)
      have HCJ : Hid (∀ V : World, Below wz.heap.size wz V → V.cell? ⟨bm, offm + j, none⟩ = some (.slice (some ⟨g, ol, none⟩) kl cl)) := Lib.hid (fun V hV => by rw [← hkl]; exact (hV.cell (p := ⟨bm, offm + j, none⟩) hbz).trans cj0)
      have HCL : Hid (∀ (V : World) (i : Nat) (x : Int), Below wz.heap.size wz V → l[i]? = some x → V.cell? ⟨g, ol + i, none⟩ = some (.int .i64 x)) := Lib.hid (fun V i x hV hx => (hV.cell (p := ⟨g, ol + i, none⟩) b1).trans (b4 i x hx))
      have gnb := goneL_bound (zs := xs) (ls := ls.take j)
      have hsb : ((ls.take j).map List.length).sum ≤ 5000 := by
        have g1 := HNN.2.2.1
        have g2 := HNN.1
        have := sumL_le ls j
        unfold sumL at this
        omega
      obtain ⟨G0, hG0⟩ : ∃ G0, goneL xs (ls.take j) = G0 := ⟨_, rfl⟩
      rw [hG0] at gnb
      have HG0 := Lib.hid hG0
      have hG5 : 0 ≤ G0 ∧ G0 ≤ 5000 := by omega
      rw [hkl] at hkl5
      rw [hG0]
      have k1 : (j : Int) < (M : Int) := by omega
      have k2 : (0 : Int) ≤ (j : Int) := by omega
      have HJM := Lib.hid hlt
      clear a1 a2 a3 a4 a5 hcell cj0 b1 b2 b3 b4 hlm hkl hG0 gnb hsb hl hjM hjM2 hlt
      go_wp2_with fail
      obtain ⟨wi, hwi⟩ : ∃ wi, wq.alloc (.cells #[] 3) = wi := ⟨_, rfl⟩
      have hRi : RV wq.heap.size wi (.slice (some ⟨wq.heap.size, 0, none⟩) 0 0) [] := by rw [← hwi]; exact vz_made 1 wq _
      have hBi : Below wq.heap.size wq wi := by rw [← hwi]; exact alc0 _ _
      rw [hwi]
      have HRI := Lib.hid hRi
      have HBI := Lib.hid hBi
      clear hwi hRi hBi
      go_loopw [12, 15, 16] (fun v12 v15 v16 w4 => ∃ (p2 : Nat) (gy : Nat) (F : Nat), p2 ≤ kl ∧ v16 = .int .i64 p2 ∧ Hid ((fltL xs (l.take p2)).length = F) ∧ F ≤ p2 ∧ v12 = .int .i64 (G0 + ((p2 : Int) - (F : Int))) ∧ Hid (RV gy w4 v15 (fltL xs (l.take p2))) ∧ wq.heap.size ≤ gy ∧ Hid (Below wq.heap.size wq w4)) (fun _ _ v16 _ => kl - (intOf v16).toNat)
      case atStart => exact ⟨0, _, 0, by omega, rfl, Lib.hid rfl, Nat.le_refl _, congrArg (Value.int .i64) (by omega), HRI, Nat.le_refl _, HBI⟩
      case round =>
        rename World => w4
        obtain ⟨p2, gy, F, hp2, rfl, HF, hFp, rfl, HRY, hgy, HB4⟩ := hrel
        have HBZ4 : Hid (Below wz.heap.size wz w4) := Lib.hid (thn HBQ.out HB4.out)
        have cj := HCJ.out w4 HBZ4.out
        by_cases hlt : p2 < kl
        · obtain ⟨x, hx⟩ : ∃ x, l[p2]? = some x := ⟨l[p2]'(by have := HKL.out; omega), List.getElem?_eq_getElem _⟩
          have HX := Lib.hid hx
          have HFN := Lib.hid (fltL_next (zs := xs) hx)
          have k3 : (p2 : Int) < (kl : Int) := by omega
          have k4 : (0 : Int) ≤ (p2 : Int) := by omega
          have HLT := Lib.hid hlt
          clear hx hlt
          go_wp2_with fail
          go_loopw [17, 18] (fun v17 v18 w5 => ∃ (q2 : Nat) (B : Bool), q2 ≤ n0 ∧ v18 = .int .i64 q2 ∧ v17 = .bool B ∧ Hid (decide (x ∈ xs.take q2) = B) ∧ Hid (Below w4.heap.size w4 w5)) (fun _ v18 _ => n0 - (intOf v18).toNat)
          case atStart => exact ⟨0, false, by omega, rfl, rfl, Lib.hid (by simp), Lib.hid (Below.refl _ _)⟩
          case round =>
            rename World => w5
            obtain ⟨q2, B, hq2, rfl, rfl, HBB, HB5⟩ := hrel
            clear cj
            have HBZ5 : Hid (Below wz.heap.size wz w5) := Lib.hid (thn HBZ4.out HB5.out)
            by_cases hlt2 : q2 < n0
            · obtain ⟨y, hy⟩ : ∃ y, xs[q2]? = some y := ⟨xs[q2]'(by have := HXL.out; omega), List.getElem?_eq_getElem _⟩
              obtain ⟨sb, so, e1, e2, e3⟩ : ∃ sb so, qP = some ⟨sb, so, none⟩ ∧ sb < w5.heap.size ∧ ∀ (i : Nat) (x : Int), xs[i]? = some x → w5.cell? ⟨sb, so + i, none⟩ = some (.int .i64 x) := by
                rcases (HXC.out w5 (hWz.trans (HBZ5.out.mono hWz.size))).1 with h | h
                · have h0 := HXL.out
                  rw [h] at h0
                  simp at h0
                  omega
                · exact h
              subst e1
              have cy := e3 q2 y hy
              have cj := HCJ.out w5 HBZ5.out
              have cx := HCL.out w5 p2 x HBZ5.out HX.out
              obtain ⟨E, hE⟩ : ∃ E, (y == x) = E := ⟨_, rfl⟩
              have HNB : Hid (decide (x ∈ xs.take (q2 + 1)) = (B || E)) := Lib.hid (by
                rw [List.take_add_one, hy, ← HBB.out, ← hE]
                by_cases h5 : x ∈ xs.take q2
                · simp [h5]
                · by_cases h6 : y = x
                  · subst h6
                    simp
                  · have h7 : ¬ x = y := fun e => h6 e.symm
                    simp [h5, h6, h7])
              have k5 : (q2 : Int) < (n0 : Int) := by omega
              have k6 : (0 : Int) ≤ (q2 : Int) := by omega
              have HLT2 := Lib.hid hlt2
              clear e2 e3 hy hlt2
              go_upto_region 20 with (fail)
              cases B with
              | true =>
                go_region
                go_wp2
                go_roundw
                case rel => exact ⟨q2 + 1, true, by have := HLT2.out; omega, by go_num, rfl, Lib.hid HNB.out, Lib.hid HB5.out.drew⟩
                case measure => simp [intOf]; have := HLT2.out; omega
              | false =>
                go_region
                go_wp2
                go_roundw
                case rel => exact ⟨q2 + 1, E, by have := HLT2.out; omega, by go_num, by first | rfl | rw [hE], Lib.hid HNB.out, Lib.hid HB5.out.drew⟩
                case measure => simp [intOf]; have := HLT2.out; omega
            · obtain rfl : q2 = n0 := by omega
              have k5 : ¬ (q2 : Int) < (q2 : Int) := by omega
              have HBX : Hid (decide (x ∈ xs) = B) := Lib.hid (by
                have h9 := HBB.out
                rw [← HXL.out, List.take_length] at h9
                exact h9)
              have HB45 : Hid (Below wq.heap.size wq w5) := Lib.hid (thn HB4.out HB5.out)
              have hRY5 := HRY.out.below HB5.out
              have cj := HCJ.out w5 HBZ5.out
              have cx := HCL.out w5 p2 x HBZ5.out HX.out
              have HF5 : Hid (F ≤ p2 ∧ p2 < kl) := Lib.hid ⟨hFp, HLT.out⟩
              cases B with
              | true =>
                clear hRY5
                have HRY5 := Lib.hid (HRY.out.below HB5.out)
                have HFE : Hid (fltL xs (l.take (p2 + 1)) = fltL xs (l.take p2)) := Lib.hid (by rw [HFN.out, HBX.out]; simp)
                go_wp2_with fail
                go_roundw
                case rel => exact ⟨p2 + 1, gy, F, by have := HLT.out; omega, by go_num, Lib.hid (by rw [HFE.out]; exact HF.out), by have := HF5.out; omega, congrArg (Value.int .i64) (by omega), Lib.hid (by rw [HFE.out]; exact HRY5.out), hgy, HB45⟩
                case measure => simp [intOf]; have := HLT.out; omega
              | false =>
                have HFE : Hid (fltL xs (l.take (p2 + 1)) = fltL xs (l.take p2) ++ [x]) := Lib.hid (by rw [HFN.out, HBX.out]; simp)
                have hvz : VZ 1 gy w5 u15 F ((fltL xs (l.take p2)).map (Value.int .i64)) := by
                  have h9 := hRY5
                  unfold RV at h9
                  rw [HF.out] at h9
                  exact h9
                have HVZ := Lib.hid hvz
                have HVZ2 : Hid (∀ o, VZ 1 gy (w5.alloc o) u15 F ((fltL xs (l.take p2)).map (Value.int .i64))) := Lib.hid (fun o => hvz.below (alc0 _ _))
                have HS1 : Hid (∀ T (jj : Nat) (uu : Value), [Value.int .i64 x][jj]? = some uu → (w5.alloc (.cells #[.int .i64 x] T)).cell? ((⟨w5.heap.size, 0, none⟩ : Addr).add jj) = some uu) := Lib.hid (fun T jj uu hj => by
                  have hj0 : jj = 0 := by have := (List.getElem?_eq_some_iff.1 hj).1; simpa using this
                  subst hj0
                  obtain rfl : _ = uu := by simpa using hj
                  rw [addp]
                  simp)
                have HS2 : Hid (∀ uu ∈ [Value.int .i64 x], uu.oneCell' = true) := Lib.hid (fun uu hu => by
                  obtain rfl := List.mem_singleton.1 hu
                  rfl)
                clear hRY5 hvz
                go_wp2_with (at_builtin; refine app_vz tyI rfl (.tmp 98) (.tmp 106) rfl gy _ F _ rfl (HVZ2.out _) ⟨w5.heap.size, 0, none⟩ 1 1 [.int .i64 x] rfl rfl (HS1.out _) HS2.out (.inl (by decide)) (by omega) ?_)
                rintro v' w6 ⟨b6, hb6, hv6, hs6, hk6, hl6⟩
                have hgw5 : wq.heap.size ≤ w5.heap.size := HB45.out.size
                have hRV6 : RV b6 w6 v' (fltL xs (l.take (p2 + 1))) := by
                  unfold RV
                  rw [HFE.out, List.length_append, HF.out, List.map_append]
                  exact hv6
                have HRV6 := Lib.hid hRV6
                have HB6 : Hid (Below wq.heap.size wq w6) := Lib.hid ((alc HB45.out _).trans (hl6 _ hgy (by simp; omega)))
                have hb6l : wq.heap.size ≤ b6 := by
                  rcases hb6 with rfl | h
                  · exact hgy
                  · simp at h; omega
                obtain ⟨A6, c6, rfl, -⟩ := hv6
                clear hb6 hs6 hk6 hl6 hRV6 hFp
                go_wp2_with fail
                go_roundw
                case rel => exact ⟨p2 + 1, b6, F + 1, by have := HLT.out; omega, by go_num, Lib.hid (by rw [HFE.out, List.length_append, HF.out]; rfl), by have := HF5.out; omega, congrArg (Value.int .i64) (by omega), HRV6, hb6l, HB6⟩
                case measure => simp [intOf]; have := HLT.out; omega
        · obtain rfl : p2 = kl := by omega
          have k3 : ¬ (p2 : Int) < (p2 : Int) := by omega
          have HTK : Hid (l.take p2 = l) := Lib.hid (by rw [← HKL.out, List.take_length])
          have HFF : Hid ((fltL xs l).length = F) := Lib.hid (by rw [← HTK.out]; exact HF.out)
          have hRY : RV gy w4 u15 (fltL xs l) := by have h9 := HRY.out; rw [HTK.out] at h9; exact h9
          obtain ⟨Ay, cy, hyv, hyl⟩ : ∃ A c, u15 = .slice A F c ∧ True := by
            obtain ⟨A, c, e, -⟩ := id hRY
            exact ⟨A, c, by rw [e, HFF.out], trivial⟩
          subst hyv
          have HRYL := Lib.hid hRY
          have HML4 := Lib.hid (HML.out.below HB4.out)
          have HGE : Hid (G0 + ((p2 : Int) - (F : Int)) = goneL xs (ls.take (j + 1))) := Lib.hid (by rw [HGN.out, HG0.out, HKL.out, HFF.out])
          clear hyl hRY hlt
          by_cases hF0 : F = 0
          · subst hF0
            have HWE : Hid (wL xs (ls.take (j + 1)) = wL xs (ls.take j)) := Lib.hid (by rw [HWN.out, if_pos HFF.out, List.append_nil])
            go_wp2_with fail
            go_roundw
            case rel => exact ⟨j + 1, bl, gl, lv, by have := HJM.out; omega, by go_num, congrArg (Value.int .i64) (by have := HGE.out; omega), Lib.hid (by rw [HWE.out]; exact HML4.out), hbl, HGL, Lib.hid HBZ4.out⟩
            case measure => simp [intOf]; have := HJM.out; omega
          · have k5 : (0 : Int) < (F : Int) := by omega
            have k6 : (F : Int) > 0 := by omega
            have HWE : Hid (wL xs (ls.take (j + 1)) = wL xs (ls.take j) ++ [fltL xs l]) := Lib.hid (by rw [HWN.out, if_neg (by rw [HFF.out]; exact hF0)])
            obtain ⟨N9, hN9⟩ : ∃ N9, (wL xs (ls.take j)).length = N9 := ⟨_, rfl⟩
            have hN95 : N9 ≤ 5000 := by
              rw [← hN9]
              unfold wL
              have g1 := List.length_filter_le (fun l => !decide (l.length = 0)) ((ls.take j).map (fltL xs))
              rw [List.length_map, List.length_take] at g1
              omega
            have HN9 := Lib.hid hN9
            have hvz := HML4.out.out
            rw [hN9] at hvz
            have HVZ2 : Hid (∀ o, VZ 1 bl (w4.alloc o) u13 N9 lv) := Lib.hid (fun o => hvz.below (alc0 _ _))
            have HS1 : Hid (∀ T (jj : Nat) (uu : Value), [Value.slice Ay F cy][jj]? = some uu → (w4.alloc (.cells #[.slice Ay F cy] T)).cell? ((⟨w4.heap.size, 0, none⟩ : Addr).add jj) = some uu) := Lib.hid (fun T jj uu hj => by
              have hj0 : jj = 0 := by have := (List.getElem?_eq_some_iff.1 hj).1; simpa using this
              subst hj0
              obtain rfl : _ = uu := by simpa using hj
              rw [addp]
              simp)
            have HS2 : Hid (∀ uu ∈ [Value.slice Ay F cy], uu.oneCell' = true) := Lib.hid (fun uu hu => by
              obtain rfl := List.mem_singleton.1 hu
              rfl)
            clear hvz hN9
            go_wp2_with (at_builtin; refine app_vz tyBs rfl (.tmp 111) (.tmp 113) rfl bl _ N9 lv rfl (HVZ2.out _) ⟨w4.heap.size, 0, none⟩ 1 1 [.slice Ay F cy] rfl rfl (HS1.out _) HS2.out (.inl (by decide)) (by omega) ?_)
            intro v' w6 hV6
            have hgyl : gy < w4.heap.size := by
              rcases HRYL.out.open_ with ⟨-, h⟩ | ⟨_, _, -, h, -⟩
              · have h9 := HFF.out
                rw [h] at h9
                simp at h9
                omega
              · exact h
            have hwq : bl < wq.heap.size := HML.out.lt
            have hpush := (HML4.out.below (alc0 w4 (.cells #[.slice Ay F cy] 26))).push (g := gy) (HRYL.out.below (alc0 _ _)) (by rw [HFF.out]; omega) (by simp; omega) (by omega) (by rw [HN9.out]; exact hV6)
            obtain ⟨bl', q1, q2, q3, q4, q5⟩ := hpush
            have HML6 : Hid (MT bl' v' (gl ++ [gy]) (wL xs (ls.take (j + 1))) (lv ++ [.slice Ay F cy]) w6) := Lib.hid (by rw [HWE.out]; exact q2)
            have hzq : wz.heap.size ≤ wq.heap.size := HBQ.out.size
            have hq4 : wq.heap.size ≤ w4.heap.size := HB4.out.size
            have HB6 : Hid (Below wz.heap.size wz w6) := Lib.hid ((alc HBZ4.out _).trans (q5 _ hbl (by simp; omega)))
            have hbl6 : wz.heap.size ≤ bl' := by
              rcases q1 with rfl | h
              · exact hbl
              · simp at h; omega
            have HGL6 : Hid (∀ g ∈ gl ++ [gy], wz.heap.size ≤ g) := Lib.hid (fun g hg => by
              rcases List.mem_append.1 hg with hg | hg
              · exact HGL.out g hg
              · rw [List.mem_singleton.1 hg]
                omega)
            obtain ⟨_, _, ⟨A6, c6, rfl, -⟩, -⟩ := hV6
            clear q1 q2 q3 q4 q5
            go_wp2_with fail
            go_roundw
            case rel => exact ⟨j + 1, bl', gl ++ [gy], _, by have := HJM.out; omega, by go_num, congrArg (Value.int .i64) (by have := HGE.out; omega), HML6, hbl6, HGL6, HB6⟩
            case measure => simp [intOf]; have := HJM.out; omega
    · obtain rfl : j = M := by omega
      have k1 : ¬ (j : Int) < (j : Int) := by omega
      have HTK : Hid (ls.take j = ls) := Lib.hid (by rw [← HMN.out, List.take_length])
      obtain ⟨G, hG⟩ : ∃ G, goneL xs (ls.take j) = G := ⟨_, rfl⟩
      have HG : Hid (goneL xs ls = G) := Lib.hid (by rw [← hG, HTK.out])
      rw [hG]
      have hgg : (G == G) = true := by simp
      have hgn : (G != G) = false := by simp
      have HLPL : Hid (LP W p sz ls u13 (wL xs ls) wq) := Lib.hid (HLP2.out.swap HBQ.out (by have h9 := HML.out; rw [HTK.out] at h9; exact h9) hbl HGL.out)
      obtain ⟨b, v, gs, cs, vals, hT, hnx⟩ := HLPL.out.without_pre
      obtain ⟨sb, so, hA, hcells⟩ : ∃ sb so, (n0 = 0 ∨ qP = some ⟨sb, so, none⟩) ∧ (∀ (i : Nat) (x : Int), xs[i]? = some x → wq.cell? ⟨sb, so + i, none⟩ = some (.int .i64 x)) := by
        rcases (HXC.out wq HLPL.out.bel).1 with h | ⟨sb, so, e1, e2, e3⟩
        · have h0 := HXL.out
          rw [h] at h0
          refine ⟨0, 0, .inl h0.symm, fun i x hx => ?_⟩
          rw [h] at hx
          simp at hx
        · exact ⟨sb, so, .inr e1, e3⟩
      have HW := Lib.hid (bwithout (c := qcp) hA HXL.out hcells (by omega) HXS.out.2.2.2 HNN.2.2.2 hT)
      have HNX := Lib.hid hnx
      clear hT hnx hA hcells hG hlt
      go_wp2_with fail
      refine HW.out.mono ?_
      intro e w4 hpost
      obtain ⟨rfl, hLP4⟩ := HNX.out _ _ _ hpost
      rw [HG.out]
      have HLP4 := Lib.hid hLP4
      clear hpost hLP4 HNX HW
      go_wp2_with fail
      go_meet
      exact ⟨wL xs ls, Lib.hid (HBD.out.without xs h2), HLP4⟩
end Go.Proofs.Ytokdjonnblbegaa
