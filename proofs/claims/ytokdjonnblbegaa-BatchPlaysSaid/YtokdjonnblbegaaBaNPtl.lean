/- A part of the walk. -/
import Derived.Test.YtokdjonnblbegaaBaNS
import Derived.Deep.RegionHeld3
import Derived.Deep.DeepCutAuto
import Derived.Deep.CutBlock
import Derived.RegionTactic
import Derived.BigRegion
namespace Go.Proofs.Ytokdjonnblbegaa
set_option maxRecDepth 100000
open Go.RowKit Go.Maps
set_option linter.unusedVariables false
set_option linter.unusedSimpArgs false

set_option maxHeartbeats 6400000 in
theorem bpStep_tl : bpStep.2.2.2.2.1 := by
  intro n l0 c0 W sz HSZ hsz1 hsz2 N ll0 HN yyn0 u22 u23 u24 u25 u26 u27 yyn1 yyn2 yyn3 yyn4 yyn5 yyn6 yyn7 yyn8 yyn9 yyn10 yyn11 yyn12 yyn13 yyn14 yyn15 yyn16 yyn17 yyn18 yyn19 yyn20 yyn21 yyn22 yyn23 yyn24 yyn25 yyn26 yyn27 yyn28 yyn29 yyn30 yyn31 yyn32 yyn33 yyn34 yyn35 yyn36 yyn37 yyn38 yyn39 yyn40 yyn41 yyn42 yyn43 yyn44 yyn45 yyn46 yyn47 yyn48 yyn49 yyn50 yyn51 yyn52 yyn53 yyn54 yyn55 yyn56 yyn57 yyn58 yyn59 yyn60 yyn61 yyn62 yyn63 yyn64 yyn65 yyn66 yyn67 yyn68 yyn69 yyn70 yyn71 yyn72 yyn73 yyn74 yyn75 yyn76 yyn77 yyn78 yyn79 yyn80 yyn81 yyn82 yyn83 yyn84 yyn85 yyn86 yyn87 yyn88 yyn89 yyn90 yyn91 yyn92 yyn93 yyn94 yyn95 yyn96 yyn97 yyn98 yyn99 yyn100 yyn101 yyn102 yyn103 yyn104 yyn105 yyn106 yyn107 yyn108 yyn109 yyn110 yyn111 yyn112 yyn113 yyn114 yyn115 yyn116 yyn117 yyn118 yyn119 yyn120 yyn121 yyn122 yyn123 yyn124 yyn125 yyn126 yyn127 yyn128 yyn129 yyn130 yyn131 yyn132 yyn133 yyn134 yyn135 yyn136 yyn137 yyn138 yyn139 yyn140 yyn141 yyn142 yyn143 yyn144 yyn145 yyn146 yyn147 yyn148 yyn149 yyn150 yyn151 yyn152 yyn153 yyn154 yyn155 yyn156 yyn157 yyn158 yyn159 yyn160 yyn161 yyn162 yyn163 yyn164 yyn165 yyn166 u197 u198 u199 u200 u201 u202 u203 u204 u205 u206 u207 u208 u209 u210 u211 u212 u213 u214 u215 u216 u217 u218 u219 u220 u221 u222 u223 u224 u225 u226 u227 u228 w1 yyn167 yyn168 w2 p HP wr yyn169 yyn170 u9 yyn171 yyn172 yyn173 yyn174 yyn175 yyn176 yyn177 yyn178 yyn179 u19 u20 yyn180 yyn181 yyn182 yyn183 yyn184 yyn185 yyn186 yyn187 yyn188 yyn189 yyn190 yyn191 yyn192 yyn193 yyn194 yyn195 yyn196 yyn197 yyn198 yyn199 yyn200 yyn201 yyn202 yyn203 yyn204 yyn205 yyn206 yyn207 u56 yyn208 yyn209 yyn210 yyn211 yyn212 yyn213 yyn214 yyn215 yyn216 yyn217 yyn218 yyn219 yyn220 yyn221 yyn222 yyn223 yyn224 yyn225 yyn226 yyn227 yyn228 yyn229 yyn230 yyn231 yyn232 yyn233 yyn234 yyn235 yyn236 yyn237 yyn238 yyn239 yyn240 yyn241 yyn242 yyn243 yyn244 yyn245 yyn246 yyn247 yyn248 yyn249 yyn250 yyn251 yyn252 yyn253 yyn254 yyn255 yyn256 yyn257 yyn258 yyn259 yyn260 yyn261 yyn262 yyn263 yyn264 yyn265 yyn266 yyn267 yyn268 yyn269 yyn270 yyn271 yyn272 yyn273 yyn274 yyn275 yyn276 yyn277 yyn278 yyn279 yyn280 yyn281 yyn282 yyn283 yyn284 yyn285 yyn286 yyn287 yyn288 yyn289 yyn290 yyn291 yyn292 yyn293 yyn294 yyn295 yyn296 yyn297 yyn298 yyn299 yyn300 yyn301 yyn302 yyn303 yyn304 yyn305 yyn306 yyn307 yyn308 yyn309 yyn310 yyn311 yyn312 yyn313 yyn314 yyn315 yyn316 yyn317 yyn318 yyn319 yyn320 yyn321 yyn322 yyn323 yyn324 yyn325 yyn326 yyn327 yyn328 yyn329 yyn330 yyn331 yyn332 yyn333 yyn334 yyn335 yyn336 yyn337 yyn338 yyn339 yyn340 yyn341 yyn342 yyn343 yyn344 yyn345 yyn346 yyn347 i ls hiN HBD yyn348 yyn349 yyn350 yyn351 yyn352 yyn353 yyn354 yyn355 yyn356 yyn357 yyn358 yyn359 yyn360 yyn361 yyn362 yyn363 yyn364 yyn365 yyn366 yyn367 yyn368 yyn369 yyn370 yyn371 yyn372 yyn373 yyn374 yyn375 yyn376 yyn377 yyn378 yyn379 yyn380 yyn381 yyn382 yyn383 yyn384 yyn385 yyn386 yyn387 yyn388 yyn389 yyn390 yyn391 yyn392 yyn393 yyn394 yyn395 yyn396 yyn397 yyn398 yyn399 yyn400 yyn401 yyn402 yyn403 yyn404 yyn405 yyn406 yyn407 yyn408 yyn409 yyn410 yyn411 yyn412 yyn413 yyn414 yyn415 yyn416 yyn417 yyn418 yyn419 yyn420 yyn421 yyn422 yyn423 yyn424 yyn425 yyn426 yyn427 yyn428 yyn429 yyn430 yyn431 yyn432 yyn433 yyn434 yyn435 yyn436 yyn437 yyn438 yyn439 yyn440 yyn441 yyn442 yyn443 yyn444 yyn445 yyn446 yyn447 yyn448 yyn449 yyn450 yyn451 yyn452 yyn453 yyn454 yyn455 yyn456 yyn457 yyn458 yyn459 yyn460 yyn461 yyn462 yyn463 yyn464 yyn465 yyn466 yyn467 yyn468 yyn469 yyn470 yyn471 yyn472 yyn473 yyn474 yyn475 yyn476 yyn477 yyn478 yyn479 yyn480 yyn481 yyn482 yyn483 yyn484 yyn485 yyn486 yyn487 yyn488 yyn489 yyn490 yyn491 yyn492 yyn493 yyn494 yyn495 yyn496 yyn497 yyn498 yyn499 yyn500 yyn501 yyn502 yyn503 yyn504 yyn505 yyn506 yyn507 yyn508 yyn509 yyn510 yyn511 yyn512 h1 h2 i1 i2 q ab ao HAC yyn513 hab0 yyn514 yyn515 n0 hn3 yyn516 yyn517 yyn518 yyn519 yyn520 yyn521 yyn522 yyn523 yyn524 yyn525 yyn526 yyn527 yyn528 yyn529 yyn530 yyn531 yyn532 yyn533 yyn534 yyn535 yyn536 yyn537 yyn538 yyn539 yyn540 yyn541 yyn542 yyn543 yyn544 yyn545 yyn546 yyn547 yyn548 yyn549 yyn550 yyn551 yyn552 yyn553 yyn554 yyn555 yyn556 yyn557 yyn558 yyn559 yyn560 yyn561 yyn562 yyn563 yyn564 yyn565 yyn566 yyn567 yyn568 yyn569 yyn570 yyn571 yyn572 yyn573 yyn574 yyn575 yyn576 yyn577 yyn578 yyn579 yyn580 yyn581 yyn582 yyn583 yyn584 yyn585 yyn586 yyn587 yyn588 yyn589 yyn590 yyn591 yyn592 yyn593 yyn594 yyn595 yyn596 yyn597 yyn598 yyn599 yyn600 yyn601 yyn602 yyn603 yyn604 yyn605 yyn606 yyn607 yyn608 yyn609 yyn610 yyn611 yyn612 yyn613 yyn614 yyn615 yyn616 yyn617 yyn618 yyn619 yyn620 yyn621 yyn622 yyn623 yyn624 yyn625 yyn626 yyn627 yyn628 yyn629 yyn630 yyn631 yyn632 yyn633 yyn634 yyn635 yyn636 yyn637 yyn638 yyn639 yyn640 yyn641 yyn642 yyn643 yyn644 yyn645 yyn646 yyn647 yyn648 yyn649 yyn650 yyn651 yyn652 yyn653 yyn654 yyn655 yyn656 yyn657 yyn658 yyn659 yyn660 yyn661 yyn662 yyn663 yyn664 yyn665 yyn666 yyn667 yyn668 yyn669 yyn670 yyn671 yyn672 yyn673 yyn674 yyn675 yyn676 yyn677 yyn678 yyn679 yyn680 yyn681 xs HXL kd hkd4 hsz16 wz HLP2 qP qcp hncp HXS qw f3 c0z yyn682 yyn683 wc u4 u7 u10 u11 u12 u13 u14 u15 u16 u17 u18 u28 u29 u30 u31 u32 u33 u34 u35 u36 u37 u38 u39 u40 u41 u42 u43 u44 u45 u46 u47 u48 u49 u50 u51 u52 u53 u54 u55 u57 u58 u59 u60 u61 u62 u63 u64 u65 u66 u67 u68 u69 u70 u71 u72 u73 u74 u75 u76 u77 u78 u79 u80 u81 u82 u83 u84 u85 u86 u87 u88 u89 u90 u91 u92 u93 u94 u95 u96 u97 u98 u99 u100 u101 u102 u103 u104 u105 u106 u107 u108 u109 u110 u111 u112 u113 u114 u115 u116 u117 u118 u119 u120 u121 u122 u123 u124 u125 u126 u127 u128 u129 u130 u131 u132 u133 u134 u135 u136 u137 u138 u139 u140 u141 u142 u143 u144 u145 u146 u147 u148 u149 u150 u151 u152 u153 u154 u155 u156 u157 u158 u159 u160 u161 u162 u163 u164 u165 u166 u167 u168 u169 u170 u171 u172 u173 u174 u175 u176 u177 u178 u179 u180 u181 u182 u183 u184 u185 u186 u187 u188 u189 u190 u191 u192 u193 u194 u195 u196 lsn HBN HLN
  clear HAC HXS
  have HNN := HBN.out
  have hWz := HLN.out.bel
  obtain ⟨bm, gm, mv, hM, hWbm⟩ := HLN.out.mt
  have HM := Lib.hid hM
  obtain ⟨M, hM9⟩ : ∃ M, lsn.length = M := ⟨_, rfl⟩
  have HMN := Lib.hid hM9
  have hM5 : M ≤ 5000 := by have := HNN.2.1; have := HNN.1; omega
  have hu7 : ∃ A c, u7 = .slice A M c ∧ (0 < M → ∃ off, A = some ⟨bm, off, none⟩ ∧ ∀ (j : Nat) (u : Value), mv[j]? = some u → wc.cell? ⟨bm, off + j, none⟩ = some u) := by
    obtain ⟨A, c, e, h1, h2, h3, h4, ⟨e1, e2, e3⟩ | ⟨off, e1, e2, e3, e4⟩⟩ := hM.out
    · exact ⟨A, c, by rw [e, hM9], fun h => by omega⟩
    · exact ⟨A, c, by rw [e, hM9], fun _ => ⟨off, e1, fun j u hj => e3 j u hj⟩⟩
  obtain ⟨A7, c7, hv7, hA7⟩ := hu7
  subst hv7
  have HA7 := Lib.hid hA7
  have hbz : bm < wc.heap.size := hM.lt
  clear hM hM9 hA7 hWbm
  go_wp2_with fail
  obtain ⟨w3, hw3⟩ : ∃ w3, wc.alloc (.cells #[] 3) = w3 := ⟨_, rfl⟩
  have hRi : RV wc.heap.size w3 (.slice (some ⟨wc.heap.size, 0, none⟩) 0 0) [] := by rw [← hw3]; exact vz_made 1 wc _
  have hb3 : Below wc.heap.size wc w3 := by rw [← hw3]; exact alc0 _ _
  rw [hw3]
  have HRI := Lib.hid hRi
  have HB3 := Lib.hid hb3
  clear hw3 hRi hb3
  go_loopw [19, 20] (fun v19 v20 wq => ∃ (j : Nat) (ga : Nat), j ≤ M ∧ v20 = .int .i64 j ∧ Hid (RV ga wq v19 (catL lsn j)) ∧ wc.heap.size ≤ ga ∧ Hid (Below wc.heap.size wc wq)) (fun _ v20 _ => M - (intOf v20).toNat)
  case atStart => exact ⟨0, _, by omega, rfl, HRI, Nat.le_refl _, HB3⟩
  case round =>
    rename World => wq
    obtain ⟨j, ga, hjM, rfl, HRA, hga, HBQ⟩ := hrel
    by_cases hlt : j < M
    · obtain ⟨l, hl⟩ : ∃ l, lsn[j]? = some l := ⟨lsn[j]'(by have := HMN.out; omega), List.getElem?_eq_getElem _⟩
      obtain ⟨g, u, a1, a2, a3, a4, a5⟩ := HM.out.at_ j l hl
      obtain ⟨offm, rfl, hcell⟩ := HA7.out (by omega)
      have cj := (HBQ.out.cell (p := ⟨bm, offm + j, none⟩) hbz).trans (hcell j u a2)
      obtain ⟨ol, cl, rfl, b1, b2, b3, b4⟩ : ∃ ol cl, u = .slice (some ⟨g, ol, none⟩) l.length cl ∧ g < wc.heap.size ∧ l.length ≤ cl ∧ cl ≤ 9223372036854775807 ∧ ∀ (i : Nat) (x : Int), l[i]? = some x → wc.cell? ⟨g, ol + i, none⟩ = some (.int .i64 x) := by
        rcases a4.open_ with ⟨-, h⟩ | h
        · rw [h] at a3
          simp at a3
        · exact h
      have HCN := Lib.hid (catL_next hl)
      have hsum : sumL lsn j + l.length ≤ 5000 := by
        have g1 := HNN.2.2.1
        have g2 := HNN.1
        have g3 := sumL_le lsn (j + 1)
        have g4 := sumL_next hl
        omega
      obtain ⟨kl, hkl⟩ : ∃ kl, l.length = kl := ⟨_, rfl⟩
      have HKL := Lib.hid hkl
      have HSRC : Hid (∀ (jj : Nat) (uu : Value), (l.map (Value.int .i64))[jj]? = some uu → wq.cell? ((⟨g, ol, none⟩ : Addr).add jj) = some uu) := Lib.hid (fun jj uu hu => by
        rw [List.getElem?_map] at hu
        obtain ⟨y, hy, rfl⟩ := Option.map_eq_some_iff.1 hu
        rw [addp]
        exact (HBQ.out.cell (p := ⟨g, ol + jj, none⟩) b1).trans (b4 jj y hy))
      have HONE : Hid (∀ uu ∈ l.map (Value.int .i64), uu.oneCell' = true) := Lib.hid (fun uu hu => by
        obtain ⟨y, -, rfl⟩ := List.mem_map.1 hu
        rfl)
      have HLEN : Hid ((l.map (Value.int .i64)).length = kl * 1) := Lib.hid (by rw [List.length_map, hkl, Nat.mul_one])
      have hkp : 0 < kl := by omega
      obtain ⟨S9, hS9⟩ : ∃ S9, sumL lsn j = S9 := ⟨_, rfl⟩
      have hvz : VZ 1 ga wq u19 S9 ((catL lsn j).map (Value.int .i64)) := by
        have h9 := HRA.out
        unfold RV at h9
        rw [catL_len, hS9] at h9
        exact h9
      have HVZ := Lib.hid hvz
      have HSL : Hid (sumL lsn j = S9) := Lib.hid hS9
      rw [hS9, hkl] at hsum
      rw [hkl] at cj
      have k1 : (j : Int) < (M : Int) := by omega
      have k2 : (0 : Int) ≤ (j : Int) := by omega
      have HLT := Lib.hid hlt
      clear a1 a2 a3 a4 a5 hcell b1 b2 b3 b4 hkl hl hvz hS9 hlt hjM
      go_wp2_with (at_builtin; refine app_vz tyI rfl (.tmp 179) (.tmp 183) rfl ga _ S9 _ rfl HVZ.out ⟨g, ol, none⟩ kl cl (l.map (Value.int .i64)) rfl HLEN.out HSRC.out HONE.out (.inl hkp) (by omega) ?_)
      rintro v' w6 ⟨b6, hb6, hv6, hs6, hk6, hl6⟩
      have hwqs : wc.heap.size ≤ wq.heap.size := HBQ.out.size
      have HRV6 : Hid (RV b6 w6 v' (catL lsn (j + 1))) := Lib.hid (by
        unfold RV
        rw [HCN.out, List.length_append, catL_len, HSL.out, HKL.out, List.map_append]
        exact hv6)
      have HB6 : Hid (Below wc.heap.size wc w6) := Lib.hid (HBQ.out.trans (hl6 _ hga hwqs))
      have hb6l : wc.heap.size ≤ b6 := by
        rcases hb6 with rfl | h
        · exact hga
        · omega
      obtain ⟨A6, c6, rfl, -⟩ := hv6
      clear hb6 hs6 hk6 hl6
      go_wp2_with fail
      go_roundw
      case rel => exact ⟨j + 1, b6, by have := HLT.out; omega, by go_num, HRV6, hb6l, HB6⟩
      case measure => simp [intOf]; have := HLT.out; omega
    · obtain rfl : j = M := by omega
      have k1 : ¬ (j : Int) < (j : Int) := by omega
      have HFL : Hid (catL lsn j = lsn.flatten) := Lib.hid (by unfold catL; rw [← HMN.out, List.take_length])
      have hLQ := HLN.out.below HBQ.out
      obtain ⟨b, v, gs, cs, vals, hT⟩ := hLQ.bt
      have HT := Lib.hid hT
      have HLQ := Lib.hid hLQ
      have hRA : RV ga wq u19 lsn.flatten := by rw [← HFL.out]; exact HRA.out
      obtain ⟨F9, hF9⟩ : ∃ F9, lsn.flatten.length = F9 := ⟨_, rfl⟩
      have hSF : (lsn.map List.length).sum = F9 := by rw [← hF9, List.length_flatten]
      have hF5 : F9 ≤ 5000 := by
        have g1 := HNN.2.2.1
        have g2 := HNN.1
        omega
      obtain ⟨Aa, ca, hva⟩ : ∃ A c, u19 = .slice A F9 c := by
        obtain ⟨A, c, e, -⟩ := id hRA
        exact ⟨A, c, by rw [e, hF9]⟩
      subst hva
      have HRA2 := Lib.hid hRA
      have HF9 := Lib.hid hF9
      have HSF := Lib.hid hSF
      have kk : ((F9 : Int) != (F9 : Int)) = false := by simp
      have kk2 : ((F9 : Int) == (F9 : Int)) = true := by simp
      clear hlt hT hLQ hRA hF9 hSF
      go_wp2_with fail
      refine (blist HT.out).mono ?_
      rintro e w4 ⟨r, g4, rfl, hg4, hv4, hb4⟩
      have HR4 : Hid (RV g4 w4 r lsn.flatten) := Lib.hid hv4
      have HRA4 := Lib.hid (HRA2.out.below hb4)
      have HLQ4 := Lib.hid (HLQ.out.below hb4)
      clear hv4 hb4 hg4
      go_wp2_with fail
      refine (bsame HR4.out HRA4.out (by rw [HF9.out]; omega)).mono ?_
      rintro e w5 ⟨rfl, hb5⟩
      have HLQ5 := Lib.hid (HLQ4.out.below hb5)
      obtain ⟨b5, v5, gs5, cs5, vals5, hT5⟩ := HLQ5.out.bt
      have HT5 := Lib.hid hT5
      clear hb5 hT5
      go_wp2_with fail
      refine (blen HT5.out).mono ?_
      rintro e w6 ⟨rfl, rfl⟩
      rw [HSF.out]
      go_wp2_with fail
      go_roundw
      case rel => exact ⟨i + 1, lsn, by go_num, by omega, HBN, HLQ5⟩
      case measure => simp [intOf]; omega
end Go.Proofs.Ytokdjonnblbegaa
