/- A part of the walk. -/
import Derived.Test.YtokdjonnblbegaaBaNS
import Derived.Deep.RegionHeld3
import Derived.Deep.DeepCutAuto
import Derived.Deep.CutBlock
import Derived.RegionTactic
import Derived.BigRegion
namespace Go.Proofs.Ytokdjonnblbegaa
set_option maxRecDepth 100000
open Go.RowKit Go.Maps
set_option linter.unusedVariables false
set_option linter.unusedSimpArgs false

set_option maxHeartbeats 6400000 in
theorem bpStep_wc : bpStep.2.2.1 := by
  intro n l0 c0 W sz HSZ hsz1 hsz2 N ll0 HN yyn0 u22 u23 u24 u25 u26 u27 yyn1 yyn2 yyn3 yyn4 yyn5 yyn6 yyn7 yyn8 yyn9 yyn10 yyn11 yyn12 yyn13 yyn14 yyn15 yyn16 yyn17 yyn18 yyn19 yyn20 yyn21 yyn22 yyn23 yyn24 yyn25 yyn26 yyn27 yyn28 yyn29 yyn30 yyn31 yyn32 yyn33 yyn34 yyn35 yyn36 yyn37 yyn38 yyn39 yyn40 yyn41 yyn42 yyn43 yyn44 yyn45 yyn46 yyn47 yyn48 yyn49 yyn50 yyn51 yyn52 yyn53 yyn54 yyn55 yyn56 yyn57 yyn58 yyn59 yyn60 yyn61 yyn62 yyn63 yyn64 yyn65 yyn66 yyn67 yyn68 yyn69 yyn70 yyn71 yyn72 yyn73 yyn74 yyn75 yyn76 yyn77 yyn78 yyn79 yyn80 yyn81 yyn82 yyn83 yyn84 yyn85 yyn86 yyn87 yyn88 yyn89 yyn90 yyn91 yyn92 yyn93 yyn94 yyn95 yyn96 yyn97 yyn98 yyn99 yyn100 yyn101 yyn102 yyn103 yyn104 yyn105 yyn106 yyn107 yyn108 yyn109 yyn110 yyn111 yyn112 yyn113 yyn114 yyn115 yyn116 yyn117 yyn118 yyn119 yyn120 yyn121 yyn122 yyn123 yyn124 yyn125 yyn126 yyn127 yyn128 yyn129 yyn130 yyn131 yyn132 yyn133 yyn134 yyn135 yyn136 yyn137 yyn138 yyn139 yyn140 yyn141 yyn142 yyn143 yyn144 yyn145 yyn146 yyn147 yyn148 yyn149 yyn150 yyn151 yyn152 yyn153 yyn154 yyn155 yyn156 yyn157 yyn158 yyn159 yyn160 yyn161 yyn162 yyn163 yyn164 yyn165 yyn166 u197 u198 u199 u200 u201 u202 u203 u204 u205 u206 u207 u208 u209 u210 u211 u212 u213 u214 u215 u216 u217 u218 u219 u220 u221 u222 u223 u224 u225 u226 u227 u228 w1 yyn167 yyn168 w2 p HP wr u4 u7 u9 u10 u11 u12 u13 u14 u15 u16 u17 u18 u19 u20 yyn169 yyn170 yyn171 yyn172 yyn173 yyn174 yyn175 yyn176 yyn177 yyn178 yyn179 yyn180 yyn181 yyn182 yyn183 yyn184 yyn185 yyn186 yyn187 yyn188 yyn189 yyn190 yyn191 yyn192 yyn193 yyn194 yyn195 yyn196 u56 yyn197 yyn198 yyn199 yyn200 yyn201 yyn202 yyn203 yyn204 yyn205 yyn206 yyn207 yyn208 yyn209 yyn210 yyn211 yyn212 yyn213 yyn214 yyn215 yyn216 yyn217 yyn218 yyn219 yyn220 yyn221 yyn222 yyn223 yyn224 yyn225 yyn226 yyn227 yyn228 yyn229 yyn230 yyn231 yyn232 yyn233 yyn234 yyn235 yyn236 yyn237 yyn238 yyn239 yyn240 yyn241 yyn242 yyn243 yyn244 yyn245 yyn246 yyn247 yyn248 yyn249 yyn250 yyn251 yyn252 yyn253 yyn254 yyn255 yyn256 yyn257 yyn258 yyn259 yyn260 u121 yyn261 yyn262 yyn263 yyn264 yyn265 yyn266 yyn267 yyn268 yyn269 yyn270 yyn271 yyn272 yyn273 yyn274 yyn275 yyn276 yyn277 yyn278 yyn279 yyn280 yyn281 yyn282 yyn283 yyn284 yyn285 yyn286 u148 yyn287 yyn288 yyn289 yyn290 yyn291 yyn292 yyn293 yyn294 yyn295 yyn296 yyn297 yyn298 yyn299 yyn300 yyn301 yyn302 yyn303 yyn304 yyn305 yyn306 yyn307 yyn308 yyn309 yyn310 yyn311 yyn312 yyn313 yyn314 yyn315 yyn316 yyn317 yyn318 yyn319 yyn320 yyn321 yyn322 yyn323 yyn324 yyn325 yyn326 yyn327 yyn328 yyn329 yyn330 yyn331 yyn332 yyn333 yyn334 i ls hiN HBD yyn335 yyn336 yyn337 yyn338 yyn339 yyn340 yyn341 yyn342 yyn343 yyn344 yyn345 yyn346 yyn347 yyn348 yyn349 yyn350 yyn351 yyn352 yyn353 yyn354 yyn355 yyn356 yyn357 yyn358 yyn359 yyn360 yyn361 yyn362 yyn363 yyn364 yyn365 yyn366 yyn367 yyn368 yyn369 yyn370 yyn371 yyn372 yyn373 yyn374 yyn375 yyn376 yyn377 yyn378 yyn379 yyn380 yyn381 yyn382 yyn383 yyn384 yyn385 yyn386 yyn387 yyn388 yyn389 yyn390 yyn391 yyn392 yyn393 yyn394 yyn395 yyn396 yyn397 yyn398 yyn399 yyn400 yyn401 yyn402 yyn403 yyn404 yyn405 yyn406 yyn407 yyn408 yyn409 yyn410 yyn411 yyn412 yyn413 yyn414 yyn415 yyn416 yyn417 yyn418 yyn419 yyn420 yyn421 yyn422 yyn423 yyn424 yyn425 yyn426 yyn427 yyn428 yyn429 yyn430 yyn431 yyn432 yyn433 yyn434 yyn435 yyn436 yyn437 yyn438 yyn439 yyn440 yyn441 yyn442 yyn443 yyn444 yyn445 yyn446 yyn447 yyn448 yyn449 yyn450 yyn451 yyn452 yyn453 yyn454 yyn455 yyn456 yyn457 yyn458 yyn459 yyn460 yyn461 yyn462 yyn463 yyn464 yyn465 yyn466 yyn467 yyn468 yyn469 yyn470 yyn471 yyn472 yyn473 yyn474 yyn475 yyn476 yyn477 yyn478 yyn479 yyn480 yyn481 yyn482 yyn483 yyn484 yyn485 yyn486 yyn487 yyn488 yyn489 yyn490 yyn491 yyn492 yyn493 yyn494 yyn495 yyn496 yyn497 yyn498 yyn499 h1 h2 i1 i2 q ab ao HAC yyn500 hab0 yyn501 yyn502 n0 hn3 u28 u29 u30 u31 u32 u33 u34 u35 u36 u37 u38 u39 u40 u41 u42 u43 u44 u45 u46 u47 u48 u49 u50 u51 u52 u53 u54 u55 u57 u58 u59 u60 u61 u62 u63 u64 u65 u66 u67 u68 u69 u70 u71 u72 u73 u74 u75 u76 u77 u78 u79 u80 u81 u82 u83 u84 u85 u86 u87 u88 u89 u90 u91 u92 u93 u94 u95 u96 u97 u98 u99 u100 u101 u102 u103 u104 u105 u106 u107 u108 u109 u110 u111 u112 u113 u114 u115 u116 u117 u118 u119 u120 u122 u123 u124 u125 u126 u127 u128 u129 u130 u131 u132 u133 u134 u135 u136 u137 u138 u139 u140 u141 u142 u143 u144 u145 u146 u147 u149 u150 u151 u152 u153 u154 u155 u156 u157 u158 u159 u160 u161 u162 u163 u164 u165 u166 u167 u168 u169 u170 u171 u172 u173 u174 u175 u176 u177 u178 u179 u180 u181 u182 u183 u184 u185 u186 u187 u188 u189 u190 u191 u192 u193 u194 u195 u196 xs HXL hsz16 wz HLP2 qP qcp hncp HXS qw c0z yyn503 yyn504 yyn505 yyn506 yyn507 f3 yyn508
  clear HAC HSZ c0z
  have HNN := HBD.out
  by_cases hnil : ls = []
  · subst hnil
    obtain ⟨b, v, gs, cs, vals, hT⟩ := HLP2.out.bt
    obtain ⟨bm, gm, mv, hM, -⟩ := HLP2.out.mt
    have hgs : gs = [] := List.length_eq_zero_iff.1 (by have := hT.inn.lg; simpa using this)
    have hcs : cs = [] := List.length_eq_zero_iff.1 (by have := hT.inn.lc; simpa using this)
    have hvs : vals = [] := List.length_eq_zero_iff.1 (by have := hT.inn.lv; simpa using this)
    subst hgs hcs hvs
    have HT := Lib.hid hT
    have hu7 : ∃ A c, u7 = .slice A 0 c := by
      obtain ⟨A, c, e, -⟩ := hM.out
      exact ⟨A, c, e⟩
    clear hT hM
    obtain ⟨A7, c7, rfl⟩ := hu7
    go_wp2_with fail
    refine (btake_none HT.out).mono ?_
    rintro e w3 ⟨rfl, rfl⟩
    go_wp2_with fail
    exact ⟨⟨i + 1, [], by go_num, by omega, Lib.hid (HBD.out.next h2), HLP2⟩, by simp [intOf]; omega⟩
  · obtain ⟨ls0, l, rfl⟩ : ∃ ls0 l, ls = ls0 ++ [l] := ⟨_, _, (List.dropLast_concat_getLast hnil).symm⟩
    clear hnil
    obtain ⟨b, v, gs0, g, cs0, c, vals0, u, hT, hnx⟩ := HLP2.out.take_pre
    have HT := Lib.hid hT
    have HNX := Lib.hid hnx
    clear hT hnx
    obtain ⟨bm, gm, mv, hM, -⟩ := HLP2.out.mt
    obtain ⟨off, cm, hv7, hm1, hm2, hm3⟩ := hM.open_ (by simp)
    subst hv7
    clear hM hm3
    obtain ⟨N9, hN9⟩ : ∃ N9, ls0.length = N9 := ⟨_, rfl⟩
    have hN95 : N9 ≤ 5000 := by
      have g1 := HNN.2.1
      have g2 := HNN.1
      rw [List.length_append, List.length_singleton] at g1
      omega
    obtain ⟨N1, hN1⟩ : ∃ N1, N9 + 1 = N1 := ⟨_, rfl⟩
    have hlen : (ls0 ++ [l]).length = N1 := by rw [List.length_append, List.length_singleton]; omega
    rw [hlen] at hm1 ⊢
    have n1 : ¬ (N1 : Int) = 0 := by omega
    have n2 : (N1 : Int) - 1 = (N9 : Int) := by omega
    have n3 : (N9 : Int) < (N1 : Int) := by omega
    have n4 : (0 : Int) ≤ (N9 : Int) := by omega
    have n5 : N9 ≤ cm := by omega
    have n6 : (N9 : Int) ≤ (cm : Int) := by omega
    have HLEN := Lib.hid hlen
    have HN9 := Lib.hid hN9
    have HN1 := Lib.hid hN1
    clear hlen hN9 hN1
    go_wp2_with fail
    refine (btake HT.out).mono ?_
    intro e w3 hpost
    obtain ⟨rfl, hLP3, hR3⟩ := HNX.out e w3 hpost
    clear hpost HNX HT
    have HLP3 := Lib.hid hLP3
    have HR3 := Lib.hid hR3
    obtain ⟨bm2, gm2, mv2, hM2, hWbm⟩ := hLP3.mt
    obtain ⟨off2, cm2, e9, -, -, hm3⟩ := hM2.open_ (by simp)
    rw [HLEN.out] at e9
    injection e9 with e9 _ e10
    injection e9 with e9
    injection e9 with e9 e11 _
    subst e9 e10 e11
    obtain ⟨gl, ul, a1, a2, a3, a4, a5⟩ := hM2.at_ N9 l (by rw [← HN9.out]; simp)
    have clast := hm3 N9 ul a2
    have HA4 := Lib.hid a4
    obtain ⟨Al, cl, hul, -⟩ := id a4
    subst hul
    have hll : l.length ≤ 100000 := by
      have g1 := HNN.2.2.1
      have g2 := HNN.1
      rw [List.map_append, List.sum_append_nat] at g1
      simp only [List.map_cons, List.map_nil, List.sum_cons, List.sum_nil] at g1
      omega
    have HLL := Lib.hid hll
    clear hM2 hm3 a1 a2 a3 a4 a5 hLP3 hR3
    go_wp2_with fail
    refine (bsame HR3.out HA4.out HLL.out).mono ?_
    rintro e w4 ⟨rfl, hb4⟩
    have HLP4 : Hid (LP W p sz ls0 (.slice (some ⟨bm, off, none⟩) ls0.length cm) ls0 w4) := Lib.hid ((HLP3.out.below hb4).pop (by rw [List.length_append, List.length_singleton]))
    clear hb4 clast
    go_wp2_with fail
    go_meet
    exact ⟨ls0, Lib.hid (HBD.out.pop h2), Lib.hid (by rw [HN9.out] at HLP4; exact HLP4.out)⟩
end Go.Proofs.Ytokdjonnblbegaa
