/- A part of the walk. -/
import Derived.Test.YtokdjonnblbegaaBaNS
import Derived.Deep.RegionHeld3
import Derived.Deep.DeepCutAuto
import Derived.Deep.CutBlock
import Derived.RegionTactic
import Derived.BigRegion
namespace Go.Proofs.Ytokdjonnblbegaa
set_option maxRecDepth 100000
open Go.RowKit Go.Maps
set_option linter.unusedVariables false
set_option linter.unusedSimpArgs false

set_option maxHeartbeats 6400000 in
theorem bpStep_out : bpStep.2.2.2.2.2.1 := by
  intro n A0 l0 c0 W sz HSZ hsz1 hsz2 HAC N ll0 HN yyn0 u22 u23 u24 u25 u26 u27 yyn1 yyn2 yyn3 yyn4 yyn5 yyn6 yyn7 yyn8 yyn9 yyn10 yyn11 yyn12 yyn13 yyn14 yyn15 yyn16 yyn17 yyn18 yyn19 yyn20 yyn21 yyn22 yyn23 yyn24 yyn25 yyn26 yyn27 yyn28 yyn29 yyn30 yyn31 yyn32 yyn33 yyn34 yyn35 yyn36 yyn37 yyn38 yyn39 yyn40 yyn41 yyn42 yyn43 yyn44 yyn45 yyn46 yyn47 yyn48 yyn49 yyn50 yyn51 yyn52 yyn53 yyn54 yyn55 yyn56 yyn57 yyn58 yyn59 yyn60 yyn61 yyn62 yyn63 yyn64 yyn65 yyn66 yyn67 yyn68 yyn69 yyn70 yyn71 yyn72 yyn73 yyn74 yyn75 yyn76 yyn77 yyn78 yyn79 yyn80 yyn81 yyn82 yyn83 yyn84 yyn85 yyn86 yyn87 yyn88 yyn89 yyn90 yyn91 yyn92 yyn93 yyn94 yyn95 yyn96 yyn97 yyn98 yyn99 yyn100 yyn101 yyn102 yyn103 yyn104 yyn105 yyn106 yyn107 yyn108 yyn109 yyn110 yyn111 yyn112 yyn113 yyn114 yyn115 yyn116 yyn117 yyn118 yyn119 yyn120 yyn121 yyn122 yyn123 yyn124 yyn125 yyn126 yyn127 yyn128 yyn129 yyn130 yyn131 yyn132 yyn133 yyn134 yyn135 yyn136 yyn137 yyn138 yyn139 yyn140 yyn141 yyn142 yyn143 yyn144 yyn145 yyn146 yyn147 yyn148 yyn149 yyn150 yyn151 yyn152 yyn153 yyn154 yyn155 yyn156 yyn157 yyn158 yyn159 yyn160 yyn161 yyn162 yyn163 yyn164 yyn165 yyn166 u197 u198 u199 u200 u201 u202 u203 u204 u205 u206 u207 u208 u209 u210 u211 u212 u213 u214 u215 u216 u217 u218 u219 u220 u221 u222 u223 u224 u225 u226 u227 u228 w1 yyn167 yyn168 w2 p HP wr u4 u7 u9 u10 u11 u12 u13 u14 u15 u16 u17 u18 u19 u20 yyn169 yyn170 yyn171 yyn172 yyn173 yyn174 yyn175 u35 yyn176 yyn177 yyn178 yyn179 yyn180 yyn181 yyn182 yyn183 yyn184 yyn185 yyn186 yyn187 yyn188 yyn189 yyn190 yyn191 yyn192 yyn193 yyn194 yyn195 u56 yyn196 yyn197 yyn198 yyn199 yyn200 yyn201 yyn202 yyn203 yyn204 yyn205 yyn206 yyn207 yyn208 yyn209 yyn210 yyn211 yyn212 yyn213 yyn214 yyn215 yyn216 yyn217 yyn218 yyn219 yyn220 yyn221 yyn222 yyn223 yyn224 yyn225 yyn226 yyn227 yyn228 yyn229 yyn230 yyn231 yyn232 yyn233 yyn234 yyn235 yyn236 yyn237 yyn238 yyn239 yyn240 yyn241 yyn242 yyn243 yyn244 yyn245 yyn246 yyn247 yyn248 yyn249 yyn250 yyn251 yyn252 yyn253 yyn254 yyn255 yyn256 yyn257 yyn258 yyn259 u121 yyn260 yyn261 yyn262 yyn263 yyn264 yyn265 yyn266 yyn267 yyn268 yyn269 yyn270 yyn271 yyn272 yyn273 yyn274 yyn275 yyn276 yyn277 yyn278 yyn279 yyn280 yyn281 yyn282 yyn283 yyn284 yyn285 u148 yyn286 yyn287 yyn288 yyn289 yyn290 yyn291 yyn292 yyn293 yyn294 yyn295 yyn296 yyn297 yyn298 yyn299 yyn300 yyn301 yyn302 yyn303 yyn304 yyn305 yyn306 yyn307 yyn308 yyn309 yyn310 yyn311 yyn312 yyn313 yyn314 yyn315 yyn316 yyn317 yyn318 yyn319 yyn320 yyn321 yyn322 yyn323 yyn324 yyn325 yyn326 yyn327 yyn328 yyn329 yyn330 yyn331 yyn332 yyn333 i ls hiN HBD HLP yyn334 yyn335 yyn336 yyn337 yyn338 u28 u29 u30 u31 u32 u33 u34 u36 u37 u38 u39 u40 u41 u42 u43 u44 u45 u46 u47 u48 u49 u50 u51 u52 u53 u54 u55 u57 u58 u59 u60 u61 u62 u63 u64 u65 u66 u67 u68 u69 u70 u71 u72 u73 u74 u75 u76 u77 u78 u79 u80 u81 u82 u83 u84 u85 u86 u87 u88 u89 u90 u91 u92 u93 u94 u95 u96 u97 u98 u99 u100 u101 u102 u103 u104 u105 u106 u107 u108 u109 u110 u111 u112 u113 u114 u115 u116 u117 u118 u119 u120 u122 u123 u124 u125 u126 u127 u128 u129 u130 u131 u132 u133 u134 u135 u136 u137 u138 u139 u140 u141 u142 u143 u144 u145 u146 u147 u149 u150 u151 u152 u153 u154 u155 u156 u157 u158 u159 u160 u161 u162 u163 u164 u165 u166 u167 u168 u169 u170 u171 u172 u173 u174 u175 u176 u177 u178 u179 u180 u181 u182 u183 u184 u185 u186 u187 u188 u189 u190 u191 u192 u193 u194 u195 u196 hgo
  clear HAC
  go_wp2_with fail
  refine (nbgive _ _).mono ?_
  rintro e w3 ⟨rfl, hb3⟩
  have HLP3 := Lib.hid (HLP.out.below ((alc0 wr _).trans (hb3.mono (by simp))))
  clear hb3
  go_wp2_with fail
  refine (w24awake _).mono ?_
  rintro e w4 ⟨rfl, hb4⟩
  have hLP4 := HLP3.out.below hb4
  have HLP4 := Lib.hid hLP4
  obtain ⟨b, v, gs, cs, vals, hT⟩ := hLP4.bt
  have HT := Lib.hid hT
  clear hT hLP4 hb4
  go_wp2_with fail
  refine (bsize HT.out).mono ?_
  rintro e w5 ⟨rfl, rfl⟩
  go_wp2_with fail
  refine (nblen _).mono ?_
  rintro e w5 ⟨rfl, rfl⟩
  go_wp2_with fail
  refine (nbsize _).mono ?_
  rintro e w5 ⟨rfl, rfl⟩
  go_wp2_with fail
  refine (nblist _).mono ?_
  rintro e w5 ⟨rfl, rfl⟩
  go_wp2_with fail
  refine (nbwithout _ _).mono ?_
  rintro e w5 ⟨rfl, rfl⟩
  go_wp2_with fail
  refine (nbtake _).mono ?_
  rintro e w5 ⟨rfl, rfl⟩
  go_wp2_with fail
  go_ret
  exact ⟨rfl, alc HLP4.out.bel _⟩
end Go.Proofs.Ytokdjonnblbegaa
