/- SweepClears answers true for every input: the parts of its walk and the frame, in one text. -/
import Derived.Test.YtljjcomedjdpaaaDoorSgWS
import Derived.Test.YtljjcomedjdpaaaDoorLsR
import Derived.Deep.RegionHeld3
import Derived.Deep.DeepCutAuto
import Derived.Test.YtljjcomedjdpaaaDoorRows
import Derived.Test.YtljjcomedjdpaaaDoorTie
import Derived.Test.YtljjcomedjdpaaaDoorCards
import Derived.LaidMore
import Derived.MakeChecks
import Derived.Lib.LaidTab
import Derived.Stop.Joined
import Derived.SevenTiedAt
import Derived.WalkKit
import Derived.ProofKit
import Derived.OpenShut
import Derived.ShutString
import Derived.ChangeOld
import Derived.Below
import Derived.Lib.SmallJoins
namespace Go.Proofs.YtljjcomedjdpaaaDoor
set_option maxRecDepth 100000
open Go.RowKit Go.ChangeMaps Go.MapKept
set_option linter.unusedVariables false
set_option linter.unusedSimpArgs false

theorem Keeps.trans {z : Nat} {a b c : World} (h : Keeps z a b) (k : Keeps z b c) : Keeps z a c :=
  ⟨h.1.trans k.1, fun i hi hn => (k.2 i (Nat.lt_of_lt_of_le hi h.1.size) hn).trans (h.2 i hi hn)⟩
theorem Keeps.below {z : Nat} {a b c : World} (h : Keeps z a b) (hz : z ≤ b.heap.size) (hb : Below b.heap.size b c) : Keeps z a c := h.trans (Keeps.of_below hz hb)
theorem Keeps.refl (z : Nat) (a : World) : Keeps z a a := ⟨Below.refl _ _, fun _ _ _ => rfl⟩
theorem MDE.keeps {B : Nat} {col : Nat → Nat} {M R g z : Nat} {V w w' : World} {σ : MS} {f : Nat → CapV} (h : MDE B col M R g V w σ f) (hk : Keeps z w w') (hz : col z = 0 ∧ z ≠ R ∧ z ≠ g ∧ B ≤ z) : MDE B col M R g V w' σ f :=
  ⟨h.mem.keep (hk.1.mono hz.2.2.2) (fun i hi hc => hk.2 i hi (fun e => by rw [e] at hc; exact hc hz.1)), h.reg.keep hk.1.size (hk.2 R h.reg.1 (Ne.symm hz.2.1)) (hk.2 g h.reg.2.1 (Ne.symm hz.2.2.1)), h.cr, h.br, h.bel.trans (hk.1.mono (Nat.le_trans h.br.2.2 hz.2.2.2))⟩
theorem PR.keeps {N lo P pg gp z : Nat} {c : Int} {ws : List Nat} {PT : Nat → Bool} {V w w' : World} (h : PR N lo P pg gp c ws PT V w) (hk : Keeps z w w') (hz : P < z ∧ z ≠ gp ∧ N ≤ z) : PR N lo P pg gp c ws PT V w' :=
  ⟨h.pt.keep hk.1.size (fun i i1 i2 => hk.2 i (Nat.lt_of_le_of_lt i2 h.pt.2.1.2) (by omega)), h.bt, h.len, h.row.keep hk.1.size (hk.2 gp h.row.1 (Ne.symm hz.2.1)), h.ap, h.bel.trans (hk.1.mono hz.2.2)⟩
set_option maxHeartbeats 2000000 in
theorem cread_nil (A : Option Addr) (len cap : Nat) (w : World) (hl : len ≠ 16) (hl2 : len ≤ 1000) :
    Calls Tryd.prog 11 #[.slice A len cap] w fun e w' => e = .returned (.tuple #[.agg #[.int .i64 0, .int .i64 0, .int .i64 0, .int .i64 0, .int .i64 0, .bool false], .bool false]) ∧ Below w.heap.size w w' := by
  have h1 : ((len : Int) == 16) = false := by simp; omega
  go_enter Tryd.func11, Tryd.ntmps11
  go_wp2
  refine bodyPost_ret (v := .tuple #[.agg #[.int .i64 0, .int .i64 0, .int .i64 0, .int .i64 0, .int .i64 0, .bool false], .bool false]) (by simp [results, Tryd.results11, go_sem]) rfl ⟨rfl, ?_⟩
  exact alc0 _ _
/-- Some capabilities in a block, to be read alone. -/
def CR (z n : Nat) (w : World) (f : Nat → CapV) : Prop := ∀ i, i < 6 * n → w.cell? ⟨z, i, none⟩ = some (CV f i)
theorem CR.at_ {z n : Nat} {w : World} {f : Nat → CapV} (h : CR z n w f) (k : Nat) (hk : k < n) :
    w.cell? ⟨z, k * 6, none⟩ = some (.int .i64 (f k).b) ∧ w.cell? ⟨z, k * 6 + 1, none⟩ = some (.int .i64 (f k).l) ∧ w.cell? ⟨z, k * 6 + 2, none⟩ = some (.int .i64 (f k).c) ∧ w.cell? ⟨z, k * 6 + 3, none⟩ = some (.int .i64 (f k).p) ∧ w.cell? ⟨z, k * 6 + 4, none⟩ = some (.int .i64 (f k).t) ∧ w.cell? ⟨z, k * 6 + 5, none⟩ = some (.bool (f k).v) :=
  ⟨by rw [h _ (by omega), CV_0], by rw [h _ (by omega), CV_1], by rw [h _ (by omega), CV_2], by rw [h _ (by omega), CV_3], by rw [h _ (by omega), CV_4], by rw [h _ (by omega), CV_5]⟩
theorem CR.keep {z n : Nat} {w w' : World} {f : Nat → CapV} (h : CR z n w f) (e : w'.heap[z]? = w.heap[z]?) : CR z n w' f := fun i hi => (World.cell?_of_block e).trans (h i hi)
/-- What of the first ones is kept. -/
def kpA (σ : MS) (i : Nat) : Nat → CapV := fun y => if y < i then capK σ y else cap0
theorem kpA_next (σ : MS) (i : Nat) : updC (kpA σ i) i (capK σ i) = kpA σ (i + 1) := by
  funext y
  unfold updC kpA
  by_cases e : y = i
  · subst e; rw [if_pos rfl, if_pos (by omega)]
  · rw [if_neg e]; simp only [show (y < i + 1) = (y < i) from propext (by omega)]
theorem capK_zero {σ : MS} {y : Nat} (h : σ.kp y = false) : capK σ y = cap0 := by
  unfold capK
  rw [h]
  rfl
theorem capK_val {σ : MS} {y : Nat} (h : σ.kp y = true) : capK σ y = ⟨get3 (σ.kv y) 1, get3 (σ.kv y) 4, (get3 (σ.kv y) 1 : Int) + get3 (σ.kv y) 7 - 1048576, (σ.kv y 10 : Nat), (σ.kv y 11 : Nat), true⟩ := by
  unfold capK
  rw [h]
  rfl
theorem MadeG.capK0 {σ : MS} {y : Nat} (hv : (Go.Proofs.YtljjcomedjdpaaaDoor.capK σ y).v = false) : Go.Proofs.YtljjcomedjdpaaaDoor.capK σ y = cap0 := by
  cases e : σ.kp y with
  | false => exact capK_zero e
  | true => rw [capK_val e] at hv; cases hv
/-- What is left for declarations of their own, and the walk out of it. -/
def mksgxStep {X_tb Main : Prop} (f : Hid X_tb → Main) : (X_tb : Prop) ×' (X_tb → Main) := ⟨X_tb, fun h_tb => f (Lib.hid h_tb)⟩
set_option maxHeartbeats 25600000 in
noncomputable def sgxStep : (X_tb : Prop) ×' (X_tb → sgStep.1) := by
  apply mksgxStep
  · intro hX_tb 
    intro A l cp A2 l2 cp2 x W T HA HA2 L hl L2 hl2 HLEN2 zz0 v0 HB0 v1 B col M R g σ f HD HG HB1 w4 u33 u34 u35 u36 u37 u38 u39 u40 u41 zz1 zz2 zz3 zz4 zz5 zz6 zz7 zz8 zz9 zz10 zz11 zz12 zz13 zz14 zz15 zz16 zz17 zz18 zz19 zz20 zz21 zz22 zz23 zz24 zz25 zz26 zz27 zz28 zz29 zz30 zz31 zz32 zz33 zz34 zz35 zz36 zz37 zz38 zz39 u81 u82 u83 u84 u85 u86 u87 u88 u89 u90 u91 u92 u93 u94 u95 u96 u97 u98 u99 u100 u101 u102 u103 u104 u105 u106 u107 u108 u109 u110 u111 u112 u113 u114 u115 u116 u117 u118 u119 u120 u121 u122 u123 u124 u125 u126 u127 u128 u129 u130 u131 u132 u133 u134 u135 u136 u137 u138 u139 u140 u141 u142 u143 u144 u145 u146 u147 u148 u149 u150 u151 u152 u153 u154 u155 u156 u157 u158 u159 u160 u161 u162 u163 u164 u165 u166 u167 u168 u169 u170 u171 u172 u173 u174 u175 u176 u177 u178 u179 u180 u181 u182 u183 u184 u185 u186 u187 u188 u189 u190 u191 u192 u193 u194 u195 u196 u197 u198 u199 u200 u201 u202 u203 u204 u205 u206 u207 u208 u209 u210 u211 u212 u213 u214 u215 u216 u217 u218 u219 u220 u221 u222 u223 u224 u225 u226 u227 u228 u229 u230 u231 u232 u233 u234 u235 u236 u237 u238 u239 u240 u241 u242 u243 u244 u245 u246 u247 u248 u249 u250 u251 u252 u253 u254 u255 u256 u257 u258 u259 u260 u261 u262 u263 u264 u265 u266 lo P pg gp zz40 zz41 wz u12 u13 zz42 zz43 zz44 zz45 zz46 zz47 zz48 u49 zz49 zz50 zz51 zz52 zz53 zz54 zz55 zz56 zz57 zz58 zz59 zz60 zz61 zz62 zz63 zz64 zz65 zz66 zz67 zz68 zz69 zz70 zz71 zz72 zz73 zz74 zz75 zz76 zz77 zz78 zz79 i c ws PT hi8 hc HPR HEND hi8' zz80 zz81 zz82 zz83 zz84 u42 u43 u44 u45 u46 u47 u48 u50 u51 u52 u53 u54 u55 u56 u57 u58 u59 u60 u61 u62 u63 u64 u65 u66 u67 u68 u69 u70 u71 u72 u73 u74 u75 u76 u77 u78 u79 u80
    have HDz := Lib.hid (HD.out.later HPR.out.bel)
    go_wp2_with fail
    refine (rlist_fr R g 6 _ _ HDz.out.reg (CV_one f)).mono ?_
    rintro e w1 ⟨g2, cap2, hfr2, rfl, hc2, hcap2, hb⟩
    have HG2F : Hid (col g2 = 0 ∧ g2 ≠ g) := Lib.hid ⟨HDz.out.mem.old hfr2, by have := HDz.out.reg.2.1; omega⟩
    have HCR1 : Hid (CR g2 6 w1 f) := Lib.hid (fun i hi => hc2 i hi)
    have HD1 := Lib.hid (HDz.out.later hb)
    have HPR1 := Lib.hid (HPR.out.later hb)
    have HG2 : Hid (g2 < w1.heap.size) := Lib.hid (World.block_lt_of_cell? w1 _ (hc2 0 (by omega)))
    clear hc2 hcap2 hb hfr2 HDz HPR
    go_wp2_with fail
    simp only [zc_eq, storeZ, Value.cells, Result.andThen, ↓reduceIte]
    rw [Oper.upon_skip]
    have hal := alc0 w1 (.cells ZC 38)
    have HCB0 := Lib.hid (CB.new w1 38)
    have HD2 := Lib.hid (HD1.out.later hal)
    have HPR2 := Lib.hid (HPR1.out.later hal)
    have HCR2 : Hid (CR g2 6 (w1.alloc (.cells ZC 38)) f) := Lib.hid (HCR1.out.keep (hal.block g2 HG2.out))
    have HKB : Hid ((col w1.heap.size = 0 ∧ w1.heap.size ≠ R ∧ w1.heap.size ≠ g ∧ B ≤ w1.heap.size) ∧ (P < w1.heap.size ∧ w1.heap.size ≠ gp ∧ v1.heap.size ≤ w1.heap.size) ∧ (g2 < w1.heap.size)) := Lib.hid (by
      have h1 := HD1.out.reg.1
      have h2 := HD1.out.reg.2.1
      have h3 := HPR1.out.pt.2.1.2
      have h4 := HPR1.out.row.1
      have h5 := HPR1.out.bel.size
      have h6 := HG2.out
      exact ⟨⟨HD1.out.mem.old (Nat.le_refl _), by omega, by omega, HD1.out.mem.size⟩, ⟨h3, by omega, h5⟩, h6⟩)
    clear hal HD1 HPR1 HCR1 HG2
    generalize hwa : w1.alloc (.cells ZC 38) = wa at *
    clear hwa
    generalize w1.heap.size = kb at *
    go_wp2_with fail
    go_loopw [16, 17] (fun v16 v17 wr => ∃ i : Nat, i ≤ 128 ∧ v17 = .int .i64 i ∧ v16 = .int .i64 ((cntF (fun y => PM PT (capK σ y)) i : Nat) : Int) ∧ Hid (CB kb 128 wr (kpA σ i) ∧ Keeps kb wa wr)) (fun _ v17 _ => 128 - (intOf v17).toNat)
    case atStart => exact ⟨0, by omega, rfl, rfl, Lib.hid ⟨HCB0.out, Keeps.refl _ _⟩⟩
    case round =>
      clear HCB0
      obtain ⟨i, hi, rfl, rfl, HI⟩ := hrel
      obtain ⟨N, hN⟩ : ∃ N, cntF (fun y => PM PT (capK σ y)) i = N := ⟨_, rfl⟩
      have hN128 : N ≤ 128 := by rw [← hN]; exact Nat.le_trans (cntF_le _ _) hi
      have HNN := Lib.hid hN
      rw [hN]
      clear hN
      by_cases hlt : i < 128
      · have hltI : (i : Int) < 128 := by omega
        have hgeI : (0 : Int) ≤ (i : Int) := by omega
        have HLT := Lib.hid hlt
        have HDr := Lib.hid (HD2.out.keeps HI.out.2 HKB.out.1)
        have HPRr := Lib.hid (HPR2.out.keeps HI.out.2 HKB.out.2.1)
        have HKW : Hid (kb ≤ wr.heap.size) := Lib.hid (Nat.le_of_lt HI.out.1.1)
        cases hk : σ.kp i with
        | false =>
          have HNO : Hid ((decide (0 ≤ (i : Int) ∧ (i : Int) < 16384) && σ.kp (i : Int).toNat) = false) := Lib.hid (by rw [Int.toNat_natCast, hk, Bool.and_false])
          have HC0 := Lib.hid (capK_zero hk)
          have HPM : Hid (PM PT cap0 = false) := Lib.hid (PM_none rfl)
          have HS : Hid (cntF (fun y => PM PT (capK σ y)) (i + 1) = N) := Lib.hid (by rw [cntF, HNN.out, HC0.out, HPM.out]; rfl)
          clear hk hlt
          go_wp2_with fail
          refine (mkept_no (i : Int) HDr.out.mem HNO.out).mono ?_
          rintro e w5 ⟨rfl, rfl⟩
          go_wp2_with fail
          refine (cread_nil none 0 0 _ (by decide) (by decide)).mono ?_
          rintro e w6 ⟨rfl, hb6⟩
          have HC6 := Lib.hid (HI.out.1.below hb6)
          have HK6 := Lib.hid (HI.out.2.below HKW.out hb6)
          have HRW6 := Lib.hid (HPRr.out.row.below hb6)
          clear hb6 HI HDr HPRr
          obtain ⟨m0, m1, m2, m3, m4, m5⟩ := HC6.out.at_ i HLT.out
          obtain ⟨z0, z1, z2, z3, z4, z5⟩ := HC6.out.fz i HLT.out
          obtain ⟨wq, hwq, hcb, hkp, hsz⟩ := CB.store HC6.out HLT.out cap0
          have HC7 : Hid (CB kb 128 wq (kpA σ (i + 1))) := Lib.hid (by rw [← kpA_next, HC0.out]; exact hcb)
          have HK7 := Lib.hid (HK6.out.trans hkp)
          have HRW7 := Lib.hid (HRW6.out.keep hkp.1.size (hkp.2 gp HRW6.out.1 (Ne.symm HKB.out.2.1.2.1)))
          have hkw : kb < w6.heap.size := HC6.out.1
          simp only [cap0] at hwq
          clear hcb hkp hsz HC6 HK6 HRW6
          go_upto_region 21 with (fail)
          clear hwq m0 m1 m2 m3 m4 m5 z0 z1 z2 z3 z4 z5 hkw
          obtain ⟨m0, m1, m2, m3, m4, m5⟩ := HC7.out.at_ i HLT.out
          have hki : kpA σ (i + 1) i = cap0 := by unfold kpA; rw [if_pos (by omega)]; exact HC0.out
          rw [hki] at m0 m1 m2 m3 m4 m5
          simp only [cap0] at m0 m1 m2 m3 m4 m5
          have hkw : kb < wq.heap.size := HC7.out.1
          clear hki
          go_wp2_with fail
          refine (smeets cap0 PT gp _ false (fun h => by cases h) (fun _ => rfl) HRW7.out HPM.out).mono ?_
          rintro e w8 ⟨rfl, hb8⟩
          have HKWq : Hid (kb ≤ wq.heap.size) := Lib.hid (Nat.le_of_lt hkw)
          have HF8 := Lib.hid (And.intro (HC7.out.below hb8) (HK7.out.below HKWq.out hb8))
          clear hb8 m0 m1 m2 m3 m4 m5 hkw HC7 HK7 HRW7
          go_wp2_with fail
          go_roundw
          case rel => exact ⟨i + 1, by have := HLT.out; omega, by go_num, by rw [HS.out], HF8⟩
          case measure => simp [intOf]; have := HLT.out; omega
        | true =>
          have HKP := Lib.hid hk
          have HK9 := Lib.hid (HG.out.kp i hk).2
          clear hk hlt
          obtain ⟨bb, hbb⟩ : ∃ q, get3 (σ.kv i) 1 = q := ⟨_, rfl⟩
          obtain ⟨ll, hll⟩ : ∃ q, get3 (σ.kv i) 4 = q := ⟨_, rfl⟩
          obtain ⟨cc, hcc⟩ : ∃ q, (bb : Int) + get3 (σ.kv i) 7 - 1048576 = q := ⟨_, rfl⟩
          obtain ⟨pp, hpp⟩ : ∃ q, σ.kv i 10 = q := ⟨_, rfl⟩
          obtain ⟨tt, htt⟩ : ∃ q, σ.kv i 11 = q := ⟨_, rfl⟩
          have hck : capK σ i = ⟨bb, ll, cc, pp, tt, true⟩ := by
            rw [capK_val HKP.out, hbb, hll, hcc, hpp, htt]
          have HCK := Lib.hid hck
          have HE := Lib.hid (And.intro hbb (And.intro hll (And.intro hcc (And.intro hpp htt))))
          have H9 : Hid (Cap9 ⟨bb, ll, cc, pp, tt, true⟩) := Lib.hid (by
            have := HK9.out.ok.2
            rw [hbb, hll, hcc, hpp, htt] at this
            exact this)
          obtain ⟨r, hr⟩ : ∃ r, PM PT (capK σ i) = r := ⟨_, rfl⟩
          have HS : Hid (cntF (fun y => PM PT (capK σ y)) (i + 1) = upN r N) := Lib.hid (by rw [cntF_up, HNN.out, hr])
          have HPM : Hid (PM PT ⟨bb, ll, cc, pp, tt, true⟩ = r) := Lib.hid (by rw [← hck]; exact hr)
          clear hbb hll hcc hpp htt hck hr
          go_wp2_with fail
          refine (mkept_yes i HDr.out.mem HKP.out).mono ?_
          rintro e w5 ⟨D, cap5, rfl, hD, hcap5, hP, hb5⟩
          have HP5 := Lib.hid hP.row9
          have HCP := Lib.hid hcap5
          have HI5 := Lib.hid (And.intro (HI.out.1.below hb5) (HI.out.2.below HKW.out hb5))
          have HRW5 := Lib.hid (HPRr.out.row.below hb5)
          clear hD hP hb5 hcap5 HI HDr HPRr
          go_wp2_with fail
          refine (cread_ok D cap5 (σ.kv i) w5 HP5.out (HG.out.kv i) HCP.out HK9.out.ok.1 bb ll pp tt cc HE.out.1 HE.out.2.1 HE.out.2.2.1 HE.out.2.2.2.1 HE.out.2.2.2.2).mono ?_
          rintro e w6 ⟨rfl, hb6⟩
          have HC6 := Lib.hid (HI5.out.1.below hb6)
          have HK6 := Lib.hid (HI5.out.2.below (Nat.le_of_lt HI5.out.1.1) hb6)
          have HRW6 := Lib.hid (HRW5.out.below hb6)
          clear hb6 HP5 HI5 HRW5
          obtain ⟨m0, m1, m2, m3, m4, m5⟩ := HC6.out.at_ i HLT.out
          obtain ⟨z0, z1, z2, z3, z4, z5⟩ := HC6.out.fz i HLT.out
          obtain ⟨wq, hwq, hcb, hkp, hsz⟩ := CB.store HC6.out HLT.out ⟨bb, ll, cc, pp, tt, true⟩
          have HC7 : Hid (CB kb 128 wq (kpA σ (i + 1))) := Lib.hid (by rw [← kpA_next, HCK.out]; exact hcb)
          have HK7 := Lib.hid (HK6.out.trans hkp)
          have HRW7 := Lib.hid (HRW6.out.keep hkp.1.size (hkp.2 gp HRW6.out.1 (Ne.symm HKB.out.2.1.2.1)))
          have hkw : kb < w6.heap.size := HC6.out.1
          clear hcb hkp hsz HC6 HK6 HRW6
          go_upto_region 21 with (fail)
          clear hwq m0 m1 m2 m3 m4 m5 z0 z1 z2 z3 z4 z5 hkw
          obtain ⟨m0, m1, m2, m3, m4, m5⟩ := HC7.out.at_ i HLT.out
          have hki : kpA σ (i + 1) i = ⟨bb, ll, cc, pp, tt, true⟩ := by unfold kpA; rw [if_pos (by omega)]; exact HCK.out
          rw [hki] at m0 m1 m2 m3 m4 m5
          have hkw : kb < wq.heap.size := HC7.out.1
          clear hki
          go_wp2_with fail
          refine (smeets ⟨bb, ll, cc, pp, tt, true⟩ PT gp _ r (fun _ => H9.out) (fun h => by cases h) HRW7.out HPM.out).mono ?_
          rintro e w8 ⟨rfl, hb8⟩
          have HKWq : Hid (kb ≤ wq.heap.size) := Lib.hid (Nat.le_of_lt hkw)
          have HF8 := Lib.hid (And.intro (HC7.out.below hb8) (HK7.out.below HKWq.out hb8))
          clear hb8 m0 m1 m2 m3 m4 m5 hkw HC7 HK7 HRW7
          cases r with
          | true =>
            go_wp2_with fail
            go_roundw
            case rel => exact ⟨i + 1, by have := HLT.out; omega, by go_num, by rw [HS.out]; unfold upN; rw [if_pos rfl]; go_num, HF8⟩
            case measure => simp [intOf]; have := HLT.out; omega
          | false =>
            go_wp2_with fail
            go_roundw
            case rel => exact ⟨i + 1, by have := HLT.out; omega, by go_num, by rw [HS.out]; rfl, HF8⟩
            case measure => simp [intOf]; have := HLT.out; omega
      · obtain rfl : i = 128 := by omega
        have hltI : ¬ ((128 : Nat) : Int) < 128 := by omega
        clear hi hlt
        rename World => wo
        have HIO := HI
        clear HI
        go_wp2_with fail
        go_loopw [16, 20] (fun v16 v20 wr => ∃ h : Nat, h ≤ 6 ∧ v20 = .int .i64 h ∧ v16 = .int .i64 ((N + cntF (fun h => PM PT (f h)) h : Nat) : Int) ∧ Hid (CB kb 128 wr (kpA σ 128) ∧ Keeps kb wa wr)) (fun _ v20 _ => 6 - (intOf v20).toNat)
        case atStart => exact ⟨0, by omega, rfl, rfl, HIO⟩
        case round =>
          clear HIO
          obtain ⟨h, hh, rfl, rfl, HI⟩ := hrel
          obtain ⟨N2, hN2⟩ : ∃ N2, N + cntF (fun h => PM PT (f h)) h = N2 := ⟨_, rfl⟩
          have hN2' : N2 ≤ 134 := by rw [← hN2]; have := cntF_le (fun h => PM PT (f h)) h; omega
          have HN2 := Lib.hid hN2
          rw [hN2]
          clear hN2
          by_cases hlt : h < 6
          · have hltI : (h : Int) < 6 := by omega
            have hgeI : (0 : Int) ≤ (h : Int) := by omega
            have HLT := Lib.hid hlt
            have HPRr := Lib.hid (HPR2.out.keeps HI.out.2 HKB.out.2.1)
            have HKW : Hid (kb ≤ wr.heap.size) := Lib.hid (Nat.le_of_lt HI.out.1.1)
            have hg2 : g2 < wa.heap.size := World.block_lt_of_cell? wa _ (HCR2.out 0 (by omega))
            have HCRr : Hid (CR g2 6 wr f) := Lib.hid (HCR2.out.keep (HI.out.2.2 g2 hg2 (by have := HKB.out.2.2; omega)))
            obtain ⟨m0, m1, m2, m3, m4, m5⟩ := HCRr.out.at_ h hlt
            have hg2r : g2 < wr.heap.size := World.block_lt_of_cell? wr _ m0
            obtain ⟨r, hr⟩ : ∃ r, PM PT (f h) = r := ⟨_, rfl⟩
            have HR := Lib.hid hr
            have HS : Hid (N + cntF (fun h => PM PT (f h)) (h + 1) = upN r N2) := Lib.hid (by
              rw [cntF_up, hr]
              have := HN2.out
              unfold upN
              split <;> omega)
            clear hr hlt hg2
            go_wp2_with fail
            refine (smeets (f h) PT gp _ r (HG.out.fv h) (HG.out.fn h) HPRr.out.row HR.out).mono ?_
            rintro e w8 ⟨rfl, hb8⟩
            have HF8 := Lib.hid (And.intro (HI.out.1.below hb8) (HI.out.2.below HKW.out hb8))
            clear hb8 m0 m1 m2 m3 m4 m5 HCRr HPRr HI hg2r
            cases r with
            | true =>
              go_wp2_with fail
              go_roundw
              case rel => exact ⟨h + 1, by have := HLT.out; omega, by go_num, by rw [HS.out]; unfold upN; rw [if_pos rfl]; go_num, HF8⟩
              case measure => simp [intOf]; have := HLT.out; omega
            | false =>
              go_wp2_with fail
              go_roundw
              case rel => exact ⟨h + 1, by have := HLT.out; omega, by go_num, by rw [HS.out]; rfl, HF8⟩
              case measure => simp [intOf]; have := HLT.out; omega
          · obtain rfl : h = 6 := by omega
            have hltI : ¬ ((6 : Nat) : Int) < 6 := by omega
            clear hh hlt
            rename World => wz
            go_wp2_with fail
            rename_i zx0 zx1 zx2 zx3 zx4 zx5 zx6 zx7 zx8 zx9 zx10 zx11 zx12 zx13 zx14 zx15 zx16 zx17 zx18 zx19 zx20 zx21 zx22 zx23 zx24 zx25 zx26 zx27 zx28 zx29 zx30 zx31 zx32 zx33 zx34 zx35 zx36 zx37 zx38 zx39 zx40 zx41 zx42 zx43 zx44 zx45 zx46 zx47 zx48 zx49 zx50 zx51
            revert A l cp A2 l2 cp2 x W T HA HA2 L hl L2 hl2 HLEN2 zz0 v0 HB0 v1 B col M R g σ f HD HG HB1 w4 u33 u34 u35 u36 u37 u38 u39 u40 u41 zz1 zz2 zz3 zz4 zz5 zz6 zz7 zz8 zz9 zz10 zz11 zz12 zz13 zz14 zz15 zz16 zz17 zz18 zz19 zz20 zz21 zz22 zz23 zz24 zz25 zz26 zz27 zz28 zz29 zz30 zz31 zz32 zz33 zz34 zz35 zz36 zz37 zz38 zz39 u81 u82 u83 zx0 zx1 zx2 zx3 zx4 zx5 zx6 zx7 zx8 zx9 zx10 zx11 zx12 zx13 zx14 zx15 zx16 zx17 zx18 zx19 zx20 zx21 zx22 zx23 zx24 zx25 zx26 zx27 zx28 zx29 zx30 zx31 zx32 zx33 zx34 zx35 zx36 zx37 u122 u123 u124 u125 u126 u127 u128 u129 u130 u131 u132 u133 u134 u135 u136 u137 u138 u139 u140 u141 u142 u143 u144 u145 u146 u147 u148 u149 u150 u151 u152 u153 u154 u155 u156 u157 u158 u159 u160 u161 u162 u163 u164 u165 u166 u167 u168 u169 u170 u171 u172 u173 u174 u175 u176 u177 u178 u179 u180 u181 u182 u183 u184 u185 u186 u187 u188 u189 u190 u191 u192 u193 u194 u195 u196 u197 u198 u199 u200 u201 u202 u203 u204 u205 u206 u207 u208 u209 u210 u211 u212 u213 u214 u215 u216 u217 u218 u219 u220 u221 u222 u223 u224 u225 u226 u227 u228 u229 u230 u231 u232 u233 u234 u235 u236 u237 u238 u239 u240 u241 u242 u243 u244 u245 u246 u247 u248 u249 u250 u251 u252 u253 u254 u255 u256 u257 u258 u259 u260 u261 u262 u263 u264 u265 u266 lo P pg gp zz40 zx38 u12 u13 zz42 zz43 zz44 zz45 zz46 zz47 zz48 u49 zz49 zz50 zz51 zz52 zz53 zz54 zz55 zz56 zz57 zz58 zz59 zz60 zz61 zz62 zz63 zz64 zz65 zz66 zz67 zz68 zz69 zz70 zz71 zz72 zz73 zz74 zz75 zz76 zz77 zz78 zz79 i c ws PT hi8 hc hi8' zz80 zz81 zz82 u42 u43 u44 u45 u46 u47 u48 u50 u51 u52 u53 u54 u55 u56 u57 u58 u59 u60 u61 u62 u63 u64 u65 u66 u67 u68 u69 u70 u71 u72 u73 u74 u75 u76 u77 u78 u79 u80 HEND w1 g2 cap2 HG2F wa HD2 HPR2 HCR2 kb HKB zx39 wo u18 u19 u84 u85 u86 u87 u88 u89 u90 u91 u92 u93 u94 u95 u96 u97 u98 u99 u100 u101 u102 u103 u104 u105 u106 u107 N hN128 HNN zx40 zx41 zx42 zx43 zx44 wz u108 u109 u110 u111 u112 u113 u114 u115 u116 u117 u118 u119 u120 u121 HI N2 hN2' HN2 zx45 zx46 zx47 zx48 zx49 zx50 zx51 hltI
            exact hX_tb.out
end Go.Proofs.YtljjcomedjdpaaaDoor
namespace Go.Proofs.YtljjcomedjdpaaaDoor
set_option maxRecDepth 100000
open Go.RowKit Go.ChangeMaps Go.MapKept
set_option linter.unusedVariables false
set_option linter.unusedSimpArgs false

theorem IW.block {B M R g s lo P pgb pb po cp : Nat} {c : Int} {ws : List Nat} {PT : Nat → Bool} {σ : MS} {f : Nat → CapV} {V W0 : World} {col0 : Nat → Nat} {d n : Nat} {w : World} (h : IW B M R g s lo P pgb pb po cp c ws PT σ f V W0 col0 d n w) {i : Nat} (hi : i < W0.heap.size) (hc : col0 i = 0) (hg : i ≠ g) (hs : i ≠ s) : w.heap[i]? = W0.heap[i]? := h.st.2 i hi hc hg hs
theorem IW.bel {B M R g s lo P pgb pb po cp : Nat} {c : Int} {ws : List Nat} {PT : Nat → Bool} {σ : MS} {f : Nat → CapV} {V W0 : World} {col0 : Nat → Nat} {d n : Nat} {w : World} (h : IW B M R g s lo P pgb pb po cp c ws PT σ f V W0 col0 d n w) : Below V.heap.size V w := by
  obtain ⟨col, h1, -⟩ := h.mde
  exact h1.bel
/-- What is left for declarations of their own, and the walk out of it. -/
def mksgyStep {X_tc Main : Prop} (f : Hid X_tc → Main) : (X_tc : Prop) ×' (X_tc → Main) := ⟨X_tc, fun h_tc => f (Lib.hid h_tc)⟩
set_option maxHeartbeats 25600000 in
noncomputable def sgyStep : (X_tc : Prop) ×' (X_tc → sgxStep.1) := by
  apply mksgyStep
  · intro hX_tc 
    intro A l cp A2 l2 cp2 x W T HA HA2 L hl L2 hl2 HLEN2 zz0 v0 HB0 v1 B col M R g σ f HD HG HB1 w4 u33 u34 u35 u36 u37 u38 u39 u40 u41 zz1 zz2 zz3 zz4 zz5 zz6 zz7 zz8 zz9 zz10 zz11 zz12 zz13 zz14 zz15 zz16 zz17 zz18 zz19 zz20 zz21 zz22 zz23 zz24 zz25 zz26 zz27 zz28 zz29 zz30 zz31 zz32 zz33 zz34 zz35 zz36 zz37 zz38 zz39 u81 u82 u83 zx0 zx1 zx2 zx3 zx4 zx5 zx6 zx7 zx8 zx9 zx10 zx11 zx12 zx13 zx14 zx15 zx16 zx17 zx18 zx19 zx20 zx21 zx22 zx23 zx24 zx25 zx26 zx27 zx28 zx29 zx30 zx31 zx32 zx33 zx34 zx35 zx36 zx37 u122 u123 u124 u125 u126 u127 u128 u129 u130 u131 u132 u133 u134 u135 u136 u137 u138 u139 u140 u141 u142 u143 u144 u145 u146 u147 u148 u149 u150 u151 u152 u153 u154 u155 u156 u157 u158 u159 u160 u161 u162 u163 u164 u165 u166 u167 u168 u169 u170 u171 u172 u173 u174 u175 u176 u177 u178 u179 u180 u181 u182 u183 u184 u185 u186 u187 u188 u189 u190 u191 u192 u193 u194 u195 u196 u197 u198 u199 u200 u201 u202 u203 u204 u205 u206 u207 u208 u209 u210 u211 u212 u213 u214 u215 u216 u217 u218 u219 u220 u221 u222 u223 u224 u225 u226 u227 u228 u229 u230 u231 u232 u233 u234 u235 u236 u237 u238 u239 u240 u241 u242 u243 u244 u245 u246 u247 u248 u249 u250 u251 u252 u253 u254 u255 u256 u257 u258 u259 u260 u261 u262 u263 u264 u265 u266 lo P pg gp zz40 zx38 u12 u13 zz42 zz43 zz44 zz45 zz46 zz47 zz48 u49 zz49 zz50 zz51 zz52 zz53 zz54 zz55 zz56 zz57 zz58 zz59 zz60 zz61 zz62 zz63 zz64 zz65 zz66 zz67 zz68 zz69 zz70 zz71 zz72 zz73 zz74 zz75 zz76 zz77 zz78 zz79 i c ws PT hi8 hc hi8' zz80 zz81 zz82 u42 u43 u44 u45 u46 u47 u48 u50 u51 u52 u53 u54 u55 u56 u57 u58 u59 u60 u61 u62 u63 u64 u65 u66 u67 u68 u69 u70 u71 u72 u73 u74 u75 u76 u77 u78 u79 u80 HEND w1 g2 cap2 HG2F wa HD2 HPR2 HCR2 kb HKB zx39 wo u18 u19 u84 u85 u86 u87 u88 u89 u90 u91 u92 u93 u94 u95 u96 u97 u98 u99 u100 u101 u102 u103 u104 u105 u106 u107 N hN128 HNN zx40 zx41 zx42 zx43 zx44 wz u108 u109 u110 u111 u112 u113 u114 u115 u116 u117 u118 u119 u120 u121 HI N2 hN2' HN2 zx45 zx46 zx47 zx48 zx49 zx50 zx51 hltI
    have HDr := Lib.hid (HD2.out.keeps HI.out.2 HKB.out.1)
    have HPRr := Lib.hid (HPR2.out.keeps HI.out.2 HKB.out.2.1)
    have HCRr : Hid (CR g2 6 wz f ∧ g2 < wz.heap.size) := Lib.hid (by
      have hg2 : g2 < wa.heap.size := World.block_lt_of_cell? wa _ (HCR2.out 0 (by omega))
      exact ⟨HCR2.out.keep (HI.out.2.2 g2 hg2 (by have := HKB.out.2.2; omega)), Nat.lt_of_lt_of_le hg2 HI.out.2.1.size⟩)
    have HZ : Hid (∀ y, 1024 ≤ y → σ.pg y = false) := Lib.hid (by intro y hy; rw [HG.out.pg, pgM_low]; exact decide_eq_false (by omega))
    have e63 := and63 x
    obtain ⟨k0, hk0⟩ : ∃ k0 : Nat, x % 64 = (k0 : Int) := ⟨(x % 64).toNat, by omega⟩
    have hk64 : k0 < 64 := by omega
    rw [hk0] at e63
    obtain ⟨ks, hks⟩ : ∃ ks : Nat, k0 + 1 = ks := ⟨_, rfl⟩
    have wks : IntKind.i64.wrap ((k0 : Int) + 1) = (ks : Int) := by rw [IntWalk.i64_in _ (by omega)]; omega
    have HKS : Hid (1 ≤ ks ∧ ks ≤ 64) := Lib.hid (by omega)
    clear hk0 hk64 hks
    refine (swnew_fr HDr.out.mem HZ.out HDr.out.reg).mono ?_
    rw [HG.out.pg, list5]
    rintro e w2 ⟨s, A', cp', rfl, hsw, hints, hfr, hs0, hb⟩
    obtain ⟨pb, po, rfl, hpb, hcell⟩ : ∃ pb po, A' = some ⟨pb, po, none⟩ ∧ pb < w2.heap.size ∧ ∀ i, i < 5 → w2.cell? ⟨pb, po + i, none⟩ = some (.int .i64 (([0, 1, 2, 5, 6] : List Int).getD i 0)) := by
      rcases hints.2 with h | ⟨pb, po, h1, h2, -, h3⟩
      · exact absurd h (by decide)
      · exact ⟨pb, po, h1, h2, h3⟩
    obtain ⟨hf1, hf2⟩ := hfr _ rfl
    have hf3 : pb < s := by
      rcases hf2 with h | h
      · exact h
      · exact absurd h (by decide)
    have hsw' : SWAt s 6 (some ⟨pb, po, none⟩) 5 cp' 0 0 w2 := hsw
    have hgz : g < wz.heap.size := HDr.out.reg.2.1
    have hRz : R < wz.heap.size := HDr.out.reg.1
    have hPz : P < wz.heap.size := HPRr.out.pt.2.1.2
    have hg1 : g < v1.heap.size := HD.out.reg.2.1
    have HW0 : Hid (IW0 B M R g s lo P pg pb po c ws PT σ f v0 w2 col) := Lib.hid ⟨HG.out, (HPRr.out.later hb).pt, HPRr.out.bt, fun i i1 i2 => ⟨HD.out.mem.old (by have := HPRr.out.ap.1; omega), by have := HPRr.out.ap.1; omega, by omega⟩, ⟨hpb, fun i hi => by
      rw [hcell i hi]
      have h5 : i = 0 ∨ i = 1 ∨ i = 2 ∨ i = 3 ∨ i = 4 := by omega
      rcases h5 with rfl | rfl | rfl | rfl | rfl <;> rfl⟩, ⟨HDr.out.mem.old hf1, by
        have h : wz.heap.size ≤ pb := hf1
        omega, by omega⟩, ⟨HDr.out.mem.old hs0, by omega, by omega, by have := HDr.out.mem.size; omega, hsw'.1⟩, T.out.later HB0.out⟩
    have HI0 : Hid (IW B M R g s lo P pg pb po cp' c ws PT σ f v0 w2 col 0 0 w2) := Lib.hid ⟨by omega, rfl, hsw', ⟨col, by
      rw [sgD_zero PT σ (by omega), ffD_zero]
      exact HDr.out.later hb, fun _ _ => rfl⟩, ⟨Nat.le_refl _, fun _ _ _ _ _ => rfl⟩⟩
    have HROWS : Hid (BRow gp 256 w2 PT ∧ CB kb 128 w2 (kpA σ 128) ∧ CR g2 6 w2 f) := Lib.hid ⟨HPRr.out.row.below hb, HI.out.1.below hb, HCRr.out.1.keep (hb.block g2 HCRr.out.2)⟩
    have HAWAY : Hid ((gp < w2.heap.size ∧ col gp = 0 ∧ gp ≠ g ∧ gp ≠ s) ∧ (kb < w2.heap.size ∧ col kb = 0 ∧ kb ≠ g ∧ kb ≠ s) ∧ (g2 < w2.heap.size ∧ col g2 = 0 ∧ g2 ≠ g ∧ g2 ≠ s)) := Lib.hid (by
      have h1 := HPRr.out.row.1
      have h2 := HPRr.out.ap.2.1
      have h3 := HI.out.1.1
      have h4 := HCRr.out.2
      have h5 := hb.size
      refine ⟨⟨by omega, HD.out.mem.old h2, by omega, by omega⟩, ⟨by omega, HKB.out.1.1, HKB.out.1.2.2.1, by omega⟩, ⟨by omega, HG2F.out.1, HG2F.out.2, by omega⟩⟩)
    have HCNT : Hid (cntF (itF PT σ f) 86 = N2) := Lib.hid (by rw [cnt_all HG.out, HNN.out]; exact HN2.out)
    clear hsw hints hfr hs0 hb hpb hcell hf1 hf2 hf3 hsw' hgz hRz hPz hg1 HDr HPRr HCRr HZ HI HD2 HPR2 HCR2
    go_wp2_with fail
    refine (swork 86 HI0.out.sw (by decide)).mono ?_
    rintro e w3 ⟨rfl, hb3⟩
    have HI3 := Lib.hid (HI0.out.later hb3)
    clear hb3 HI0
    go_wp2_with fail
    go_loopw [23] (fun v23 wr => ∃ m n' : Nat, v23 = .int .i64 m ∧ m ≤ 86 ∧ (m = 0 ∨ (m - 1) * ks < 86) ∧ Hid (IW B M R g s lo P pg pb po cp' c ws PT σ f v0 w2 col (min (m * ks) 86) n' wr)) (fun v23 _ => 87 - (intOf v23).toNat)
    case atStart => exact ⟨0, 0, rfl, by omega, .inl rfl, by rw [Nat.zero_mul]; exact HI3⟩
    case round =>
      clear HI3
      obtain ⟨m, n', rfl, hm86, hmk, HI⟩ := hrel
      have HMK := Lib.hid hmk
      clear hmk
      obtain ⟨mk, hmk⟩ : ∃ mk, m * ks = mk := ⟨_, rfl⟩
      rw [hmk] at HI
      have HMK2 := Lib.hid hmk
      have hks1 := HKS.out
      have hmmk : m ≤ mk := by rw [← hmk]; exact Nat.le_mul_of_pos_right m (by omega)
      by_cases hlt : mk < 86
      · obtain ⟨d, hd⟩ : ∃ d, min mk 86 = d := ⟨_, rfl⟩
        rw [hd] at HI
        obtain rfl : mk = d := by omega
        have hov : decide (86 ≤ mk) = false := by simp; omega
        have HOV := Lib.hid hov
        have hm200 : (m : Int) < 200 := by omega
        have HLT := Lib.hid hlt
        obtain ⟨rest, hrest⟩ : ∃ rest, 86 - mk = rest := ⟨_, rfl⟩
        have w1 : IntKind.i64.wrap ((m : Int) * (ks : Int)) = (mk : Int) := by rw [IntWalk.i64_in _ (by rw [← Int.natCast_mul, hmk]; omega)]; rw [← Int.natCast_mul, hmk]
        have w2' : IntKind.i64.wrap ((86 : Int) - (mk : Int)) = (rest : Int) := by rw [IntWalk.i64_in _ (by omega)]; omega
        obtain ⟨T', hT⟩ : ∃ T', min ks rest = T' := ⟨_, rfl⟩
        have HT' : Hid ((T' : Int) = min (ks : Int) (((86 : Nat) : Int) - (mk : Int))) := Lib.hid (by omega)
        have HK1 : Hid ((1 : Int) ≤ (ks : Int)) := Lib.hid (by omega)
        have HNX : Hid (mk + T' = min ((m + 1) * ks) 86) := Lib.hid (by rw [Nat.succ_mul, hmk]; omega)
        have hne : ((T' : Int) != (T' : Int)) = false := by simp
        have HM1 : Hid (m < 86) := Lib.hid (by omega)
        have hmn : (rest : Int) < (ks : Int) ∧ T' = rest ∨ ¬ (rest : Int) < (ks : Int) ∧ T' = ks := by omega
        have HMN := Lib.hid hmn
        clear hd hlt hov hrest hT hmn hmmk hks1 hmk
        go_wp2_with fail
        refine (sover 86 false HI.out.sw (by decide) HOV.out).mono ?_
        rintro e w4 ⟨rfl, hb4⟩
        have HI4 := Lib.hid (HI.out.later hb4)
        clear hb4 HI
        go_wp2_with fail
        refine (sstep s 6 (some ⟨pb, po, none⟩) 5 cp' M R P 86 mk T' n' (ks : Int) w4 (IW B M R g s lo P pg pb po cp' c ws PT σ f v0 w2 col) (fun d n w h => h.sw) (by decide) (fun d n w w' h hb => h.later hb) (fun d n w h hd => IW.one HW0.out h hd) HI4.out (Nat.le_of_lt HLT.out) HK1.out HT'.out).mono ?_
        rintro e w5 ⟨rfl, n2, hi5⟩
        rw [HNX.out] at hi5
        have HI5 := Lib.hid hi5
        clear hi5 HI4
        rcases HMN.out with ⟨hq, rfl⟩ | ⟨hq, rfl⟩
        · go_wp2_with fail
          go_roundw
          case rel => exact ⟨m + 1, n2, by go_num, by have := HM1.out; omega, .inr (by rw [Nat.add_sub_cancel, HMK2.out]; exact HLT.out), HI5⟩
          case measure => simp [intOf]; have := HM1.out; omega
        · go_wp2_with fail
          go_roundw
          case rel => exact ⟨m + 1, n2, by go_num, by have := HM1.out; omega, .inr (by rw [Nat.add_sub_cancel, HMK2.out]; exact HLT.out), HI5⟩
          case measure => simp [intOf]; have := HM1.out; omega
      · obtain ⟨d, hd⟩ : ∃ d, min mk 86 = d := ⟨_, rfl⟩
        rw [hd] at HI
        obtain rfl : 86 = d := by omega
        have HGE : Hid (86 ≤ mk) := Lib.hid (by omega)
        clear hd hlt hmk hmmk hks1
        rename World => wz2
        go_wp2_with fail
        refine (sover 86 true HI.out.sw (by decide) (by decide)).mono ?_
        rintro e w4 ⟨rfl, hb4⟩
        have HI4 := Lib.hid (HI.out.later hb4)
        clear hb4 HI
        go_wp2_with fail
        rename_i zy0 zy1 zy2 zy3 zy4 zy5 zy6 zy7 zy8 zy9 zy10 zy11 zy12 zy13 zy14 zy15 zy16 zy17 zy18 zy19 zy20 zy21 zy22 zy23 zy24 zy25 zy26 zy27 zy28 zy29 zy30 zy31 zy32
        revert A l cp A2 l2 cp2 x W T HA HA2 L hl L2 hl2 HLEN2 zz0 v0 HB0 v1 B col M R g σ f HD HG HB1 zy0 u33 u34 u35 u36 u37 u38 u39 u40 u41 zz1 zz2 zz3 zz4 zz5 zz6 zz7 zz8 zz9 zz10 zz11 zz12 zz13 zz14 zz15 zz16 zz17 zz18 zz19 zz20 zz21 zz22 zz23 zz24 zz25 zz26 zz27 zz28 zz29 zz30 zz31 zz32 zz33 zz34 zz35 zz36 zz37 zz38 zz39 u81 u82 u83 zx0 zx1 zx2 zx3 zx4 zx5 zx6 zx7 zx8 zx9 zx10 zx11 zx12 zx13 zx14 zx15 zx16 zx17 zx18 zx19 zx20 zx21 zx22 zx23 zx24 zx25 zx26 zx27 zx28 zx29 zx30 zx31 zx32 zx33 zx34 zx35 zx36 zx37 u122 u123 u124 u125 u126 u127 u128 u129 u130 u131 zy1 zy2 zy3 zy4 zy5 zy6 zy7 zy8 zy9 zy10 zy11 zy12 zy13 zy14 zy15 zy16 zy17 zy18 zy19 zy20 zy21 zy22 zy23 zy24 u156 u157 u158 u159 u160 u161 u162 u163 u164 u165 u166 u167 u168 u169 u170 u171 u172 u173 u174 u175 u176 u177 u178 u179 u180 u181 u182 u183 u184 u185 u186 u187 u188 u189 u190 u191 u192 u193 u194 u195 u196 u197 u198 u199 u200 u201 u202 u203 u204 u205 u206 u207 u208 u209 u210 u211 u212 u213 u214 u215 u216 u217 u218 u219 u220 u221 u222 u223 u224 u225 u226 u227 u228 u229 u230 u231 u232 u233 u234 u235 u236 u237 u238 u239 u240 u241 u242 u243 u244 u245 u246 u247 u248 u249 u250 u251 u252 u253 u254 u255 u256 u257 u258 u259 u260 u261 u262 u263 u264 u265 u266 lo P pg gp zz40 zx38 u12 u13 zz42 zz43 zz44 zz45 zz46 zz47 zz48 u49 zz49 zz50 zz51 zz52 zz53 zz54 zz55 zz56 zz57 zz58 zz59 zz60 zz61 zz62 zz63 zz64 zz65 zz66 zz67 zz68 zz69 zz70 zz71 zz72 zz73 zz74 zz75 zz76 zz77 zz78 zz79 i c ws PT hi8 hc hi8' zz80 zz81 zz82 u42 u43 u44 u45 u46 u47 u48 u50 u51 u52 u53 u54 u55 u56 u57 u58 u59 u60 u61 u62 u63 u64 u65 u66 u67 u68 u69 u70 u71 u72 u73 u74 u75 u76 u77 u78 u79 u80 HEND w1 g2 cap2 HG2F wa kb HKB zx39 wo u18 u19 u84 u85 u86 u87 u88 u89 u90 u91 u92 u93 u94 u95 u96 u97 u98 u99 u100 u101 u102 u103 u104 u105 u106 u107 N hN128 HNN zx40 zx41 zx42 zx43 zx44 wz u108 u109 u110 u111 u112 u113 u114 u115 u116 u117 u118 u119 u120 u121 N2 hN2' HN2 zx45 zx46 zx47 hltI k0 e63 ks wks HKS w2 s cp' pb po HW0 HROWS HAWAY HCNT w3 zy25 wz2 u6 u25 u132 u133 u134 u135 u136 u137 u138 u139 u140 u141 u142 u143 u144 u145 u146 u147 u148 u149 u150 u151 u152 u153 u154 u155 m n' hm86 HMK mk HMK2 HGE zy26 zy27 zy28 w4 HI4 zy29 zy30 zy31 zy32
        exact hX_tc.out
end Go.Proofs.YtljjcomedjdpaaaDoor
namespace Go.Proofs.YtljjcomedjdpaaaDoor
set_option maxRecDepth 100000
open Go.RowKit Go.ChangeMaps Go.MapKept
set_option linter.unusedVariables false
set_option linter.unusedSimpArgs false

theorem swp_end {σ : MS} {f : Nat → CapV} (h : MadeG σ f) {y : Nat} (hk : σ.kp y = true) : swp 86 y = true := by
  have := h.km y hk
  rw [pgM_low, decide_eq_true_eq] at this
  unfold swp
  exact decide_eq_true (by omega)
theorem kp_end {PT : Nat → Bool} {σ : MS} {f : Nat → CapV} (h : MadeG σ f) (y : Nat) : (sgD PT σ 86).kp y = (σ.kp y && !PM PT (capK σ y)) := by
  show (σ.kp y && !(swp 86 y && PM PT (capK σ y))) = _
  cases e : σ.kp y with
  | false => rfl
  | true => rw [swp_end h e]; simp
theorem ffD_end (PT : Nat → Bool) (f : Nat → CapV) {h : Nat} (hh : h < 6) : ffD PT f 86 h = if PM PT (f h) = true then cap0 else f h := by
  unfold ffD
  by_cases e : PM PT (f h) = true
  · rw [if_pos e, if_pos ⟨by omega, hh, e⟩]
  · rw [if_neg e, if_neg (fun k => e k.2.2)]
theorem div_steps {m ks mk : Nat} (h1 : 1 ≤ ks) (hm : m * ks = mk) (h2 : 86 ≤ mk) (h3 : m = 0 ∨ (m - 1) * ks < 86) : (85 + ks) / ks = m := by
  have hm1 : 1 ≤ m := by
    rcases Nat.eq_zero_or_pos m with e | e
    · subst e; rw [Nat.zero_mul] at hm; omega
    · exact e
  have h4 : (m - 1) * ks < 86 := by
    rcases h3 with e | e
    · omega
    · exact e
  have h5 : (m - 1) * ks + ks = mk := by
    rw [← hm, ← Nat.succ_mul]
    congr 1
    omega
  have h6 : (m + 1) * ks = mk + ks := by rw [Nat.succ_mul, hm]
  exact Nat.div_eq_of_lt_le (by rw [hm]; omega) (by rw [h6]; omega)
/-- What is left for declarations of their own, and the walk out of it. -/
def mksgzStep {X_td Main : Prop} (f : Hid X_td → Main) : (X_td : Prop) ×' (X_td → Main) := ⟨X_td, fun h_td => f (Lib.hid h_td)⟩
set_option maxHeartbeats 25600000 in
noncomputable def sgzStep : (X_td : Prop) ×' (X_td → sgyStep.1) := by
  apply mksgzStep
  · intro hX_td 
    intro A l cp A2 l2 cp2 x W T HA HA2 L hl L2 hl2 HLEN2 zz0 v0 HB0 v1 B col M R g σ f HD HG HB1 zy0 u33 u34 u35 u36 u37 u38 u39 u40 u41 zz1 zz2 zz3 zz4 zz5 zz6 zz7 zz8 zz9 zz10 zz11 zz12 zz13 zz14 zz15 zz16 zz17 zz18 zz19 zz20 zz21 zz22 zz23 zz24 zz25 zz26 zz27 zz28 zz29 zz30 zz31 zz32 zz33 zz34 zz35 zz36 zz37 zz38 zz39 u81 u82 u83 zx0 zx1 zx2 zx3 zx4 zx5 zx6 zx7 zx8 zx9 zx10 zx11 zx12 zx13 zx14 zx15 zx16 zx17 zx18 zx19 zx20 zx21 zx22 zx23 zx24 zx25 zx26 zx27 zx28 zx29 zx30 zx31 zx32 zx33 zx34 zx35 zx36 zx37 u122 u123 u124 u125 u126 u127 u128 u129 u130 u131 zy1 zy2 zy3 zy4 zy5 zy6 zy7 zy8 zy9 zy10 zy11 zy12 zy13 zy14 zy15 zy16 zy17 zy18 zy19 zy20 zy21 zy22 zy23 zy24 u156 u157 u158 u159 u160 u161 u162 u163 u164 u165 u166 u167 u168 u169 u170 u171 u172 u173 u174 u175 u176 u177 u178 u179 u180 u181 u182 u183 u184 u185 u186 u187 u188 u189 u190 u191 u192 u193 u194 u195 u196 u197 u198 u199 u200 u201 u202 u203 u204 u205 u206 u207 u208 u209 u210 u211 u212 u213 u214 u215 u216 u217 u218 u219 u220 u221 u222 u223 u224 u225 u226 u227 u228 u229 u230 u231 u232 u233 u234 u235 u236 u237 u238 u239 u240 u241 u242 u243 u244 u245 u246 u247 u248 u249 u250 u251 u252 u253 u254 u255 u256 u257 u258 u259 u260 u261 u262 u263 u264 u265 u266 lo P pg gp zz40 zx38 u12 u13 zz42 zz43 zz44 zz45 zz46 zz47 zz48 u49 zz49 zz50 zz51 zz52 zz53 zz54 zz55 zz56 zz57 zz58 zz59 zz60 zz61 zz62 zz63 zz64 zz65 zz66 zz67 zz68 zz69 zz70 zz71 zz72 zz73 zz74 zz75 zz76 zz77 zz78 zz79 i c ws PT hi8 hc hi8' zz80 zz81 zz82 u42 u43 u44 u45 u46 u47 u48 u50 u51 u52 u53 u54 u55 u56 u57 u58 u59 u60 u61 u62 u63 u64 u65 u66 u67 u68 u69 u70 u71 u72 u73 u74 u75 u76 u77 u78 u79 u80 HEND w1 g2 cap2 HG2F wa kb HKB zx39 wo u18 u19 u84 u85 u86 u87 u88 u89 u90 u91 u92 u93 u94 u95 u96 u97 u98 u99 u100 u101 u102 u103 u104 u105 u106 u107 N hN128 HNN zx40 zx41 zx42 zx43 zx44 wz u108 u109 u110 u111 u112 u113 u114 u115 u116 u117 u118 u119 u120 u121 N2 hN2' HN2 zx45 zx46 zx47 hltI k0 e63 ks wks HKS w2 s cp' pb po HW0 HROWS HAWAY HCNT w3 zy25 wz2 u6 u25 u132 u133 u134 u135 u136 u137 u138 u139 u140 u141 u142 u143 u144 u145 u146 u147 u148 u149 u150 u151 u152 u153 u154 u155 m n' hm86 HMK mk HMK2 HGE zy26 zy27 zy28 w4 HI4 zy29 zy30 zy31 zy32
    obtain ⟨col4, hm4, hc4⟩ := HI4.out.mde
    have HM4 := Lib.hid hm4
    clear hm4 hc4
    obtain rfl : n' = N2 := HI4.out.hn.trans HCNT.out
    refine (rlist R g 6 _ _ HM4.out.reg (CV_one _)).mono ?_
    rintro e w5 ⟨g3, cap3, rfl, hc3, hcap3, hb5⟩
    have HC3 : Hid (CR g3 6 w5 (ffD PT f 86) ∧ g3 < w5.heap.size) := Lib.hid ⟨fun i hi => hc3 i hi, World.block_lt_of_cell? w5 _ (hc3 0 (by omega))⟩
    have HI5 := Lib.hid (HI4.out.later hb5)
    have HM5 := Lib.hid (HM4.out.later hb5)
    clear hc3 hcap3 hb5 HI4 HM4
    have hks1 := HKS.out
    have q1 : IntKind.i64.wrap ((86 : Int) + (ks : Int)) = (86 : Int) + (ks : Int) := IntWalk.i64_in _ (by omega)
    have q2 : IntKind.i64.wrap ((86 : Int) + (ks : Int) - 1) = (86 : Int) + (ks : Int) - 1 := IntWalk.i64_in _ (by omega)
    have q3 : ((86 : Int) + (ks : Int) - 1).tdiv (ks : Int) = (m : Int) := by
      have h := div_steps (by omega) HMK2.out HGE.out HMK.out
      rw [Int.tdiv_eq_ediv_of_nonneg (by omega), show (86 : Int) + (ks : Int) - 1 = ((85 + ks : Nat) : Int) by omega, ← Int.natCast_ediv, h]
    have q4 : ¬ (ks : Int) = 0 := by omega
    have q5 : ((m : Int) != (m : Int)) = false := by simp
    have q6 : ((n' : Int) != (n' : Int)) = false := by simp
    have q7 : ((86 : Int) + (ks : Int) - 1) / (ks : Int) = (m : Int) := by rw [← Int.tdiv_eq_ediv_of_nonneg (by omega)]; exact q3
    clear hks1
    go_wp2_with fail
    refine (sdone HI5.out.sw).mono ?_
    rintro e w6 ⟨rfl, rfl⟩
    go_wp2_with fail
    refine (sgone HI5.out.sw).mono ?_
    rintro e w7 ⟨rfl, rfl⟩
    clear q1 q2 q3 q4 q5 q6 q7
    go_wp2_with fail
    have HSTB : Hid (∀ w', Below w5.heap.size w5 w' → BRow gp 256 w' PT ∧ CB kb 128 w' (kpA σ 128) ∧ CR g2 6 w' f ∧ CR g3 6 w' (ffD PT f 86)) := Lib.hid (by
      intro w' hb
      have h1 := HAWAY.out.1
      have h2 := HAWAY.out.2.1
      have h3 := HAWAY.out.2.2
      have k := HI5.out.st
      have e1 := HI5.out.block h1.1 h1.2.1 h1.2.2.1 h1.2.2.2
      have e2 := HI5.out.block h2.1 h2.2.1 h2.2.2.1 h2.2.2.2
      have e3 := HI5.out.block h3.1 h3.2.1 h3.2.2.1 h3.2.2.2
      have e4 : g2 < w5.heap.size := Nat.lt_of_lt_of_le h3.1 k.1
      exact ⟨(HROWS.out.1.keep k.1 e1).below hb, (HROWS.out.2.1.keep k.1 e2).below hb, (HROWS.out.2.2.keep e3).keep (hb.block g2 e4), HC3.out.1.keep (hb.block g3 HC3.out.2)⟩)
    go_loopw [27] (fun v27 wr => ∃ h : Nat, h ≤ 6 ∧ v27 = .int .i64 h ∧ Hid (Below w5.heap.size w5 wr)) (fun v27 _ => 6 - (intOf v27).toNat)
    case atStart => exact ⟨0, by omega, rfl, Lib.hid (Below.refl _ _)⟩
    case round =>
      obtain ⟨h, hh, rfl, HR⟩ := hrel
      by_cases hlt : h < 6
      · have hltI : (h : Int) < 6 := by omega
        have hgeI : (0 : Int) ≤ (h : Int) := by omega
        have HLT := Lib.hid hlt
        obtain ⟨b0, l0, c0, p0, t0, v0', hf0⟩ : ∃ b l c p t v, f h = ⟨b, l, c, p, t, v⟩ := ⟨_, _, _, _, _, _, rfl⟩
        obtain ⟨r, hr⟩ : ∃ r, PM PT (f h) = r := ⟨_, rfl⟩
        have HPMr : Hid (PM PT ⟨b0, l0, c0, p0, t0, v0'⟩ = r) := Lib.hid (by rw [← hf0]; exact hr)
        have HV1 : Hid ((⟨b0, l0, c0, p0, t0, v0'⟩ : CapV).v = true → Cap9 ⟨b0, l0, c0, p0, t0, v0'⟩) := Lib.hid (by have := HG.out.fv h; rw [hf0] at this; exact this)
        have HV0 : Hid ((⟨b0, l0, c0, p0, t0, v0'⟩ : CapV).v = false → (⟨b0, l0, c0, p0, t0, v0'⟩ : CapV) = cap0) := Lib.hid (by have := HG.out.fn h; rw [hf0] at this; exact this)
        have HBF : Hid (∀ w', Below w5.heap.size w5 w' → w'.cell? ⟨g2, h * 6, none⟩ = some (.int .i64 b0) ∧ w'.cell? ⟨g2, h * 6 + 1, none⟩ = some (.int .i64 l0) ∧ w'.cell? ⟨g2, h * 6 + 2, none⟩ = some (.int .i64 c0) ∧ w'.cell? ⟨g2, h * 6 + 3, none⟩ = some (.int .i64 p0) ∧ w'.cell? ⟨g2, h * 6 + 4, none⟩ = some (.int .i64 t0) ∧ w'.cell? ⟨g2, h * 6 + 5, none⟩ = some (.bool v0')) := Lib.hid (by
          intro w' hb
          have k := (HSTB.out w' hb).2.2.1.at_ h hlt
          rw [hf0] at k
          exact k)
        have HAF : Hid (∀ w', Below w5.heap.size w5 w' → ∃ x, x = (if r = true then cap0 else ⟨b0, l0, c0, p0, t0, v0'⟩) ∧ w'.cell? ⟨g3, h * 6, none⟩ = some (.int .i64 x.b) ∧ w'.cell? ⟨g3, h * 6 + 1, none⟩ = some (.int .i64 x.l) ∧ w'.cell? ⟨g3, h * 6 + 2, none⟩ = some (.int .i64 x.c) ∧ w'.cell? ⟨g3, h * 6 + 3, none⟩ = some (.int .i64 x.p) ∧ w'.cell? ⟨g3, h * 6 + 4, none⟩ = some (.int .i64 x.t) ∧ w'.cell? ⟨g3, h * 6 + 5, none⟩ = some (.bool x.v)) := Lib.hid (by
          intro w' hb
          have k := (HSTB.out w' hb).2.2.2.at_ h hlt
          rw [ffD_end PT f hlt, hr, hf0] at k
          exact ⟨_, rfl, k⟩)
        clear hf0 hr hlt
        go_wp2_with fail
        cases r with
        | true =>
          have HAF2 : Hid (∀ w', Below w5.heap.size w5 w' → w'.cell? ⟨g3, h * 6, none⟩ = some (.int .i64 0) ∧ w'.cell? ⟨g3, h * 6 + 1, none⟩ = some (.int .i64 0) ∧ w'.cell? ⟨g3, h * 6 + 2, none⟩ = some (.int .i64 0) ∧ w'.cell? ⟨g3, h * 6 + 3, none⟩ = some (.int .i64 0) ∧ w'.cell? ⟨g3, h * 6 + 4, none⟩ = some (.int .i64 0) ∧ w'.cell? ⟨g3, h * 6 + 5, none⟩ = some (.bool false)) := Lib.hid (by
            intro w' hb
            obtain ⟨x, hx, k⟩ := HAF.out w' hb
            rw [if_pos rfl] at hx
            subst hx
            exact k)
          have HTAKE := Lib.hid (fun (w' : World) (hb : Below w5.heap.size w5 w') => And.intro (HBF.out w' hb) (HAF2.out w' hb))
          refine wp_region_held_drew (S := fun w' => Below w5.heap.size w5 w') (by kernel_rfl) ?_ (fun hHeld => ?_)
          · exact HR.out.drew
          refine wpAnyH_take (i := 0) (v := ?_) rfl (by kernel_rfl) (by kernel_rfl) (by kernel_rfl) (fun _ _ _ h => h) (Or.inl ⟨by kernel_rfl, ?_⟩) (by assumption) ?_
          rotate_left
          · (intro w hSw; (try dsimp only at hSw); (try have hTk := Hid.out HTAKE _ hSw); go_simp)
            try (with_reducible rfl)
          rotate_left
          try simp (maxSteps := 4000000) only [Act.put, List.setIfInBounds_toArray, List.set_cons_zero, List.set_cons_succ, List.getElem_toArray, List.getElem_cons_zero, List.getElem_cons_succ]
          refine wpAnyH_take (i := 1) (v := ?_) rfl (by kernel_rfl) (by kernel_rfl) (by kernel_rfl) (fun _ _ _ h => h) (Or.inl ⟨by kernel_rfl, ?_⟩) (by assumption) ?_
          rotate_left
          · (intro w hSw; (try dsimp only at hSw); (try have hTk := Hid.out HTAKE _ hSw); go_simp)
            try (with_reducible rfl)
          rotate_left
          try simp (maxSteps := 4000000) only [Act.put, List.setIfInBounds_toArray, List.set_cons_zero, List.set_cons_succ, List.getElem_toArray, List.getElem_cons_zero, List.getElem_cons_succ]
          refine wpAnyH_take (i := 2) (v := ?_) rfl (by kernel_rfl) (by kernel_rfl) (by kernel_rfl) (fun _ _ _ h => h) (Or.inl ⟨by kernel_rfl, ?_⟩) (by assumption) ?_
          rotate_left
          · (intro w hSw; (try dsimp only at hSw); (try have hTk := Hid.out HTAKE _ hSw); go_simp)
            try (with_reducible rfl)
          rotate_left
          try simp (maxSteps := 4000000) only [Act.put, List.setIfInBounds_toArray, List.set_cons_zero, List.set_cons_succ, List.getElem_toArray, List.getElem_cons_zero, List.getElem_cons_succ]
          refine wpAnyH_take (i := 3) (v := ?_) rfl (by kernel_rfl) (by kernel_rfl) (by kernel_rfl) (fun _ _ _ h => h) (Or.inl ⟨by kernel_rfl, ?_⟩) (by assumption) ?_
          rotate_left
          · (intro w hSw; (try dsimp only at hSw); (try have hTk := Hid.out HTAKE _ hSw); go_simp)
            try (with_reducible rfl)
          rotate_left
          try simp (maxSteps := 4000000) only [Act.put, List.setIfInBounds_toArray, List.set_cons_zero, List.set_cons_succ, List.getElem_toArray, List.getElem_cons_zero, List.getElem_cons_succ]
          refine wpAnyH_take (i := 4) (v := ?_) rfl (by kernel_rfl) (by kernel_rfl) (by kernel_rfl) (fun _ _ _ h => h) (Or.inl ⟨by kernel_rfl, ?_⟩) (by assumption) ?_
          rotate_left
          · (intro w hSw; (try dsimp only at hSw); (try have hTk := Hid.out HTAKE _ hSw); go_simp)
            try (with_reducible rfl)
          rotate_left
          try simp (maxSteps := 4000000) only [Act.put, List.setIfInBounds_toArray, List.set_cons_zero, List.set_cons_succ, List.getElem_toArray, List.getElem_cons_zero, List.getElem_cons_succ]
          refine wpAnyH_ready (rs := [5]) (by kernel_rfl) (by simp) ?_
          refine AllReadyH.cons rfl (fun K2 hK2 => ?_) AllReadyH.nil
          go_simp
          have hrow := (HSTB.out _ hHeld).1
          with_reducible refine Calls.mono (smeets ⟨b0, l0, c0, p0, t0, v0'⟩ PT gp _ true HV1.out HV0.out hrow HPMr.out) ?_
          rintro e u2 ⟨rfl, hb⟩
          have hn : Below w5.heap.size w5 u2 := thn hHeld hb
          clear hb hrow
          refine hK2.out _ _ (hn) (fun hHeld2 => ?_)
          clear hK2 K2 hHeld
          have hHeld := hHeld2
          clear hHeld2
          try simp (maxSteps := 4000000) only [Act.put, List.setIfInBounds_toArray, List.set_cons_zero, List.set_cons_succ]
          refine wpAnyH_take (i := 6) (v := ?_) rfl (by kernel_rfl) (by kernel_rfl) (by kernel_rfl) (fun _ _ _ h => h) (Or.inl ⟨by kernel_rfl, ?_⟩) (by assumption) ?_
          rotate_left
          · (intro w hSw; (try dsimp only at hSw); (try have hTk := Hid.out HTAKE _ hSw); go_simp)
            try (with_reducible rfl)
          rotate_left
          try simp (maxSteps := 4000000) only [Act.put, List.setIfInBounds_toArray, List.set_cons_zero, List.set_cons_succ, List.getElem_toArray, List.getElem_cons_zero, List.getElem_cons_succ]
          refine wpAnyH_take (i := 7) (v := ?_) rfl (by kernel_rfl) (by kernel_rfl) (by kernel_rfl) (fun _ _ _ h => h) (Or.inl ⟨by kernel_rfl, ?_⟩) (by assumption) ?_
          rotate_left
          · (intro w hSw; (try dsimp only at hSw); (try have hTk := Hid.out HTAKE _ hSw); go_simp)
            try (with_reducible rfl)
          rotate_left
          try simp (maxSteps := 4000000) only [Act.put, List.setIfInBounds_toArray, List.set_cons_zero, List.set_cons_succ, List.getElem_toArray, List.getElem_cons_zero, List.getElem_cons_succ]
          refine wpAnyH_take (i := 8) (v := ?_) rfl (by kernel_rfl) (by kernel_rfl) (by kernel_rfl) (fun _ _ _ h => h) (Or.inl ⟨by kernel_rfl, ?_⟩) (by assumption) ?_
          rotate_left
          · (intro w hSw; (try dsimp only at hSw); (try have hTk := Hid.out HTAKE _ hSw); go_simp)
            try (with_reducible rfl)
          rotate_left
          try simp (maxSteps := 4000000) only [Act.put, List.setIfInBounds_toArray, List.set_cons_zero, List.set_cons_succ, List.getElem_toArray, List.getElem_cons_zero, List.getElem_cons_succ]
          refine wpAnyH_take (i := 9) (v := ?_) rfl (by kernel_rfl) (by kernel_rfl) (by kernel_rfl) (fun _ _ _ h => h) (Or.inl ⟨by kernel_rfl, ?_⟩) (by assumption) ?_
          rotate_left
          · (intro w hSw; (try dsimp only at hSw); (try have hTk := Hid.out HTAKE _ hSw); go_simp)
            try (with_reducible rfl)
          rotate_left
          try simp (maxSteps := 4000000) only [Act.put, List.setIfInBounds_toArray, List.set_cons_zero, List.set_cons_succ, List.getElem_toArray, List.getElem_cons_zero, List.getElem_cons_succ]
          refine wpAnyH_take (i := 10) (v := ?_) rfl (by kernel_rfl) (by kernel_rfl) (by kernel_rfl) (fun _ _ _ h => h) (Or.inl ⟨by kernel_rfl, ?_⟩) (by assumption) ?_
          rotate_left
          · (intro w hSw; (try dsimp only at hSw); (try have hTk := Hid.out HTAKE _ hSw); go_simp)
            try (with_reducible rfl)
          rotate_left
          try simp (maxSteps := 4000000) only [Act.put, List.setIfInBounds_toArray, List.set_cons_zero, List.set_cons_succ, List.getElem_toArray, List.getElem_cons_zero, List.getElem_cons_succ]
          refine wpAnyH_take (i := 11) (v := ?_) rfl (by kernel_rfl) (by kernel_rfl) (by kernel_rfl) (fun _ _ _ h => h) (Or.inl ⟨by kernel_rfl, ?_⟩) (by assumption) ?_
          rotate_left
          · (intro w hSw; (try dsimp only at hSw); (try have hTk := Hid.out HTAKE _ hSw); go_simp)
            try (with_reducible rfl)
          rotate_left
          try simp (maxSteps := 4000000) only [Act.put, List.setIfInBounds_toArray, List.set_cons_zero, List.set_cons_succ, List.getElem_toArray, List.getElem_cons_zero, List.getElem_cons_succ]
          refine wpAnyH_take (i := 12) (v := ?_) rfl (by kernel_rfl) (by kernel_rfl) (by kernel_rfl) (fun _ _ _ h => h) (Or.inl ⟨by kernel_rfl, ?_⟩) (by assumption) ?_
          rotate_left
          · (intro w hSw; (try dsimp only at hSw); (try have hTk := Hid.out HTAKE _ hSw); go_simp)
            try (with_reducible rfl)
          rotate_left
          try simp (maxSteps := 4000000) only [Act.put, List.setIfInBounds_toArray, List.set_cons_zero, List.set_cons_succ, List.getElem_toArray, List.getElem_cons_zero, List.getElem_cons_succ]
          refine wpAnyH_take (i := 13) (v := ?_) rfl (by kernel_rfl) (by kernel_rfl) (by kernel_rfl) (fun _ _ _ h => h) (Or.inl ⟨by kernel_rfl, ?_⟩) (by assumption) ?_
          rotate_left
          · (intro w hSw; (try dsimp only at hSw); (try have hTk := Hid.out HTAKE _ hSw); go_simp)
            try (with_reducible rfl)
          rotate_left
          try simp (maxSteps := 4000000) only [Act.put, List.setIfInBounds_toArray, List.set_cons_zero, List.set_cons_succ, List.getElem_toArray, List.getElem_cons_zero, List.getElem_cons_succ]
          refine wpAnyH_take (i := 14) (v := ?_) rfl (by kernel_rfl) (by kernel_rfl) (by kernel_rfl) (fun _ _ _ h => h) (Or.inl ⟨by kernel_rfl, ?_⟩) (by assumption) ?_
          rotate_left
          · (intro w hSw; (try dsimp only at hSw); (try have hTk := Hid.out HTAKE _ hSw); go_simp)
            try (with_reducible rfl)
          rotate_left
          try simp (maxSteps := 4000000) only [Act.put, List.setIfInBounds_toArray, List.set_cons_zero, List.set_cons_succ, List.getElem_toArray, List.getElem_cons_zero, List.getElem_cons_succ]
          refine wpAnyH_take (i := 15) (v := ?_) rfl (by kernel_rfl) (by kernel_rfl) (by kernel_rfl) (fun _ _ _ h => h) (Or.inl ⟨by kernel_rfl, ?_⟩) (by assumption) ?_
          rotate_left
          · (intro w hSw; (try dsimp only at hSw); (try have hTk := Hid.out HTAKE _ hSw); go_simp)
            try (with_reducible rfl)
          rotate_left
          try simp (maxSteps := 4000000) only [Act.put, List.setIfInBounds_toArray, List.set_cons_zero, List.set_cons_succ, List.getElem_toArray, List.getElem_cons_zero, List.getElem_cons_succ]
          refine wpAnyH_take (i := 16) (v := ?_) rfl (by kernel_rfl) (by kernel_rfl) (by kernel_rfl) (fun _ _ _ h => h) (Or.inl ⟨by kernel_rfl, ?_⟩) (by assumption) ?_
          rotate_left
          · (intro w hSw; (try dsimp only at hSw); (try have hTk := Hid.out HTAKE _ hSw); go_simp)
            try (with_reducible rfl)
          rotate_left
          try simp (maxSteps := 4000000) only [Act.put, List.setIfInBounds_toArray, List.set_cons_zero, List.set_cons_succ, List.getElem_toArray, List.getElem_cons_zero, List.getElem_cons_succ]
          refine wpAnyH_take (i := 17) (v := ?_) rfl (by kernel_rfl) (by kernel_rfl) (by kernel_rfl) (fun _ _ _ h => h) (Or.inl ⟨by kernel_rfl, ?_⟩) (by assumption) ?_
          rotate_left
          · (intro w hSw; (try dsimp only at hSw); (try have hTk := Hid.out HTAKE _ hSw); go_simp)
            try (with_reducible rfl)
          rotate_left
          try simp (maxSteps := 4000000) only [Act.put, List.setIfInBounds_toArray, List.set_cons_zero, List.set_cons_succ, List.getElem_toArray, List.getElem_cons_zero, List.getElem_cons_succ]
          refine wpAnyH_take (i := 18) (v := ?_) rfl (by kernel_rfl) (by kernel_rfl) (by kernel_rfl) (fun _ _ _ h => h) (Or.inl ⟨by kernel_rfl, ?_⟩) (by assumption) ?_
          rotate_left
          · (intro w hSw; (try dsimp only at hSw); (try have hTk := Hid.out HTAKE _ hSw); go_simp)
            try (with_reducible rfl)
          rotate_left
          try simp (maxSteps := 4000000) only [Act.put, List.setIfInBounds_toArray, List.set_cons_zero, List.set_cons_succ, List.getElem_toArray, List.getElem_cons_zero, List.getElem_cons_succ]
          refine wpAnyH_take (i := 19) (v := ?_) rfl (by kernel_rfl) (by kernel_rfl) (by kernel_rfl) (fun _ _ _ h => h) (Or.inl ⟨by kernel_rfl, ?_⟩) (by assumption) ?_
          rotate_left
          · (intro w hSw; (try dsimp only at hSw); (try have hTk := Hid.out HTAKE _ hSw); go_simp)
            try (with_reducible rfl)
          rotate_left
          try simp (maxSteps := 4000000) only [Act.put, List.setIfInBounds_toArray, List.set_cons_zero, List.set_cons_succ, List.getElem_toArray, List.getElem_cons_zero, List.getElem_cons_succ]
          refine wpAnyH_ready (rs := [20]) (by kernel_rfl) (by simp) ?_
          refine AllReadyH.cons rfl (fun K2 hK2 => ?_) AllReadyH.nil
          go_simp
          have hrow := (HSTB.out _ hHeld).1
          with_reducible refine Calls.mono (smeets ⟨b0, l0, c0, p0, t0, v0'⟩ PT gp _ true HV1.out HV0.out hrow HPMr.out) ?_
          rintro e u3 ⟨rfl, hb⟩
          have hn3 : Below w5.heap.size w5 u3 := thn hHeld hb
          have HN3 := Lib.hid hn3
          clear hb hrow hn
          refine hK2.out _ _ (hn3) (fun hHeld2 => ?_)
          clear hK2 K2 hHeld
          have hHeld := hHeld2
          clear hHeld2
          try simp (maxSteps := 4000000) only [Act.put, List.setIfInBounds_toArray, List.set_cons_zero, List.set_cons_succ]
          refine wpAnyH_take (i := 21) (v := ?_) rfl (by kernel_rfl) (by kernel_rfl) (by kernel_rfl) (fun _ _ _ h => h) (Or.inl ⟨by kernel_rfl, ?_⟩) (by assumption) ?_
          rotate_left
          · (intro w hSw; (try dsimp only at hSw); (try have hTk := Hid.out HTAKE _ hSw); go_simp)
            try (with_reducible rfl)
          rotate_left
          try simp (maxSteps := 4000000) only [Act.put, List.setIfInBounds_toArray, List.set_cons_zero, List.set_cons_succ, List.getElem_toArray, List.getElem_cons_zero, List.getElem_cons_succ]
          refine wpAnyH_take (i := 22) (v := ?_) rfl (by kernel_rfl) (by kernel_rfl) (by kernel_rfl) (fun _ _ _ h => h) (Or.inl ⟨by kernel_rfl, ?_⟩) (by assumption) ?_
          rotate_left
          · (intro w hSw; (try dsimp only at hSw); (try have hTk := Hid.out HTAKE _ hSw); go_simp)
            try (with_reducible rfl)
          rotate_left
          try simp (maxSteps := 4000000) only [Act.put, List.setIfInBounds_toArray, List.set_cons_zero, List.set_cons_succ, List.getElem_toArray, List.getElem_cons_zero, List.getElem_cons_succ]
          refine wpAnyH_take (i := 23) (v := undef) rfl (by kernel_rfl) (by kernel_rfl) (by kernel_rfl) (fun _ _ _ h => h) (Or.inr ⟨by kernel_rfl, rfl⟩) (by assumption) ?_
          try simp (maxSteps := 4000000) only [Act.put, List.setIfInBounds_toArray, List.set_cons_zero, List.set_cons_succ, List.getElem_toArray, List.getElem_cons_zero, List.getElem_cons_succ]
          refine wpAnyH_take (i := 24) (v := undef) rfl (by kernel_rfl) (by kernel_rfl) (by kernel_rfl) (fun _ _ _ h => h) (Or.inr ⟨by kernel_rfl, rfl⟩) (by assumption) ?_
          try simp (maxSteps := 4000000) only [Act.put, List.setIfInBounds_toArray, List.set_cons_zero, List.set_cons_succ, List.getElem_toArray, List.getElem_cons_zero, List.getElem_cons_succ]
          refine wpAnyH_take (i := 25) (v := undef) rfl (by kernel_rfl) (by kernel_rfl) (by kernel_rfl) (fun _ _ _ h => h) (Or.inr ⟨by kernel_rfl, rfl⟩) (by assumption) ?_
          try simp (maxSteps := 4000000) only [Act.put, List.setIfInBounds_toArray, List.set_cons_zero, List.set_cons_succ, List.getElem_toArray, List.getElem_cons_zero, List.getElem_cons_succ]
          refine wpAnyH_take (i := 26) (v := undef) rfl (by kernel_rfl) (by kernel_rfl) (by kernel_rfl) (fun _ _ _ h => h) (Or.inr ⟨by kernel_rfl, rfl⟩) (by assumption) ?_
          try simp (maxSteps := 4000000) only [Act.put, List.setIfInBounds_toArray, List.set_cons_zero, List.set_cons_succ, List.getElem_toArray, List.getElem_cons_zero, List.getElem_cons_succ]
          refine wpAnyH_take (i := 27) (v := undef) rfl (by kernel_rfl) (by kernel_rfl) (by kernel_rfl) (fun _ _ _ h => h) (Or.inr ⟨by kernel_rfl, rfl⟩) (by assumption) ?_
          try simp (maxSteps := 4000000) only [Act.put, List.setIfInBounds_toArray, List.set_cons_zero, List.set_cons_succ, List.getElem_toArray, List.getElem_cons_zero, List.getElem_cons_succ]
          refine wpAnyH_take (i := 28) (v := undef) rfl (by kernel_rfl) (by kernel_rfl) (by kernel_rfl) (fun _ _ _ h => h) (Or.inr ⟨by kernel_rfl, rfl⟩) (by assumption) ?_
          try simp (maxSteps := 4000000) only [Act.put, List.setIfInBounds_toArray, List.set_cons_zero, List.set_cons_succ, List.getElem_toArray, List.getElem_cons_zero, List.getElem_cons_succ]
          refine wpAnyH_take (i := 29) (v := undef) rfl (by kernel_rfl) (by kernel_rfl) (by kernel_rfl) (fun _ _ _ h => h) (Or.inr ⟨by kernel_rfl, rfl⟩) (by assumption) ?_
          try simp (maxSteps := 4000000) only [Act.put, List.setIfInBounds_toArray, List.set_cons_zero, List.set_cons_succ, List.getElem_toArray, List.getElem_cons_zero, List.getElem_cons_succ]
          refine wpAnyH_take (i := 30) (v := undef) rfl (by kernel_rfl) (by kernel_rfl) (by kernel_rfl) (fun _ _ _ h => h) (Or.inr ⟨by kernel_rfl, rfl⟩) (by assumption) ?_
          try simp (maxSteps := 4000000) only [Act.put, List.setIfInBounds_toArray, List.set_cons_zero, List.set_cons_succ, List.getElem_toArray, List.getElem_cons_zero, List.getElem_cons_succ]
          refine wpAnyH_take (i := 31) (v := undef) rfl (by kernel_rfl) (by kernel_rfl) (by kernel_rfl) (fun _ _ _ h => h) (Or.inr ⟨by kernel_rfl, rfl⟩) (by assumption) ?_
          try simp (maxSteps := 4000000) only [Act.put, List.setIfInBounds_toArray, List.set_cons_zero, List.set_cons_succ, List.getElem_toArray, List.getElem_cons_zero, List.getElem_cons_succ]
          refine wpAnyH_take (i := 32) (v := ?_) rfl (by kernel_rfl) (by kernel_rfl) (by kernel_rfl) (fun _ _ _ h => h) (Or.inl ⟨by kernel_rfl, ?_⟩) (by assumption) ?_
          rotate_left
          · (intro w hSw; (try dsimp only at hSw); (try have hTk := Hid.out HTAKE _ hSw); go_simp)
            try (with_reducible rfl)
          rotate_left
          try simp (maxSteps := 4000000) only [Act.put, List.setIfInBounds_toArray, List.set_cons_zero, List.set_cons_succ, List.getElem_toArray, List.getElem_cons_zero, List.getElem_cons_succ]
          refine wpAnyH_take (i := 33) (v := ?_) rfl (by kernel_rfl) (by kernel_rfl) (by kernel_rfl) (fun _ _ _ h => h) (Or.inl ⟨by kernel_rfl, ?_⟩) (by assumption) ?_
          rotate_left
          · (intro w hSw; (try dsimp only at hSw); (try have hTk := Hid.out HTAKE _ hSw); go_simp)
            try (with_reducible rfl)
          rotate_left
          try simp (maxSteps := 4000000) only [Act.put, List.setIfInBounds_toArray, List.set_cons_zero, List.set_cons_succ, List.getElem_toArray, List.getElem_cons_zero, List.getElem_cons_succ]
          refine wpAnyH_done (by kernel_rfl) ?_ _
          clear hHeld HTAKE hn3
          go_wp2_with fail
          go_roundw
          case rel => exact ⟨h + 1, by have := HLT.out; omega, by go_num, HN3⟩
          case measure => simp [intOf]; have := HLT.out; omega
        | false =>
          have HAF2 : Hid (∀ w', Below w5.heap.size w5 w' → w'.cell? ⟨g3, h * 6, none⟩ = some (.int .i64 b0) ∧ w'.cell? ⟨g3, h * 6 + 1, none⟩ = some (.int .i64 l0) ∧ w'.cell? ⟨g3, h * 6 + 2, none⟩ = some (.int .i64 c0) ∧ w'.cell? ⟨g3, h * 6 + 3, none⟩ = some (.int .i64 p0) ∧ w'.cell? ⟨g3, h * 6 + 4, none⟩ = some (.int .i64 t0) ∧ w'.cell? ⟨g3, h * 6 + 5, none⟩ = some (.bool v0')) := Lib.hid (by
            intro w' hb
            obtain ⟨x, hx, k⟩ := HAF.out w' hb
            rw [if_neg (by decide)] at hx
            subst hx
            exact k)
          have HTAKE := Lib.hid (fun (w' : World) (hb : Below w5.heap.size w5 w') => And.intro (HBF.out w' hb) (HAF2.out w' hb))
          refine wp_region_held_drew (S := fun w' => Below w5.heap.size w5 w') (by kernel_rfl) ?_ (fun hHeld => ?_)
          · exact HR.out.drew
          refine wpAnyH_take (i := 0) (v := ?_) rfl (by kernel_rfl) (by kernel_rfl) (by kernel_rfl) (fun _ _ _ h => h) (Or.inl ⟨by kernel_rfl, ?_⟩) (by assumption) ?_
          rotate_left
          · (intro w hSw; (try dsimp only at hSw); (try have hTk := Hid.out HTAKE _ hSw); go_simp)
            try (with_reducible rfl)
          rotate_left
          try simp (maxSteps := 4000000) only [Act.put, List.setIfInBounds_toArray, List.set_cons_zero, List.set_cons_succ, List.getElem_toArray, List.getElem_cons_zero, List.getElem_cons_succ]
          refine wpAnyH_take (i := 1) (v := ?_) rfl (by kernel_rfl) (by kernel_rfl) (by kernel_rfl) (fun _ _ _ h => h) (Or.inl ⟨by kernel_rfl, ?_⟩) (by assumption) ?_
          rotate_left
          · (intro w hSw; (try dsimp only at hSw); (try have hTk := Hid.out HTAKE _ hSw); go_simp)
            try (with_reducible rfl)
          rotate_left
          try simp (maxSteps := 4000000) only [Act.put, List.setIfInBounds_toArray, List.set_cons_zero, List.set_cons_succ, List.getElem_toArray, List.getElem_cons_zero, List.getElem_cons_succ]
          refine wpAnyH_take (i := 2) (v := ?_) rfl (by kernel_rfl) (by kernel_rfl) (by kernel_rfl) (fun _ _ _ h => h) (Or.inl ⟨by kernel_rfl, ?_⟩) (by assumption) ?_
          rotate_left
          · (intro w hSw; (try dsimp only at hSw); (try have hTk := Hid.out HTAKE _ hSw); go_simp)
            try (with_reducible rfl)
          rotate_left
          try simp (maxSteps := 4000000) only [Act.put, List.setIfInBounds_toArray, List.set_cons_zero, List.set_cons_succ, List.getElem_toArray, List.getElem_cons_zero, List.getElem_cons_succ]
          refine wpAnyH_take (i := 3) (v := ?_) rfl (by kernel_rfl) (by kernel_rfl) (by kernel_rfl) (fun _ _ _ h => h) (Or.inl ⟨by kernel_rfl, ?_⟩) (by assumption) ?_
          rotate_left
          · (intro w hSw; (try dsimp only at hSw); (try have hTk := Hid.out HTAKE _ hSw); go_simp)
            try (with_reducible rfl)
          rotate_left
          try simp (maxSteps := 4000000) only [Act.put, List.setIfInBounds_toArray, List.set_cons_zero, List.set_cons_succ, List.getElem_toArray, List.getElem_cons_zero, List.getElem_cons_succ]
          refine wpAnyH_take (i := 4) (v := ?_) rfl (by kernel_rfl) (by kernel_rfl) (by kernel_rfl) (fun _ _ _ h => h) (Or.inl ⟨by kernel_rfl, ?_⟩) (by assumption) ?_
          rotate_left
          · (intro w hSw; (try dsimp only at hSw); (try have hTk := Hid.out HTAKE _ hSw); go_simp)
            try (with_reducible rfl)
          rotate_left
          try simp (maxSteps := 4000000) only [Act.put, List.setIfInBounds_toArray, List.set_cons_zero, List.set_cons_succ, List.getElem_toArray, List.getElem_cons_zero, List.getElem_cons_succ]
          refine wpAnyH_ready (rs := [5]) (by kernel_rfl) (by simp) ?_
          refine AllReadyH.cons rfl (fun K2 hK2 => ?_) AllReadyH.nil
          go_simp
          have hrow := (HSTB.out _ hHeld).1
          with_reducible refine Calls.mono (smeets ⟨b0, l0, c0, p0, t0, v0'⟩ PT gp _ false HV1.out HV0.out hrow HPMr.out) ?_
          rintro e u2 ⟨rfl, hb⟩
          have hn : Below w5.heap.size w5 u2 := thn hHeld hb
          clear hb hrow
          refine hK2.out _ _ (hn) (fun hHeld2 => ?_)
          clear hK2 K2 hHeld
          have hHeld := hHeld2
          clear hHeld2
          try simp (maxSteps := 4000000) only [Act.put, List.setIfInBounds_toArray, List.set_cons_zero, List.set_cons_succ]
          refine wpAnyH_take (i := 6) (v := ?_) rfl (by kernel_rfl) (by kernel_rfl) (by kernel_rfl) (fun _ _ _ h => h) (Or.inl ⟨by kernel_rfl, ?_⟩) (by assumption) ?_
          rotate_left
          · (intro w hSw; (try dsimp only at hSw); (try have hTk := Hid.out HTAKE _ hSw); go_simp)
            try (with_reducible rfl)
          rotate_left
          try simp (maxSteps := 4000000) only [Act.put, List.setIfInBounds_toArray, List.set_cons_zero, List.set_cons_succ, List.getElem_toArray, List.getElem_cons_zero, List.getElem_cons_succ]
          refine wpAnyH_take (i := 7) (v := undef) rfl (by kernel_rfl) (by kernel_rfl) (by kernel_rfl) (fun _ _ _ h => h) (Or.inr ⟨by kernel_rfl, rfl⟩) (by assumption) ?_
          try simp (maxSteps := 4000000) only [Act.put, List.setIfInBounds_toArray, List.set_cons_zero, List.set_cons_succ, List.getElem_toArray, List.getElem_cons_zero, List.getElem_cons_succ]
          refine wpAnyH_take (i := 8) (v := undef) rfl (by kernel_rfl) (by kernel_rfl) (by kernel_rfl) (fun _ _ _ h => h) (Or.inr ⟨by kernel_rfl, rfl⟩) (by assumption) ?_
          try simp (maxSteps := 4000000) only [Act.put, List.setIfInBounds_toArray, List.set_cons_zero, List.set_cons_succ, List.getElem_toArray, List.getElem_cons_zero, List.getElem_cons_succ]
          refine wpAnyH_take (i := 9) (v := undef) rfl (by kernel_rfl) (by kernel_rfl) (by kernel_rfl) (fun _ _ _ h => h) (Or.inr ⟨by kernel_rfl, rfl⟩) (by assumption) ?_
          try simp (maxSteps := 4000000) only [Act.put, List.setIfInBounds_toArray, List.set_cons_zero, List.set_cons_succ, List.getElem_toArray, List.getElem_cons_zero, List.getElem_cons_succ]
          refine wpAnyH_take (i := 10) (v := undef) rfl (by kernel_rfl) (by kernel_rfl) (by kernel_rfl) (fun _ _ _ h => h) (Or.inr ⟨by kernel_rfl, rfl⟩) (by assumption) ?_
          try simp (maxSteps := 4000000) only [Act.put, List.setIfInBounds_toArray, List.set_cons_zero, List.set_cons_succ, List.getElem_toArray, List.getElem_cons_zero, List.getElem_cons_succ]
          refine wpAnyH_take (i := 11) (v := undef) rfl (by kernel_rfl) (by kernel_rfl) (by kernel_rfl) (fun _ _ _ h => h) (Or.inr ⟨by kernel_rfl, rfl⟩) (by assumption) ?_
          try simp (maxSteps := 4000000) only [Act.put, List.setIfInBounds_toArray, List.set_cons_zero, List.set_cons_succ, List.getElem_toArray, List.getElem_cons_zero, List.getElem_cons_succ]
          refine wpAnyH_take (i := 12) (v := undef) rfl (by kernel_rfl) (by kernel_rfl) (by kernel_rfl) (fun _ _ _ h => h) (Or.inr ⟨by kernel_rfl, rfl⟩) (by assumption) ?_
          try simp (maxSteps := 4000000) only [Act.put, List.setIfInBounds_toArray, List.set_cons_zero, List.set_cons_succ, List.getElem_toArray, List.getElem_cons_zero, List.getElem_cons_succ]
          refine wpAnyH_take (i := 13) (v := ?_) rfl (by kernel_rfl) (by kernel_rfl) (by kernel_rfl) (fun _ _ _ h => h) (Or.inl ⟨by kernel_rfl, ?_⟩) (by assumption) ?_
          rotate_left
          · (intro w hSw; (try dsimp only at hSw); (try have hTk := Hid.out HTAKE _ hSw); go_simp)
            try (with_reducible rfl)
          rotate_left
          try simp (maxSteps := 4000000) only [Act.put, List.setIfInBounds_toArray, List.set_cons_zero, List.set_cons_succ, List.getElem_toArray, List.getElem_cons_zero, List.getElem_cons_succ]
          refine wpAnyH_take (i := 14) (v := ?_) rfl (by kernel_rfl) (by kernel_rfl) (by kernel_rfl) (fun _ _ _ h => h) (Or.inl ⟨by kernel_rfl, ?_⟩) (by assumption) ?_
          rotate_left
          · (intro w hSw; (try dsimp only at hSw); (try have hTk := Hid.out HTAKE _ hSw); go_simp)
            try (with_reducible rfl)
          rotate_left
          try simp (maxSteps := 4000000) only [Act.put, List.setIfInBounds_toArray, List.set_cons_zero, List.set_cons_succ, List.getElem_toArray, List.getElem_cons_zero, List.getElem_cons_succ]
          refine wpAnyH_take (i := 15) (v := ?_) rfl (by kernel_rfl) (by kernel_rfl) (by kernel_rfl) (fun _ _ _ h => h) (Or.inl ⟨by kernel_rfl, ?_⟩) (by assumption) ?_
          rotate_left
          · (intro w hSw; (try dsimp only at hSw); (try have hTk := Hid.out HTAKE _ hSw); go_simp)
            try (with_reducible rfl)
          rotate_left
          try simp (maxSteps := 4000000) only [Act.put, List.setIfInBounds_toArray, List.set_cons_zero, List.set_cons_succ, List.getElem_toArray, List.getElem_cons_zero, List.getElem_cons_succ]
          refine wpAnyH_take (i := 16) (v := ?_) rfl (by kernel_rfl) (by kernel_rfl) (by kernel_rfl) (fun _ _ _ h => h) (Or.inl ⟨by kernel_rfl, ?_⟩) (by assumption) ?_
          rotate_left
          · (intro w hSw; (try dsimp only at hSw); (try have hTk := Hid.out HTAKE _ hSw); go_simp)
            try (with_reducible rfl)
          rotate_left
          try simp (maxSteps := 4000000) only [Act.put, List.setIfInBounds_toArray, List.set_cons_zero, List.set_cons_succ, List.getElem_toArray, List.getElem_cons_zero, List.getElem_cons_succ]
          refine wpAnyH_take (i := 17) (v := ?_) rfl (by kernel_rfl) (by kernel_rfl) (by kernel_rfl) (fun _ _ _ h => h) (Or.inl ⟨by kernel_rfl, ?_⟩) (by assumption) ?_
          rotate_left
          · (intro w hSw; (try dsimp only at hSw); (try have hTk := Hid.out HTAKE _ hSw); go_simp)
            try (with_reducible rfl)
          rotate_left
          try simp (maxSteps := 4000000) only [Act.put, List.setIfInBounds_toArray, List.set_cons_zero, List.set_cons_succ, List.getElem_toArray, List.getElem_cons_zero, List.getElem_cons_succ]
          refine wpAnyH_take (i := 18) (v := ?_) rfl (by kernel_rfl) (by kernel_rfl) (by kernel_rfl) (fun _ _ _ h => h) (Or.inl ⟨by kernel_rfl, ?_⟩) (by assumption) ?_
          rotate_left
          · (intro w hSw; (try dsimp only at hSw); (try have hTk := Hid.out HTAKE _ hSw); go_simp)
            try (with_reducible rfl)
          rotate_left
          try simp (maxSteps := 4000000) only [Act.put, List.setIfInBounds_toArray, List.set_cons_zero, List.set_cons_succ, List.getElem_toArray, List.getElem_cons_zero, List.getElem_cons_succ]
          refine wpAnyH_take (i := 19) (v := ?_) rfl (by kernel_rfl) (by kernel_rfl) (by kernel_rfl) (fun _ _ _ h => h) (Or.inl ⟨by kernel_rfl, ?_⟩) (by assumption) ?_
          rotate_left
          · (intro w hSw; (try dsimp only at hSw); (try have hTk := Hid.out HTAKE _ hSw); go_simp)
            try (with_reducible rfl)
          rotate_left
          try simp (maxSteps := 4000000) only [Act.put, List.setIfInBounds_toArray, List.set_cons_zero, List.set_cons_succ, List.getElem_toArray, List.getElem_cons_zero, List.getElem_cons_succ]
          refine wpAnyH_ready (rs := [20]) (by kernel_rfl) (by simp) ?_
          refine AllReadyH.cons rfl (fun K2 hK2 => ?_) AllReadyH.nil
          go_simp
          have hrow := (HSTB.out _ hHeld).1
          with_reducible refine Calls.mono (smeets ⟨b0, l0, c0, p0, t0, v0'⟩ PT gp _ false HV1.out HV0.out hrow HPMr.out) ?_
          rintro e u3 ⟨rfl, hb⟩
          have hn3 : Below w5.heap.size w5 u3 := thn hHeld hb
          have HN3 := Lib.hid hn3
          clear hb hrow hn
          refine hK2.out _ _ (hn3) (fun hHeld2 => ?_)
          clear hK2 K2 hHeld
          have hHeld := hHeld2
          clear hHeld2
          try simp (maxSteps := 4000000) only [Act.put, List.setIfInBounds_toArray, List.set_cons_zero, List.set_cons_succ]
          refine wpAnyH_take (i := 21) (v := ?_) rfl (by kernel_rfl) (by kernel_rfl) (by kernel_rfl) (fun _ _ _ h => h) (Or.inl ⟨by kernel_rfl, ?_⟩) (by assumption) ?_
          rotate_left
          · (intro w hSw; (try dsimp only at hSw); (try have hTk := Hid.out HTAKE _ hSw); go_simp)
            try (with_reducible rfl)
          rotate_left
          try simp (maxSteps := 4000000) only [Act.put, List.setIfInBounds_toArray, List.set_cons_zero, List.set_cons_succ, List.getElem_toArray, List.getElem_cons_zero, List.getElem_cons_succ]
          refine wpAnyH_take (i := 22) (v := ?_) rfl (by kernel_rfl) (by kernel_rfl) (by kernel_rfl) (fun _ _ _ h => h) (Or.inl ⟨by kernel_rfl, ?_⟩) (by assumption) ?_
          rotate_left
          · (intro w hSw; (try dsimp only at hSw); (try have hTk := Hid.out HTAKE _ hSw); go_simp)
            try (with_reducible rfl)
          rotate_left
          try simp (maxSteps := 4000000) only [Act.put, List.setIfInBounds_toArray, List.set_cons_zero, List.set_cons_succ, List.getElem_toArray, List.getElem_cons_zero, List.getElem_cons_succ]
          refine wpAnyH_take (i := 23) (v := ?_) rfl (by kernel_rfl) (by kernel_rfl) (by kernel_rfl) (fun _ _ _ h => h) (Or.inl ⟨by kernel_rfl, ?_⟩) (by assumption) ?_
          rotate_left
          · (intro w hSw; (try dsimp only at hSw); (try have hTk := Hid.out HTAKE _ hSw); go_simp)
            try (with_reducible rfl)
          rotate_left
          try simp (maxSteps := 4000000) only [Act.put, List.setIfInBounds_toArray, List.set_cons_zero, List.set_cons_succ, List.getElem_toArray, List.getElem_cons_zero, List.getElem_cons_succ]
          refine wpAnyH_take (i := 24) (v := ?_) rfl (by kernel_rfl) (by kernel_rfl) (by kernel_rfl) (fun _ _ _ h => h) (Or.inl ⟨by kernel_rfl, ?_⟩) (by assumption) ?_
          rotate_left
          · (intro w hSw; (try dsimp only at hSw); (try have hTk := Hid.out HTAKE _ hSw); go_simp)
            try (with_reducible rfl)
          rotate_left
          try simp (maxSteps := 4000000) only [Act.put, List.setIfInBounds_toArray, List.set_cons_zero, List.set_cons_succ, List.getElem_toArray, List.getElem_cons_zero, List.getElem_cons_succ]
          refine wpAnyH_take (i := 25) (v := ?_) rfl (by kernel_rfl) (by kernel_rfl) (by kernel_rfl) (fun _ _ _ h => h) (Or.inl ⟨by kernel_rfl, ?_⟩) (by assumption) ?_
          rotate_left
          · (intro w hSw; (try dsimp only at hSw); (try have hTk := Hid.out HTAKE _ hSw); go_simp)
            try (with_reducible rfl)
          rotate_left
          try simp (maxSteps := 4000000) only [Act.put, List.setIfInBounds_toArray, List.set_cons_zero, List.set_cons_succ, List.getElem_toArray, List.getElem_cons_zero, List.getElem_cons_succ]
          refine wpAnyH_take (i := 26) (v := ?_) rfl (by kernel_rfl) (by kernel_rfl) (by kernel_rfl) (fun _ _ _ h => h) (Or.inl ⟨by kernel_rfl, ?_⟩) (by assumption) ?_
          rotate_left
          · (intro w hSw; (try dsimp only at hSw); (try have hTk := Hid.out HTAKE _ hSw); go_simp)
            try (with_reducible rfl)
          rotate_left
          try simp (maxSteps := 4000000) only [Act.put, List.setIfInBounds_toArray, List.set_cons_zero, List.set_cons_succ, List.getElem_toArray, List.getElem_cons_zero, List.getElem_cons_succ]
          refine wpAnyH_take (i := 27) (v := ?_) rfl (by kernel_rfl) (by kernel_rfl) (by kernel_rfl) (fun _ _ _ h => h) (Or.inl ⟨by kernel_rfl, ?_⟩) (by assumption) ?_
          rotate_left
          · (intro w hSw; (try dsimp only at hSw); (try have hTk := Hid.out HTAKE _ hSw); go_simp)
            try (with_reducible rfl)
          rotate_left
          try simp (maxSteps := 4000000) only [Act.put, List.setIfInBounds_toArray, List.set_cons_zero, List.set_cons_succ, List.getElem_toArray, List.getElem_cons_zero, List.getElem_cons_succ]
          refine wpAnyH_take (i := 28) (v := ?_) rfl (by kernel_rfl) (by kernel_rfl) (by kernel_rfl) (fun _ _ _ h => h) (Or.inl ⟨by kernel_rfl, ?_⟩) (by assumption) ?_
          rotate_left
          · (intro w hSw; (try dsimp only at hSw); (try have hTk := Hid.out HTAKE _ hSw); go_simp)
            try (with_reducible rfl)
          rotate_left
          try simp (maxSteps := 4000000) only [Act.put, List.setIfInBounds_toArray, List.set_cons_zero, List.set_cons_succ, List.getElem_toArray, List.getElem_cons_zero, List.getElem_cons_succ]
          refine wpAnyH_take (i := 29) (v := ?_) rfl (by kernel_rfl) (by kernel_rfl) (by kernel_rfl) (fun _ _ _ h => h) (Or.inl ⟨by kernel_rfl, ?_⟩) (by assumption) ?_
          rotate_left
          · (intro w hSw; (try dsimp only at hSw); (try have hTk := Hid.out HTAKE _ hSw); go_simp)
            try (with_reducible rfl)
          rotate_left
          try simp (maxSteps := 4000000) only [Act.put, List.setIfInBounds_toArray, List.set_cons_zero, List.set_cons_succ, List.getElem_toArray, List.getElem_cons_zero, List.getElem_cons_succ]
          refine wpAnyH_take (i := 30) (v := ?_) rfl (by kernel_rfl) (by kernel_rfl) (by kernel_rfl) (fun _ _ _ h => h) (Or.inl ⟨by kernel_rfl, ?_⟩) (by assumption) ?_
          rotate_left
          · (intro w hSw; (try dsimp only at hSw); (try have hTk := Hid.out HTAKE _ hSw); go_simp)
            try (with_reducible rfl)
          rotate_left
          try simp (maxSteps := 4000000) only [Act.put, List.setIfInBounds_toArray, List.set_cons_zero, List.set_cons_succ, List.getElem_toArray, List.getElem_cons_zero, List.getElem_cons_succ]
          refine wpAnyH_take (i := 31) (v := ?_) rfl (by kernel_rfl) (by kernel_rfl) (by kernel_rfl) (fun _ _ _ h => h) (Or.inl ⟨by kernel_rfl, ?_⟩) (by assumption) ?_
          rotate_left
          · (intro w hSw; (try dsimp only at hSw); (try have hTk := Hid.out HTAKE _ hSw); go_simp)
            try (with_reducible rfl)
          rotate_left
          try simp (maxSteps := 4000000) only [Act.put, List.setIfInBounds_toArray, List.set_cons_zero, List.set_cons_succ, List.getElem_toArray, List.getElem_cons_zero, List.getElem_cons_succ]
          refine wpAnyH_take (i := 32) (v := ?_) rfl (by kernel_rfl) (by kernel_rfl) (by kernel_rfl) (fun _ _ _ h => h) (Or.inl ⟨by kernel_rfl, ?_⟩) (by assumption) ?_
          rotate_left
          · (intro w hSw; (try dsimp only at hSw); (try have hTk := Hid.out HTAKE _ hSw); go_simp)
            try (with_reducible rfl)
          rotate_left
          try simp (maxSteps := 4000000) only [Act.put, List.setIfInBounds_toArray, List.set_cons_zero, List.set_cons_succ, List.getElem_toArray, List.getElem_cons_zero, List.getElem_cons_succ]
          refine wpAnyH_take (i := 33) (v := ?_) rfl (by kernel_rfl) (by kernel_rfl) (by kernel_rfl) (fun _ _ _ h => h) (Or.inl ⟨by kernel_rfl, ?_⟩) (by assumption) ?_
          rotate_left
          · (intro w hSw; (try dsimp only at hSw); (try have hTk := Hid.out HTAKE _ hSw); go_simp)
            try (with_reducible rfl)
          rotate_left
          try simp (maxSteps := 4000000) only [Act.put, List.setIfInBounds_toArray, List.set_cons_zero, List.set_cons_succ, List.getElem_toArray, List.getElem_cons_zero, List.getElem_cons_succ]
          refine wpAnyH_done (by kernel_rfl) ?_ _
          clear hHeld HTAKE hn3
          go_wp2_with fail
          go_roundw
          case rel => exact ⟨h + 1, by have := HLT.out; omega, by go_num, HN3⟩
          case measure => simp [intOf]; have := HLT.out; omega
      · obtain rfl : h = 6 := by omega
        have hltI : ¬ ((6 : Nat) : Int) < 6 := by omega
        clear hh hlt
        rename World => wz3
        go_wp2_with fail
        rename_i yyz0 yyz1 yyz2 yyz3 yyz4 yyz5 yyz6 yyz7 yyz8 yyz9 yyz10 yyz11 yyz12 yyz13 yyz14 yyz15 yyz16 yyz17 yyz18 yyz19 yyz20 yyz21 yyz22 yyz23 yyz24 yyz25 yyz26 yyz27 yyz28 yyz29 yyz30 yyz31 yyz32 yyz33 yyz34 yyz35 yyz36 yyz37 yyz38 yyz39 yyz40 yyz41 yyz42 yyz43 yyz44 yyz45 yyz46 yyz47
        revert A l cp A2 l2 cp2 x W T HA HA2 L hl L2 hl2 HLEN2 zz0 v0 HB0 v1 B col M R g σ f HD HG HB1 zy0 u33 u34 u35 u36 u37 u38 u39 u40 u41 zz1 zz2 zz3 zz4 zz5 zz6 zz7 zz8 zz9 zz10 zz11 zz12 zz13 zz14 zz15 zz16 zz17 zz18 zz19 zz20 zz21 zz22 zz23 zz24 zz25 zz26 zz27 zz28 zz29 zz30 zz31 zz32 zz33 zz34 zz35 zz36 zz37 zz38 zz39 u81 u82 u83 zx0 zx1 zx2 zx3 zx4 zx5 zx6 zx7 zx8 zx9 zx10 zx11 zx12 zx13 zx14 zx15 zx16 zx17 zx18 zx19 zx20 zx21 zx22 zx23 zx24 zx25 zx26 zx27 zx28 zx29 zx30 zx31 zx32 zx33 zx34 zx35 zx36 zx37 u122 u123 u124 u125 u126 u127 u128 u129 u130 u131 zy1 zy2 zy3 zy4 zy5 zy6 zy7 zy8 zy9 zy10 zy11 zy12 zy13 zy14 zy15 zy16 zy17 zy18 zy19 zy20 zy21 zy22 zy23 zy24 u156 u157 u158 u159 u160 u161 u162 u163 u164 u165 u166 u167 u168 u169 u170 u171 u172 u173 u174 u175 u176 u177 u178 u179 u180 u181 u182 u183 u184 yyz0 yyz1 yyz2 yyz3 yyz4 yyz5 yyz6 yyz7 yyz8 yyz9 yyz10 yyz11 yyz12 yyz13 yyz14 yyz15 yyz16 yyz17 yyz18 yyz19 yyz20 yyz21 yyz22 yyz23 yyz24 yyz25 yyz26 yyz27 yyz28 yyz29 yyz30 yyz31 yyz32 yyz33 yyz34 yyz35 yyz36 yyz37 yyz38 yyz39 u225 u226 u227 u228 u229 u230 u231 u232 u233 u234 u235 u236 u237 u238 u239 u240 u241 u242 u243 u244 u245 u246 u247 u248 u249 u250 u251 u252 u253 u254 u255 u256 u257 u258 u259 u260 u261 u262 u263 u264 u265 u266 lo P pg gp zz40 zx38 u12 u13 zz42 zz43 zz44 zz45 zz46 zz47 zz48 u49 zz49 zz50 zz51 zz52 zz53 zz54 zz55 zz56 zz57 zz58 zz59 zz60 zz61 zz62 zz63 zz64 zz65 zz66 zz67 zz68 zz69 zz70 zz71 zz72 zz73 zz74 zz75 zz76 zz77 zz78 zz79 i c ws PT hi8 hc hi8' zz80 zz81 zz82 u42 u43 u44 u45 u46 u47 u48 u50 u51 u52 u53 u54 u55 u56 u57 u58 u59 u60 u61 u62 u63 u64 u65 u66 u67 u68 u69 u70 u71 u72 u73 u74 u75 u76 u77 u78 u79 u80 HEND w1 g2 cap2 HG2F wa kb HKB zx39 wo u18 u19 u84 u85 u86 u87 u88 u89 u90 u91 u92 u93 u94 u95 u96 u97 u98 u99 u100 u101 u102 u103 u104 u105 u106 u107 N hN128 HNN zx40 zx41 zx42 zx43 zx44 wz u108 u109 u110 u111 u112 u113 u114 u115 u116 u117 u118 u119 u120 u121 zx46 yyz40 k0 e63 ks wks HKS w2 s cp' pb po HW0 HROWS HAWAY w3 zy25 wz2 yyz41 u25 u132 u133 u134 u135 u136 u137 u138 u139 u140 u141 u142 u143 u144 u145 u146 u147 u148 u149 u150 u151 u152 u153 u154 u155 m n' hm86 HMK mk HMK2 HGE zy27 w4 col4 hN2' HN2 zx45 zx47 HCNT zy26 zy28 w5 g3 cap3 HC3 HI5 HM5 yyz42 HSTB wz3 u6 u185 u186 u187 u188 u189 u190 u191 u192 u193 u194 u195 u196 u197 u198 u199 u200 u201 u202 u203 u204 u205 u206 u207 u208 u209 u210 u211 u212 u213 u214 u215 u216 u217 u218 u219 u220 u221 u222 u223 u224 HR yyz43 yyz44 yyz45 yyz46 yyz47 hltI
        exact hX_td.out
end Go.Proofs.YtljjcomedjdpaaaDoor
namespace Go.Proofs.YtljjcomedjdpaaaDoor
set_option maxRecDepth 100000
open Go.RowKit Go.ChangeMaps Go.MapKept
set_option linter.unusedVariables false
set_option linter.unusedSimpArgs false

set_option maxHeartbeats 25600000 in
theorem sgt_t : sgzStep.1 := by
  intro A l cp A2 l2 cp2 x W T HA HA2 L hl L2 hl2 HLEN2 zz0 v0 HB0 v1 B col M R g σ f HD HG HB1 zy0 u33 u34 u35 u36 u37 u38 u39 u40 u41 zz1 zz2 zz3 zz4 zz5 zz6 zz7 zz8 zz9 zz10 zz11 zz12 zz13 zz14 zz15 zz16 zz17 zz18 zz19 zz20 zz21 zz22 zz23 zz24 zz25 zz26 zz27 zz28 zz29 zz30 zz31 zz32 zz33 zz34 zz35 zz36 zz37 zz38 zz39 u81 u82 u83 zx0 zx1 zx2 zx3 zx4 zx5 zx6 zx7 zx8 zx9 zx10 zx11 zx12 zx13 zx14 zx15 zx16 zx17 zx18 zx19 zx20 zx21 zx22 zx23 zx24 zx25 zx26 zx27 zx28 zx29 zx30 zx31 zx32 zx33 zx34 zx35 zx36 zx37 u122 u123 u124 u125 u126 u127 u128 u129 u130 u131 zy1 zy2 zy3 zy4 zy5 zy6 zy7 zy8 zy9 zy10 zy11 zy12 zy13 zy14 zy15 zy16 zy17 zy18 zy19 zy20 zy21 zy22 zy23 zy24 u156 u157 u158 u159 u160 u161 u162 u163 u164 u165 u166 u167 u168 u169 u170 u171 u172 u173 u174 u175 u176 u177 u178 u179 u180 u181 u182 u183 u184 yyz0 yyz1 yyz2 yyz3 yyz4 yyz5 yyz6 yyz7 yyz8 yyz9 yyz10 yyz11 yyz12 yyz13 yyz14 yyz15 yyz16 yyz17 yyz18 yyz19 yyz20 yyz21 yyz22 yyz23 yyz24 yyz25 yyz26 yyz27 yyz28 yyz29 yyz30 yyz31 yyz32 yyz33 yyz34 yyz35 yyz36 yyz37 yyz38 yyz39 u225 u226 u227 u228 u229 u230 u231 u232 u233 u234 u235 u236 u237 u238 u239 u240 u241 u242 u243 u244 u245 u246 u247 u248 u249 u250 u251 u252 u253 u254 u255 u256 u257 u258 u259 u260 u261 u262 u263 u264 u265 u266 lo P pg gp zz40 zx38 u12 u13 zz42 zz43 zz44 zz45 zz46 zz47 zz48 u49 zz49 zz50 zz51 zz52 zz53 zz54 zz55 zz56 zz57 zz58 zz59 zz60 zz61 zz62 zz63 zz64 zz65 zz66 zz67 zz68 zz69 zz70 zz71 zz72 zz73 zz74 zz75 zz76 zz77 zz78 zz79 i c ws PT hi8 hc hi8' zz80 zz81 zz82 u42 u43 u44 u45 u46 u47 u48 u50 u51 u52 u53 u54 u55 u56 u57 u58 u59 u60 u61 u62 u63 u64 u65 u66 u67 u68 u69 u70 u71 u72 u73 u74 u75 u76 u77 u78 u79 u80 HEND w1 g2 cap2 HG2F wa kb HKB zx39 wo u18 u19 u84 u85 u86 u87 u88 u89 u90 u91 u92 u93 u94 u95 u96 u97 u98 u99 u100 u101 u102 u103 u104 u105 u106 u107 N hN128 HNN zx40 zx41 zx42 zx43 zx44 wz u108 u109 u110 u111 u112 u113 u114 u115 u116 u117 u118 u119 u120 u121 zx46 yyz40 k0 e63 ks wks HKS w2 s cp' pb po HW0 HROWS HAWAY w3 zy25 wz2 yyz41 u25 u132 u133 u134 u135 u136 u137 u138 u139 u140 u141 u142 u143 u144 u145 u146 u147 u148 u149 u150 u151 u152 u153 u154 u155 m n' hm86 HMK mk HMK2 HGE zy27 w4 col4 hN2' HN2 zx45 zx47 HCNT zy26 zy28 w5 g3 cap3 HC3 HI5 HM5 yyz42 HSTB wz3 u6 u185 u186 u187 u188 u189 u190 u191 u192 u193 u194 u195 u196 u197 u198 u199 u200 u201 u202 u203 u204 u205 u206 u207 u208 u209 u210 u211 u212 u213 u214 u215 u216 u217 u218 u219 u220 u221 u222 u223 u224 HR yyz43 yyz44 yyz45 yyz46 yyz47 hltI
  go_loopw [28] (fun v28 wr => ∃ i : Nat, i ≤ 128 ∧ v28 = .int .i64 i ∧ Hid (Below w5.heap.size w5 wr)) (fun v28 _ => 128 - (intOf v28).toNat)
  case atStart => exact ⟨0, by omega, rfl, HR⟩
  case round =>
    clear HR
    obtain ⟨i, hi, rfl, HR⟩ := hrel
    by_cases hlt : i < 128
    · have hltI : (i : Int) < 128 := by omega
      have hgeI : (0 : Int) ≤ (i : Int) := by omega
      have HLT := Lib.hid hlt
      have HMr := Lib.hid (HM5.out.later HR.out)
      have hkd := kp_end (PT := PT) HG.out i
      cases hk : σ.kp i with
      | false =>
        rw [hk, Bool.false_and] at hkd
        have HCK := Lib.hid (capK_zero hk)
        have HPM : Hid (PM PT cap0 = false) := Lib.hid (PM_none rfl)
        have HKC : Hid (∀ w', Below w5.heap.size w5 w' → w'.cell? ⟨kb, i * 6, none⟩ = some (.int .i64 0) ∧ w'.cell? ⟨kb, i * 6 + 1, none⟩ = some (.int .i64 0) ∧ w'.cell? ⟨kb, i * 6 + 2, none⟩ = some (.int .i64 0) ∧ w'.cell? ⟨kb, i * 6 + 3, none⟩ = some (.int .i64 0) ∧ w'.cell? ⟨kb, i * 6 + 4, none⟩ = some (.int .i64 0) ∧ w'.cell? ⟨kb, i * 6 + 5, none⟩ = some (.bool false)) := Lib.hid (by
          intro w' hb
          have k := (HSTB.out w' hb).2.1.at_ i HLT.out
          have e : kpA σ 128 i = cap0 := by unfold kpA; rw [if_pos HLT.out]; exact HCK.out
          rw [e] at k
          exact k)
        clear hk
        have HNO : Hid ((decide (0 ≤ (i : Int) ∧ (i : Int) < 16384) && (sgD PT σ 86).kp (i : Int).toNat) = false) := Lib.hid (by rw [Int.toNat_natCast, hkd, Bool.and_false])
        clear hkd hlt
        go_wp2_with fail
        refine (mkept_no (i : Int) HMr.out.mem HNO.out).mono ?_
        rintro e w5b ⟨rfl, rfl⟩
        go_wp2_with fail
        refine (cread_nil none 0 0 _ (by decide) (by decide)).mono ?_
        rintro e w6 ⟨rfl, hb6⟩
        have HR6 := Lib.hid (thn HR.out hb6)
        clear hb6
        go_upto_region 50 with (fail)
        have HX7 := Lib.hid (CapAt.new w6 0 0 0 0 0 false 37)
        have HR7' := Lib.hid (alc HR6.out (.cells #[.int .i64 0, .int .i64 0, .int .i64 0, .int .i64 0, .int .i64 0, .bool false] 37))
        clear HR6
        generalize hw7 : w6.alloc (.cells #[.int .i64 0, .int .i64 0, .int .i64 0, .int .i64 0, .int .i64 0, .bool false] 37) = w7 at *
        clear hw7
        generalize w6.heap.size = x31 at *
        have HR7 := HR7'
        clear HR7'
        have HTAKE := Lib.hid (fun (w' : World) (hb : Below w7.heap.size w7 w') => And.intro (HX7.out.below hb).2 (HKC.out w' (thn HR7.out hb)))
        refine wp_region_held_drew (S := fun w' => Below w7.heap.size w7 w') (by kernel_rfl) ?_ (fun hHeld => ?_)
        · exact (Below.refl _ _).drew
        refine wpAnyH_take (i := 0) (v := ?_) rfl (by kernel_rfl) (by kernel_rfl) (by kernel_rfl) (fun _ _ _ h => h) (Or.inl ⟨by kernel_rfl, ?_⟩) (by assumption) ?_
        rotate_left
        · (intro w hSw; (try dsimp only at hSw); (try have hTk := Hid.out HTAKE _ hSw); go_simp)
          try (with_reducible rfl)
        rotate_left
        try simp (maxSteps := 4000000) only [Act.put, List.setIfInBounds_toArray, List.set_cons_zero, List.set_cons_succ, List.getElem_toArray, List.getElem_cons_zero, List.getElem_cons_succ]
        refine wpAnyH_take (i := 1) (v := ?_) rfl (by kernel_rfl) (by kernel_rfl) (by kernel_rfl) (fun _ _ _ h => h) (Or.inl ⟨by kernel_rfl, ?_⟩) (by assumption) ?_
        rotate_left
        · (intro w hSw; (try dsimp only at hSw); (try have hTk := Hid.out HTAKE _ hSw); go_simp)
          try (with_reducible rfl)
        rotate_left
        try simp (maxSteps := 4000000) only [Act.put, List.setIfInBounds_toArray, List.set_cons_zero, List.set_cons_succ, List.getElem_toArray, List.getElem_cons_zero, List.getElem_cons_succ]
        refine wpAnyH_take (i := 2) (v := undef) rfl (by kernel_rfl) (by kernel_rfl) (by kernel_rfl) (fun _ _ _ h => h) (Or.inr ⟨by kernel_rfl, rfl⟩) (by assumption) ?_
        try simp (maxSteps := 4000000) only [Act.put, List.setIfInBounds_toArray, List.set_cons_zero, List.set_cons_succ, List.getElem_toArray, List.getElem_cons_zero, List.getElem_cons_succ]
        refine wpAnyH_take (i := 3) (v := undef) rfl (by kernel_rfl) (by kernel_rfl) (by kernel_rfl) (fun _ _ _ h => h) (Or.inr ⟨by kernel_rfl, rfl⟩) (by assumption) ?_
        try simp (maxSteps := 4000000) only [Act.put, List.setIfInBounds_toArray, List.set_cons_zero, List.set_cons_succ, List.getElem_toArray, List.getElem_cons_zero, List.getElem_cons_succ]
        refine wpAnyH_take (i := 4) (v := undef) rfl (by kernel_rfl) (by kernel_rfl) (by kernel_rfl) (fun _ _ _ h => h) (Or.inr ⟨by kernel_rfl, rfl⟩) (by assumption) ?_
        try simp (maxSteps := 4000000) only [Act.put, List.setIfInBounds_toArray, List.set_cons_zero, List.set_cons_succ, List.getElem_toArray, List.getElem_cons_zero, List.getElem_cons_succ]
        refine wpAnyH_take (i := 5) (v := ?_) rfl (by kernel_rfl) (by kernel_rfl) (by kernel_rfl) (fun _ _ _ h => h) (Or.inl ⟨by kernel_rfl, ?_⟩) (by assumption) ?_
        rotate_left
        · (intro w hSw; (try dsimp only at hSw); (try have hTk := Hid.out HTAKE _ hSw); go_simp)
          try (with_reducible rfl)
        rotate_left
        try simp (maxSteps := 4000000) only [Act.put, List.setIfInBounds_toArray, List.set_cons_zero, List.set_cons_succ, List.getElem_toArray, List.getElem_cons_zero, List.getElem_cons_succ]
        refine wpAnyH_take (i := 6) (v := ?_) rfl (by kernel_rfl) (by kernel_rfl) (by kernel_rfl) (fun _ _ _ h => h) (Or.inl ⟨by kernel_rfl, ?_⟩) (by assumption) ?_
        rotate_left
        · (intro w hSw; (try dsimp only at hSw); (try have hTk := Hid.out HTAKE _ hSw); go_simp)
          try (with_reducible rfl)
        rotate_left
        try simp (maxSteps := 4000000) only [Act.put, List.setIfInBounds_toArray, List.set_cons_zero, List.set_cons_succ, List.getElem_toArray, List.getElem_cons_zero, List.getElem_cons_succ]
        refine wpAnyH_take (i := 7) (v := ?_) rfl (by kernel_rfl) (by kernel_rfl) (by kernel_rfl) (fun _ _ _ h => h) (Or.inl ⟨by kernel_rfl, ?_⟩) (by assumption) ?_
        rotate_left
        · (intro w hSw; (try dsimp only at hSw); (try have hTk := Hid.out HTAKE _ hSw); go_simp)
          try (with_reducible rfl)
        rotate_left
        try simp (maxSteps := 4000000) only [Act.put, List.setIfInBounds_toArray, List.set_cons_zero, List.set_cons_succ, List.getElem_toArray, List.getElem_cons_zero, List.getElem_cons_succ]
        refine wpAnyH_take (i := 8) (v := ?_) rfl (by kernel_rfl) (by kernel_rfl) (by kernel_rfl) (fun _ _ _ h => h) (Or.inl ⟨by kernel_rfl, ?_⟩) (by assumption) ?_
        rotate_left
        · (intro w hSw; (try dsimp only at hSw); (try have hTk := Hid.out HTAKE _ hSw); go_simp)
          try (with_reducible rfl)
        rotate_left
        try simp (maxSteps := 4000000) only [Act.put, List.setIfInBounds_toArray, List.set_cons_zero, List.set_cons_succ, List.getElem_toArray, List.getElem_cons_zero, List.getElem_cons_succ]
        refine wpAnyH_take (i := 9) (v := ?_) rfl (by kernel_rfl) (by kernel_rfl) (by kernel_rfl) (fun _ _ _ h => h) (Or.inl ⟨by kernel_rfl, ?_⟩) (by assumption) ?_
        rotate_left
        · (intro w hSw; (try dsimp only at hSw); (try have hTk := Hid.out HTAKE _ hSw); go_simp)
          try (with_reducible rfl)
        rotate_left
        try simp (maxSteps := 4000000) only [Act.put, List.setIfInBounds_toArray, List.set_cons_zero, List.set_cons_succ, List.getElem_toArray, List.getElem_cons_zero, List.getElem_cons_succ]
        refine wpAnyH_take (i := 10) (v := ?_) rfl (by kernel_rfl) (by kernel_rfl) (by kernel_rfl) (fun _ _ _ h => h) (Or.inl ⟨by kernel_rfl, ?_⟩) (by assumption) ?_
        rotate_left
        · (intro w hSw; (try dsimp only at hSw); (try have hTk := Hid.out HTAKE _ hSw); go_simp)
          try (with_reducible rfl)
        rotate_left
        try simp (maxSteps := 4000000) only [Act.put, List.setIfInBounds_toArray, List.set_cons_zero, List.set_cons_succ, List.getElem_toArray, List.getElem_cons_zero, List.getElem_cons_succ]
        refine wpAnyH_ready (rs := [11]) (by kernel_rfl) (by simp) ?_
        refine AllReadyH.cons rfl (fun K2 hK2 => ?_) AllReadyH.nil
        go_simp
        have hrow := (HSTB.out _ (thn HR7.out hHeld)).1
        have hcall := smeets ⟨0, 0, 0, 0, 0, false⟩ PT gp _ false (fun h => by cases h) (fun _ => rfl) hrow HPM.out
        with_reducible refine Calls.mono hcall ?_
        rintro e u2 ⟨rfl, hb⟩
        have hn2 : Below w7.heap.size w7 u2 := thn hHeld hb
        clear hb hrow hcall
        refine hK2.out _ _ (hn2) (fun hHeld2 => ?_)
        clear hK2 K2 hHeld
        have hHeld := hHeld2
        clear hHeld2
        try simp (maxSteps := 4000000) only [Act.put, List.setIfInBounds_toArray, List.set_cons_zero, List.set_cons_succ]
        refine wpAnyH_take (i := 12) (v := ?_) rfl (by kernel_rfl) (by kernel_rfl) (by kernel_rfl) (fun _ _ _ h => h) (Or.inl ⟨by kernel_rfl, ?_⟩) (by assumption) ?_
        rotate_left
        · (intro w hSw; (try dsimp only at hSw); (try have hTk := Hid.out HTAKE _ hSw); go_simp)
          try (with_reducible rfl)
        rotate_left
        try simp (maxSteps := 4000000) only [Act.put, List.setIfInBounds_toArray, List.set_cons_zero, List.set_cons_succ, List.getElem_toArray, List.getElem_cons_zero, List.getElem_cons_succ]
        refine wpAnyH_take (i := 13) (v := ?_) rfl (by kernel_rfl) (by kernel_rfl) (by kernel_rfl) (fun _ _ _ h => h) (Or.inl ⟨by kernel_rfl, ?_⟩) (by assumption) ?_
        rotate_left
        · (intro w hSw; (try dsimp only at hSw); (try have hTk := Hid.out HTAKE _ hSw); go_simp)
          try (with_reducible rfl)
        rotate_left
        try simp (maxSteps := 4000000) only [Act.put, List.setIfInBounds_toArray, List.set_cons_zero, List.set_cons_succ, List.getElem_toArray, List.getElem_cons_zero, List.getElem_cons_succ]
        refine wpAnyH_take (i := 14) (v := ?_) rfl (by kernel_rfl) (by kernel_rfl) (by kernel_rfl) (fun _ _ _ h => h) (Or.inl ⟨by kernel_rfl, ?_⟩) (by assumption) ?_
        rotate_left
        · (intro w hSw; (try dsimp only at hSw); (try have hTk := Hid.out HTAKE _ hSw); go_simp)
          try (with_reducible rfl)
        rotate_left
        try simp (maxSteps := 4000000) only [Act.put, List.setIfInBounds_toArray, List.set_cons_zero, List.set_cons_succ, List.getElem_toArray, List.getElem_cons_zero, List.getElem_cons_succ]
        refine wpAnyH_take (i := 15) (v := ?_) rfl (by kernel_rfl) (by kernel_rfl) (by kernel_rfl) (fun _ _ _ h => h) (Or.inl ⟨by kernel_rfl, ?_⟩) (by assumption) ?_
        rotate_left
        · (intro w hSw; (try dsimp only at hSw); (try have hTk := Hid.out HTAKE _ hSw); go_simp)
          try (with_reducible rfl)
        rotate_left
        try simp (maxSteps := 4000000) only [Act.put, List.setIfInBounds_toArray, List.set_cons_zero, List.set_cons_succ, List.getElem_toArray, List.getElem_cons_zero, List.getElem_cons_succ]
        refine wpAnyH_take (i := 16) (v := ?_) rfl (by kernel_rfl) (by kernel_rfl) (by kernel_rfl) (fun _ _ _ h => h) (Or.inl ⟨by kernel_rfl, ?_⟩) (by assumption) ?_
        rotate_left
        · (intro w hSw; (try dsimp only at hSw); (try have hTk := Hid.out HTAKE _ hSw); go_simp)
          try (with_reducible rfl)
        rotate_left
        try simp (maxSteps := 4000000) only [Act.put, List.setIfInBounds_toArray, List.set_cons_zero, List.set_cons_succ, List.getElem_toArray, List.getElem_cons_zero, List.getElem_cons_succ]
        refine wpAnyH_take (i := 17) (v := ?_) rfl (by kernel_rfl) (by kernel_rfl) (by kernel_rfl) (fun _ _ _ h => h) (Or.inl ⟨by kernel_rfl, ?_⟩) (by assumption) ?_
        rotate_left
        · (intro w hSw; (try dsimp only at hSw); (try have hTk := Hid.out HTAKE _ hSw); go_simp)
          try (with_reducible rfl)
        rotate_left
        try simp (maxSteps := 4000000) only [Act.put, List.setIfInBounds_toArray, List.set_cons_zero, List.set_cons_succ, List.getElem_toArray, List.getElem_cons_zero, List.getElem_cons_succ]
        refine wpAnyH_take (i := 18) (v := ?_) rfl (by kernel_rfl) (by kernel_rfl) (by kernel_rfl) (fun _ _ _ h => h) (Or.inl ⟨by kernel_rfl, ?_⟩) (by assumption) ?_
        rotate_left
        · (intro w hSw; (try dsimp only at hSw); (try have hTk := Hid.out HTAKE _ hSw); go_simp)
          try (with_reducible rfl)
        rotate_left
        try simp (maxSteps := 4000000) only [Act.put, List.setIfInBounds_toArray, List.set_cons_zero, List.set_cons_succ, List.getElem_toArray, List.getElem_cons_zero, List.getElem_cons_succ]
        refine wpAnyH_take (i := 19) (v := ?_) rfl (by kernel_rfl) (by kernel_rfl) (by kernel_rfl) (fun _ _ _ h => h) (Or.inl ⟨by kernel_rfl, ?_⟩) (by assumption) ?_
        rotate_left
        · (intro w hSw; (try dsimp only at hSw); (try have hTk := Hid.out HTAKE _ hSw); go_simp)
          try (with_reducible rfl)
        rotate_left
        try simp (maxSteps := 4000000) only [Act.put, List.setIfInBounds_toArray, List.set_cons_zero, List.set_cons_succ, List.getElem_toArray, List.getElem_cons_zero, List.getElem_cons_succ]
        refine wpAnyH_take (i := 20) (v := ?_) rfl (by kernel_rfl) (by kernel_rfl) (by kernel_rfl) (fun _ _ _ h => h) (Or.inl ⟨by kernel_rfl, ?_⟩) (by assumption) ?_
        rotate_left
        · (intro w hSw; (try dsimp only at hSw); (try have hTk := Hid.out HTAKE _ hSw); go_simp)
          try (with_reducible rfl)
        rotate_left
        try simp (maxSteps := 4000000) only [Act.put, List.setIfInBounds_toArray, List.set_cons_zero, List.set_cons_succ, List.getElem_toArray, List.getElem_cons_zero, List.getElem_cons_succ]
        refine wpAnyH_done (by kernel_rfl) ?_ _
        have HNE := Lib.hid (thn HR7.out hn2)
        clear hHeld HTAKE hn2
        go_wp2_with fail
        go_roundw
        case rel => exact ⟨i + 1, by have := HLT.out; omega, by go_num, HNE⟩
        case measure => simp [intOf]; have := HLT.out; omega
      | true =>
        obtain ⟨bb, hbb⟩ : ∃ q, get3 (σ.kv i) 1 = q := ⟨_, rfl⟩
        obtain ⟨ll, hll⟩ : ∃ q, get3 (σ.kv i) 4 = q := ⟨_, rfl⟩
        obtain ⟨cc, hcc⟩ : ∃ q, (bb : Int) + get3 (σ.kv i) 7 - 1048576 = q := ⟨_, rfl⟩
        obtain ⟨pp, hpp⟩ : ∃ q, σ.kv i 10 = q := ⟨_, rfl⟩
        obtain ⟨tt, htt⟩ : ∃ q, σ.kv i 11 = q := ⟨_, rfl⟩
        have HCK : Hid (capK σ i = ⟨bb, ll, cc, pp, tt, true⟩) := Lib.hid (by rw [capK_val hk, hbb, hll, hcc, hpp, htt])
        have HE := Lib.hid (And.intro hbb (And.intro hll (And.intro hcc (And.intro hpp htt))))
        have HK9 := Lib.hid (HG.out.kp i hk).2
        have H9 : Hid (Cap9 ⟨bb, ll, cc, pp, tt, true⟩) := Lib.hid (by
          have := HK9.out.ok.2
          rw [hbb, hll, hcc, hpp, htt] at this
          exact this)
        clear hbb hll hcc hpp htt
        have HKC : Hid (∀ w', Below w5.heap.size w5 w' → w'.cell? ⟨kb, i * 6, none⟩ = some (.int .i64 (bb : Int)) ∧ w'.cell? ⟨kb, i * 6 + 1, none⟩ = some (.int .i64 (ll : Int)) ∧ w'.cell? ⟨kb, i * 6 + 2, none⟩ = some (.int .i64 cc) ∧ w'.cell? ⟨kb, i * 6 + 3, none⟩ = some (.int .i64 (pp : Int)) ∧ w'.cell? ⟨kb, i * 6 + 4, none⟩ = some (.int .i64 (tt : Int)) ∧ w'.cell? ⟨kb, i * 6 + 5, none⟩ = some (.bool true)) := Lib.hid (by
          intro w' hb
          have k := (HSTB.out w' hb).2.1.at_ i HLT.out
          have e : kpA σ 128 i = ⟨bb, ll, cc, pp, tt, true⟩ := by unfold kpA; rw [if_pos HLT.out]; exact HCK.out
          rw [e] at k
          exact k)
        rw [hk, Bool.true_and, HCK.out] at hkd
        clear hk
        cases hr : PM PT ⟨bb, ll, cc, pp, tt, true⟩ with
        | true =>
          rw [hr] at hkd
          have HPM := Lib.hid hr
          replace hkd : (sgD PT σ 86).kp i = false := hkd
          clear hr
          have HNO : Hid ((decide (0 ≤ (i : Int) ∧ (i : Int) < 16384) && (sgD PT σ 86).kp (i : Int).toNat) = false) := Lib.hid (by rw [Int.toNat_natCast, hkd, Bool.and_false])
          clear hkd hlt
          go_wp2_with fail
          refine (mkept_no (i : Int) HMr.out.mem HNO.out).mono ?_
          rintro e w5b ⟨rfl, rfl⟩
          go_wp2_with fail
          refine (cread_nil none 0 0 _ (by decide) (by decide)).mono ?_
          rintro e w6 ⟨rfl, hb6⟩
          have HR6 := Lib.hid (thn HR.out hb6)
          clear hb6
          go_upto_region 50 with (fail)
          have HX7 := Lib.hid (CapAt.new w6 0 0 0 0 0 false 37)
          have HR7' := Lib.hid (alc HR6.out (.cells #[.int .i64 0, .int .i64 0, .int .i64 0, .int .i64 0, .int .i64 0, .bool false] 37))
          clear HR6
          generalize hw7 : w6.alloc (.cells #[.int .i64 0, .int .i64 0, .int .i64 0, .int .i64 0, .int .i64 0, .bool false] 37) = w7 at *
          clear hw7
          generalize w6.heap.size = x31 at *
          have HR7 := HR7'
          clear HR7'
          have HTAKE := Lib.hid (fun (w' : World) (hb : Below w7.heap.size w7 w') => And.intro (HX7.out.below hb).2 (HKC.out w' (thn HR7.out hb)))
          refine wp_region_held_drew (S := fun w' => Below w7.heap.size w7 w') (by kernel_rfl) ?_ (fun hHeld => ?_)
          · exact (Below.refl _ _).drew
          refine wpAnyH_take (i := 0) (v := ?_) rfl (by kernel_rfl) (by kernel_rfl) (by kernel_rfl) (fun _ _ _ h => h) (Or.inl ⟨by kernel_rfl, ?_⟩) (by assumption) ?_
          rotate_left
          · (intro w hSw; (try dsimp only at hSw); (try have hTk := Hid.out HTAKE _ hSw); go_simp)
            try (with_reducible rfl)
          rotate_left
          try simp (maxSteps := 4000000) only [Act.put, List.setIfInBounds_toArray, List.set_cons_zero, List.set_cons_succ, List.getElem_toArray, List.getElem_cons_zero, List.getElem_cons_succ]
          refine wpAnyH_take (i := 1) (v := ?_) rfl (by kernel_rfl) (by kernel_rfl) (by kernel_rfl) (fun _ _ _ h => h) (Or.inl ⟨by kernel_rfl, ?_⟩) (by assumption) ?_
          rotate_left
          · (intro w hSw; (try dsimp only at hSw); (try have hTk := Hid.out HTAKE _ hSw); go_simp)
            try (with_reducible rfl)
          rotate_left
          try simp (maxSteps := 4000000) only [Act.put, List.setIfInBounds_toArray, List.set_cons_zero, List.set_cons_succ, List.getElem_toArray, List.getElem_cons_zero, List.getElem_cons_succ]
          refine wpAnyH_take (i := 2) (v := undef) rfl (by kernel_rfl) (by kernel_rfl) (by kernel_rfl) (fun _ _ _ h => h) (Or.inr ⟨by kernel_rfl, rfl⟩) (by assumption) ?_
          try simp (maxSteps := 4000000) only [Act.put, List.setIfInBounds_toArray, List.set_cons_zero, List.set_cons_succ, List.getElem_toArray, List.getElem_cons_zero, List.getElem_cons_succ]
          refine wpAnyH_take (i := 3) (v := undef) rfl (by kernel_rfl) (by kernel_rfl) (by kernel_rfl) (fun _ _ _ h => h) (Or.inr ⟨by kernel_rfl, rfl⟩) (by assumption) ?_
          try simp (maxSteps := 4000000) only [Act.put, List.setIfInBounds_toArray, List.set_cons_zero, List.set_cons_succ, List.getElem_toArray, List.getElem_cons_zero, List.getElem_cons_succ]
          refine wpAnyH_take (i := 4) (v := undef) rfl (by kernel_rfl) (by kernel_rfl) (by kernel_rfl) (fun _ _ _ h => h) (Or.inr ⟨by kernel_rfl, rfl⟩) (by assumption) ?_
          try simp (maxSteps := 4000000) only [Act.put, List.setIfInBounds_toArray, List.set_cons_zero, List.set_cons_succ, List.getElem_toArray, List.getElem_cons_zero, List.getElem_cons_succ]
          refine wpAnyH_take (i := 5) (v := ?_) rfl (by kernel_rfl) (by kernel_rfl) (by kernel_rfl) (fun _ _ _ h => h) (Or.inl ⟨by kernel_rfl, ?_⟩) (by assumption) ?_
          rotate_left
          · (intro w hSw; (try dsimp only at hSw); (try have hTk := Hid.out HTAKE _ hSw); go_simp)
            try (with_reducible rfl)
          rotate_left
          try simp (maxSteps := 4000000) only [Act.put, List.setIfInBounds_toArray, List.set_cons_zero, List.set_cons_succ, List.getElem_toArray, List.getElem_cons_zero, List.getElem_cons_succ]
          refine wpAnyH_take (i := 6) (v := ?_) rfl (by kernel_rfl) (by kernel_rfl) (by kernel_rfl) (fun _ _ _ h => h) (Or.inl ⟨by kernel_rfl, ?_⟩) (by assumption) ?_
          rotate_left
          · (intro w hSw; (try dsimp only at hSw); (try have hTk := Hid.out HTAKE _ hSw); go_simp)
            try (with_reducible rfl)
          rotate_left
          try simp (maxSteps := 4000000) only [Act.put, List.setIfInBounds_toArray, List.set_cons_zero, List.set_cons_succ, List.getElem_toArray, List.getElem_cons_zero, List.getElem_cons_succ]
          refine wpAnyH_take (i := 7) (v := ?_) rfl (by kernel_rfl) (by kernel_rfl) (by kernel_rfl) (fun _ _ _ h => h) (Or.inl ⟨by kernel_rfl, ?_⟩) (by assumption) ?_
          rotate_left
          · (intro w hSw; (try dsimp only at hSw); (try have hTk := Hid.out HTAKE _ hSw); go_simp)
            try (with_reducible rfl)
          rotate_left
          try simp (maxSteps := 4000000) only [Act.put, List.setIfInBounds_toArray, List.set_cons_zero, List.set_cons_succ, List.getElem_toArray, List.getElem_cons_zero, List.getElem_cons_succ]
          refine wpAnyH_take (i := 8) (v := ?_) rfl (by kernel_rfl) (by kernel_rfl) (by kernel_rfl) (fun _ _ _ h => h) (Or.inl ⟨by kernel_rfl, ?_⟩) (by assumption) ?_
          rotate_left
          · (intro w hSw; (try dsimp only at hSw); (try have hTk := Hid.out HTAKE _ hSw); go_simp)
            try (with_reducible rfl)
          rotate_left
          try simp (maxSteps := 4000000) only [Act.put, List.setIfInBounds_toArray, List.set_cons_zero, List.set_cons_succ, List.getElem_toArray, List.getElem_cons_zero, List.getElem_cons_succ]
          refine wpAnyH_take (i := 9) (v := ?_) rfl (by kernel_rfl) (by kernel_rfl) (by kernel_rfl) (fun _ _ _ h => h) (Or.inl ⟨by kernel_rfl, ?_⟩) (by assumption) ?_
          rotate_left
          · (intro w hSw; (try dsimp only at hSw); (try have hTk := Hid.out HTAKE _ hSw); go_simp)
            try (with_reducible rfl)
          rotate_left
          try simp (maxSteps := 4000000) only [Act.put, List.setIfInBounds_toArray, List.set_cons_zero, List.set_cons_succ, List.getElem_toArray, List.getElem_cons_zero, List.getElem_cons_succ]
          refine wpAnyH_take (i := 10) (v := ?_) rfl (by kernel_rfl) (by kernel_rfl) (by kernel_rfl) (fun _ _ _ h => h) (Or.inl ⟨by kernel_rfl, ?_⟩) (by assumption) ?_
          rotate_left
          · (intro w hSw; (try dsimp only at hSw); (try have hTk := Hid.out HTAKE _ hSw); go_simp)
            try (with_reducible rfl)
          rotate_left
          try simp (maxSteps := 4000000) only [Act.put, List.setIfInBounds_toArray, List.set_cons_zero, List.set_cons_succ, List.getElem_toArray, List.getElem_cons_zero, List.getElem_cons_succ]
          refine wpAnyH_ready (rs := [11]) (by kernel_rfl) (by simp) ?_
          refine AllReadyH.cons rfl (fun K2 hK2 => ?_) AllReadyH.nil
          go_simp
          have hrow := (HSTB.out _ (thn HR7.out hHeld)).1
          have hcall := smeets ⟨bb, ll, cc, pp, tt, true⟩ PT gp _ true (fun _ => H9.out) (fun h => by cases h) hrow HPM.out
          with_reducible refine Calls.mono hcall ?_
          rintro e u2 ⟨rfl, hb⟩
          have hn2 : Below w7.heap.size w7 u2 := thn hHeld hb
          clear hb hrow hcall
          refine hK2.out _ _ (hn2) (fun hHeld2 => ?_)
          clear hK2 K2 hHeld
          have hHeld := hHeld2
          clear hHeld2
          try simp (maxSteps := 4000000) only [Act.put, List.setIfInBounds_toArray, List.set_cons_zero, List.set_cons_succ]
          refine wpAnyH_take (i := 12) (v := ?_) rfl (by kernel_rfl) (by kernel_rfl) (by kernel_rfl) (fun _ _ _ h => h) (Or.inl ⟨by kernel_rfl, ?_⟩) (by assumption) ?_
          rotate_left
          · (intro w hSw; (try dsimp only at hSw); (try have hTk := Hid.out HTAKE _ hSw); go_simp)
            try (with_reducible rfl)
          rotate_left
          try simp (maxSteps := 4000000) only [Act.put, List.setIfInBounds_toArray, List.set_cons_zero, List.set_cons_succ, List.getElem_toArray, List.getElem_cons_zero, List.getElem_cons_succ]
          refine wpAnyH_take (i := 13) (v := ?_) rfl (by kernel_rfl) (by kernel_rfl) (by kernel_rfl) (fun _ _ _ h => h) (Or.inl ⟨by kernel_rfl, ?_⟩) (by assumption) ?_
          rotate_left
          · (intro w hSw; (try dsimp only at hSw); (try have hTk := Hid.out HTAKE _ hSw); go_simp)
            try (with_reducible rfl)
          rotate_left
          try simp (maxSteps := 4000000) only [Act.put, List.setIfInBounds_toArray, List.set_cons_zero, List.set_cons_succ, List.getElem_toArray, List.getElem_cons_zero, List.getElem_cons_succ]
          refine wpAnyH_take (i := 14) (v := undef) rfl (by kernel_rfl) (by kernel_rfl) (by kernel_rfl) (fun _ _ _ h => h) (Or.inr ⟨by kernel_rfl, rfl⟩) (by assumption) ?_
          try simp (maxSteps := 4000000) only [Act.put, List.setIfInBounds_toArray, List.set_cons_zero, List.set_cons_succ, List.getElem_toArray, List.getElem_cons_zero, List.getElem_cons_succ]
          refine wpAnyH_take (i := 15) (v := undef) rfl (by kernel_rfl) (by kernel_rfl) (by kernel_rfl) (fun _ _ _ h => h) (Or.inr ⟨by kernel_rfl, rfl⟩) (by assumption) ?_
          try simp (maxSteps := 4000000) only [Act.put, List.setIfInBounds_toArray, List.set_cons_zero, List.set_cons_succ, List.getElem_toArray, List.getElem_cons_zero, List.getElem_cons_succ]
          refine wpAnyH_take (i := 16) (v := undef) rfl (by kernel_rfl) (by kernel_rfl) (by kernel_rfl) (fun _ _ _ h => h) (Or.inr ⟨by kernel_rfl, rfl⟩) (by assumption) ?_
          try simp (maxSteps := 4000000) only [Act.put, List.setIfInBounds_toArray, List.set_cons_zero, List.set_cons_succ, List.getElem_toArray, List.getElem_cons_zero, List.getElem_cons_succ]
          refine wpAnyH_take (i := 17) (v := undef) rfl (by kernel_rfl) (by kernel_rfl) (by kernel_rfl) (fun _ _ _ h => h) (Or.inr ⟨by kernel_rfl, rfl⟩) (by assumption) ?_
          try simp (maxSteps := 4000000) only [Act.put, List.setIfInBounds_toArray, List.set_cons_zero, List.set_cons_succ, List.getElem_toArray, List.getElem_cons_zero, List.getElem_cons_succ]
          refine wpAnyH_take (i := 18) (v := undef) rfl (by kernel_rfl) (by kernel_rfl) (by kernel_rfl) (fun _ _ _ h => h) (Or.inr ⟨by kernel_rfl, rfl⟩) (by assumption) ?_
          try simp (maxSteps := 4000000) only [Act.put, List.setIfInBounds_toArray, List.set_cons_zero, List.set_cons_succ, List.getElem_toArray, List.getElem_cons_zero, List.getElem_cons_succ]
          refine wpAnyH_take (i := 19) (v := ?_) rfl (by kernel_rfl) (by kernel_rfl) (by kernel_rfl) (fun _ _ _ h => h) (Or.inl ⟨by kernel_rfl, ?_⟩) (by assumption) ?_
          rotate_left
          · (intro w hSw; (try dsimp only at hSw); (try have hTk := Hid.out HTAKE _ hSw); go_simp)
            try (with_reducible rfl)
          rotate_left
          try simp (maxSteps := 4000000) only [Act.put, List.setIfInBounds_toArray, List.set_cons_zero, List.set_cons_succ, List.getElem_toArray, List.getElem_cons_zero, List.getElem_cons_succ]
          refine wpAnyH_take (i := 20) (v := ?_) rfl (by kernel_rfl) (by kernel_rfl) (by kernel_rfl) (fun _ _ _ h => h) (Or.inl ⟨by kernel_rfl, ?_⟩) (by assumption) ?_
          rotate_left
          · (intro w hSw; (try dsimp only at hSw); (try have hTk := Hid.out HTAKE _ hSw); go_simp)
            try (with_reducible rfl)
          rotate_left
          try simp (maxSteps := 4000000) only [Act.put, List.setIfInBounds_toArray, List.set_cons_zero, List.set_cons_succ, List.getElem_toArray, List.getElem_cons_zero, List.getElem_cons_succ]
          refine wpAnyH_done (by kernel_rfl) ?_ _
          have HNE := Lib.hid (thn HR7.out hn2)
          clear hHeld HTAKE hn2
          go_wp2_with fail
          go_roundw
          case rel => exact ⟨i + 1, by have := HLT.out; omega, by go_num, HNE⟩
          case measure => simp [intOf]; have := HLT.out; omega
        | false =>
          rw [hr] at hkd
          have HPM := Lib.hid hr
          replace hkd : (sgD PT σ 86).kp i = true := hkd
          have HKD := Lib.hid hkd
          clear hr hkd hlt
          go_wp2_with fail
          refine (mkept_yes i HMr.out.mem HKD.out).mono ?_
          rintro e w5b ⟨D, capb, rfl, hD, hcapb, hP, hb5b⟩
          have HP5 : Hid (RowU D 16 w5b (σ.kv i)) := Lib.hid hP.row9
          have HR5 := Lib.hid (thn HR.out hb5b)
          have HCP := Lib.hid hcapb
          clear hD hP hb5b hcapb
          go_wp2_with fail
          refine (cread_ok D capb (σ.kv i) w5b HP5.out (HG.out.kv i) HCP.out HK9.out.ok.1 bb ll pp tt cc HE.out.1 HE.out.2.1 HE.out.2.2.1 HE.out.2.2.2.1 HE.out.2.2.2.2).mono ?_
          rintro e w6 ⟨rfl, hb6⟩
          have HR6 := Lib.hid (thn HR5.out hb6)
          clear hb6 HP5 HE HR5
          go_upto_region 50 with (fail)
          have HX7 := Lib.hid (CapAt.new w6 bb ll cc pp tt true 37)
          have HR7' := Lib.hid (alc HR6.out (.cells #[.int .i64 (bb : Int), .int .i64 (ll : Int), .int .i64 cc, .int .i64 (pp : Int), .int .i64 (tt : Int), .bool true] 37))
          clear HR6
          generalize hw7 : w6.alloc (.cells #[.int .i64 (bb : Int), .int .i64 (ll : Int), .int .i64 cc, .int .i64 (pp : Int), .int .i64 (tt : Int), .bool true] 37) = w7 at *
          clear hw7
          generalize w6.heap.size = x31 at *
          have HR7 := HR7'
          clear HR7'
          have HTAKE := Lib.hid (fun (w' : World) (hb : Below w7.heap.size w7 w') => And.intro (HX7.out.below hb).2 (HKC.out w' (thn HR7.out hb)))
          refine wp_region_held_drew (S := fun w' => Below w7.heap.size w7 w') (by kernel_rfl) ?_ (fun hHeld => ?_)
          · exact (Below.refl _ _).drew
          refine wpAnyH_take (i := 0) (v := ?_) rfl (by kernel_rfl) (by kernel_rfl) (by kernel_rfl) (fun _ _ _ h => h) (Or.inl ⟨by kernel_rfl, ?_⟩) (by assumption) ?_
          rotate_left
          · (intro w hSw; (try dsimp only at hSw); (try have hTk := Hid.out HTAKE _ hSw); go_simp)
            try (with_reducible rfl)
          rotate_left
          try simp (maxSteps := 4000000) only [Act.put, List.setIfInBounds_toArray, List.set_cons_zero, List.set_cons_succ, List.getElem_toArray, List.getElem_cons_zero, List.getElem_cons_succ]
          refine wpAnyH_take (i := 1) (v := ?_) rfl (by kernel_rfl) (by kernel_rfl) (by kernel_rfl) (fun _ _ _ h => h) (Or.inl ⟨by kernel_rfl, ?_⟩) (by assumption) ?_
          rotate_left
          · (intro w hSw; (try dsimp only at hSw); (try have hTk := Hid.out HTAKE _ hSw); go_simp)
            try (with_reducible rfl)
          rotate_left
          try simp (maxSteps := 4000000) only [Act.put, List.setIfInBounds_toArray, List.set_cons_zero, List.set_cons_succ, List.getElem_toArray, List.getElem_cons_zero, List.getElem_cons_succ]
          refine wpAnyH_take (i := 2) (v := ?_) rfl (by kernel_rfl) (by kernel_rfl) (by kernel_rfl) (fun _ _ _ h => h) (Or.inl ⟨by kernel_rfl, ?_⟩) (by assumption) ?_
          rotate_left
          · (intro w hSw; (try dsimp only at hSw); (try have hTk := Hid.out HTAKE _ hSw); go_simp)
            try (with_reducible rfl)
          rotate_left
          try simp (maxSteps := 4000000) only [Act.put, List.setIfInBounds_toArray, List.set_cons_zero, List.set_cons_succ, List.getElem_toArray, List.getElem_cons_zero, List.getElem_cons_succ]
          refine wpAnyH_take (i := 3) (v := ?_) rfl (by kernel_rfl) (by kernel_rfl) (by kernel_rfl) (fun _ _ _ h => h) (Or.inl ⟨by kernel_rfl, ?_⟩) (by assumption) ?_
          rotate_left
          · (intro w hSw; (try dsimp only at hSw); (try have hTk := Hid.out HTAKE _ hSw); go_simp)
            try (with_reducible rfl)
          rotate_left
          try simp (maxSteps := 4000000) only [Act.put, List.setIfInBounds_toArray, List.set_cons_zero, List.set_cons_succ, List.getElem_toArray, List.getElem_cons_zero, List.getElem_cons_succ]
          refine wpAnyH_ready (rs := [4]) (by kernel_rfl) (by simp) ?_
          refine AllReadyH.cons rfl (fun K2 hK2 => ?_) AllReadyH.nil
          go_simp
          have hrow := (HSTB.out _ (thn HR7.out hHeld)).1
          have hcall := smeets ⟨bb, ll, cc, pp, tt, true⟩ PT gp _ false (fun _ => H9.out) (fun h => by cases h) hrow HPM.out
          with_reducible refine Calls.mono hcall ?_
          rintro e u2 ⟨rfl, hb⟩
          have hn2 : Below w7.heap.size w7 u2 := thn hHeld hb
          clear hb hrow hcall
          refine hK2.out _ _ (hn2) (fun hHeld2 => ?_)
          clear hK2 K2 hHeld
          have hHeld := hHeld2
          clear hHeld2
          try simp (maxSteps := 4000000) only [Act.put, List.setIfInBounds_toArray, List.set_cons_zero, List.set_cons_succ]
          refine wpAnyH_take (i := 5) (v := ?_) rfl (by kernel_rfl) (by kernel_rfl) (by kernel_rfl) (fun _ _ _ h => h) (Or.inl ⟨by kernel_rfl, ?_⟩) (by assumption) ?_
          rotate_left
          · (intro w hSw; (try dsimp only at hSw); (try have hTk := Hid.out HTAKE _ hSw); go_simp)
            try (with_reducible rfl)
          rotate_left
          try simp (maxSteps := 4000000) only [Act.put, List.setIfInBounds_toArray, List.set_cons_zero, List.set_cons_succ, List.getElem_toArray, List.getElem_cons_zero, List.getElem_cons_succ]
          refine wpAnyH_take (i := 6) (v := ?_) rfl (by kernel_rfl) (by kernel_rfl) (by kernel_rfl) (fun _ _ _ h => h) (Or.inl ⟨by kernel_rfl, ?_⟩) (by assumption) ?_
          rotate_left
          · (intro w hSw; (try dsimp only at hSw); (try have hTk := Hid.out HTAKE _ hSw); go_simp)
            try (with_reducible rfl)
          rotate_left
          try simp (maxSteps := 4000000) only [Act.put, List.setIfInBounds_toArray, List.set_cons_zero, List.set_cons_succ, List.getElem_toArray, List.getElem_cons_zero, List.getElem_cons_succ]
          refine wpAnyH_take (i := 7) (v := ?_) rfl (by kernel_rfl) (by kernel_rfl) (by kernel_rfl) (fun _ _ _ h => h) (Or.inl ⟨by kernel_rfl, ?_⟩) (by assumption) ?_
          rotate_left
          · (intro w hSw; (try dsimp only at hSw); (try have hTk := Hid.out HTAKE _ hSw); go_simp)
            try (with_reducible rfl)
          rotate_left
          try simp (maxSteps := 4000000) only [Act.put, List.setIfInBounds_toArray, List.set_cons_zero, List.set_cons_succ, List.getElem_toArray, List.getElem_cons_zero, List.getElem_cons_succ]
          refine wpAnyH_take (i := 8) (v := ?_) rfl (by kernel_rfl) (by kernel_rfl) (by kernel_rfl) (fun _ _ _ h => h) (Or.inl ⟨by kernel_rfl, ?_⟩) (by assumption) ?_
          rotate_left
          · (intro w hSw; (try dsimp only at hSw); (try have hTk := Hid.out HTAKE _ hSw); go_simp)
            try (with_reducible rfl)
          rotate_left
          try simp (maxSteps := 4000000) only [Act.put, List.setIfInBounds_toArray, List.set_cons_zero, List.set_cons_succ, List.getElem_toArray, List.getElem_cons_zero, List.getElem_cons_succ]
          refine wpAnyH_take (i := 9) (v := ?_) rfl (by kernel_rfl) (by kernel_rfl) (by kernel_rfl) (fun _ _ _ h => h) (Or.inl ⟨by kernel_rfl, ?_⟩) (by assumption) ?_
          rotate_left
          · (intro w hSw; (try dsimp only at hSw); (try have hTk := Hid.out HTAKE _ hSw); go_simp)
            try (with_reducible rfl)
          rotate_left
          try simp (maxSteps := 4000000) only [Act.put, List.setIfInBounds_toArray, List.set_cons_zero, List.set_cons_succ, List.getElem_toArray, List.getElem_cons_zero, List.getElem_cons_succ]
          refine wpAnyH_take (i := 10) (v := ?_) rfl (by kernel_rfl) (by kernel_rfl) (by kernel_rfl) (fun _ _ _ h => h) (Or.inl ⟨by kernel_rfl, ?_⟩) (by assumption) ?_
          rotate_left
          · (intro w hSw; (try dsimp only at hSw); (try have hTk := Hid.out HTAKE _ hSw); go_simp)
            try (with_reducible rfl)
          rotate_left
          try simp (maxSteps := 4000000) only [Act.put, List.setIfInBounds_toArray, List.set_cons_zero, List.set_cons_succ, List.getElem_toArray, List.getElem_cons_zero, List.getElem_cons_succ]
          refine wpAnyH_ready (rs := [11]) (by kernel_rfl) (by simp) ?_
          refine AllReadyH.cons rfl (fun K2 hK2 => ?_) AllReadyH.nil
          go_simp
          have hrow := (HSTB.out _ (thn HR7.out hHeld)).1
          have hcall := smeets ⟨bb, ll, cc, pp, tt, true⟩ PT gp _ false (fun _ => H9.out) (fun h => by cases h) hrow HPM.out
          with_reducible refine Calls.mono hcall ?_
          rintro e u3 ⟨rfl, hb⟩
          have hn3 : Below w7.heap.size w7 u3 := thn hHeld hb
          clear hb hrow hcall
          refine hK2.out _ _ (hn3) (fun hHeld2 => ?_)
          clear hK2 K2 hHeld
          have hHeld := hHeld2
          clear hHeld2
          try simp (maxSteps := 4000000) only [Act.put, List.setIfInBounds_toArray, List.set_cons_zero, List.set_cons_succ]
          refine wpAnyH_take (i := 12) (v := ?_) rfl (by kernel_rfl) (by kernel_rfl) (by kernel_rfl) (fun _ _ _ h => h) (Or.inl ⟨by kernel_rfl, ?_⟩) (by assumption) ?_
          rotate_left
          · (intro w hSw; (try dsimp only at hSw); (try have hTk := Hid.out HTAKE _ hSw); go_simp)
            try (with_reducible rfl)
          rotate_left
          try simp (maxSteps := 4000000) only [Act.put, List.setIfInBounds_toArray, List.set_cons_zero, List.set_cons_succ, List.getElem_toArray, List.getElem_cons_zero, List.getElem_cons_succ]
          refine wpAnyH_take (i := 13) (v := ?_) rfl (by kernel_rfl) (by kernel_rfl) (by kernel_rfl) (fun _ _ _ h => h) (Or.inl ⟨by kernel_rfl, ?_⟩) (by assumption) ?_
          rotate_left
          · (intro w hSw; (try dsimp only at hSw); (try have hTk := Hid.out HTAKE _ hSw); go_simp)
            try (with_reducible rfl)
          rotate_left
          try simp (maxSteps := 4000000) only [Act.put, List.setIfInBounds_toArray, List.set_cons_zero, List.set_cons_succ, List.getElem_toArray, List.getElem_cons_zero, List.getElem_cons_succ]
          refine wpAnyH_take (i := 14) (v := ?_) rfl (by kernel_rfl) (by kernel_rfl) (by kernel_rfl) (fun _ _ _ h => h) (Or.inl ⟨by kernel_rfl, ?_⟩) (by assumption) ?_
          rotate_left
          · (intro w hSw; (try dsimp only at hSw); (try have hTk := Hid.out HTAKE _ hSw); go_simp)
            try (with_reducible rfl)
          rotate_left
          try simp (maxSteps := 4000000) only [Act.put, List.setIfInBounds_toArray, List.set_cons_zero, List.set_cons_succ, List.getElem_toArray, List.getElem_cons_zero, List.getElem_cons_succ]
          refine wpAnyH_take (i := 15) (v := ?_) rfl (by kernel_rfl) (by kernel_rfl) (by kernel_rfl) (fun _ _ _ h => h) (Or.inl ⟨by kernel_rfl, ?_⟩) (by assumption) ?_
          rotate_left
          · (intro w hSw; (try dsimp only at hSw); (try have hTk := Hid.out HTAKE _ hSw); go_simp)
            try (with_reducible rfl)
          rotate_left
          try simp (maxSteps := 4000000) only [Act.put, List.setIfInBounds_toArray, List.set_cons_zero, List.set_cons_succ, List.getElem_toArray, List.getElem_cons_zero, List.getElem_cons_succ]
          refine wpAnyH_take (i := 16) (v := ?_) rfl (by kernel_rfl) (by kernel_rfl) (by kernel_rfl) (fun _ _ _ h => h) (Or.inl ⟨by kernel_rfl, ?_⟩) (by assumption) ?_
          rotate_left
          · (intro w hSw; (try dsimp only at hSw); (try have hTk := Hid.out HTAKE _ hSw); go_simp)
            try (with_reducible rfl)
          rotate_left
          try simp (maxSteps := 4000000) only [Act.put, List.setIfInBounds_toArray, List.set_cons_zero, List.set_cons_succ, List.getElem_toArray, List.getElem_cons_zero, List.getElem_cons_succ]
          refine wpAnyH_take (i := 17) (v := ?_) rfl (by kernel_rfl) (by kernel_rfl) (by kernel_rfl) (fun _ _ _ h => h) (Or.inl ⟨by kernel_rfl, ?_⟩) (by assumption) ?_
          rotate_left
          · (intro w hSw; (try dsimp only at hSw); (try have hTk := Hid.out HTAKE _ hSw); go_simp)
            try (with_reducible rfl)
          rotate_left
          try simp (maxSteps := 4000000) only [Act.put, List.setIfInBounds_toArray, List.set_cons_zero, List.set_cons_succ, List.getElem_toArray, List.getElem_cons_zero, List.getElem_cons_succ]
          refine wpAnyH_take (i := 18) (v := ?_) rfl (by kernel_rfl) (by kernel_rfl) (by kernel_rfl) (fun _ _ _ h => h) (Or.inl ⟨by kernel_rfl, ?_⟩) (by assumption) ?_
          rotate_left
          · (intro w hSw; (try dsimp only at hSw); (try have hTk := Hid.out HTAKE _ hSw); go_simp)
            try (with_reducible rfl)
          rotate_left
          try simp (maxSteps := 4000000) only [Act.put, List.setIfInBounds_toArray, List.set_cons_zero, List.set_cons_succ, List.getElem_toArray, List.getElem_cons_zero, List.getElem_cons_succ]
          refine wpAnyH_take (i := 19) (v := ?_) rfl (by kernel_rfl) (by kernel_rfl) (by kernel_rfl) (fun _ _ _ h => h) (Or.inl ⟨by kernel_rfl, ?_⟩) (by assumption) ?_
          rotate_left
          · (intro w hSw; (try dsimp only at hSw); (try have hTk := Hid.out HTAKE _ hSw); go_simp)
            try (with_reducible rfl)
          rotate_left
          try simp (maxSteps := 4000000) only [Act.put, List.setIfInBounds_toArray, List.set_cons_zero, List.set_cons_succ, List.getElem_toArray, List.getElem_cons_zero, List.getElem_cons_succ]
          refine wpAnyH_take (i := 20) (v := ?_) rfl (by kernel_rfl) (by kernel_rfl) (by kernel_rfl) (fun _ _ _ h => h) (Or.inl ⟨by kernel_rfl, ?_⟩) (by assumption) ?_
          rotate_left
          · (intro w hSw; (try dsimp only at hSw); (try have hTk := Hid.out HTAKE _ hSw); go_simp)
            try (with_reducible rfl)
          rotate_left
          try simp (maxSteps := 4000000) only [Act.put, List.setIfInBounds_toArray, List.set_cons_zero, List.set_cons_succ, List.getElem_toArray, List.getElem_cons_zero, List.getElem_cons_succ]
          refine wpAnyH_done (by kernel_rfl) ?_ _
          clear hn2
          have HNE := Lib.hid (thn HR7.out hn3)
          clear hHeld HTAKE hn3
          go_wp2_with fail
          go_roundw
          case rel => exact ⟨i + 1, by have := HLT.out; omega, by go_num, HNE⟩
          case measure => simp [intOf]; have := HLT.out; omega
    · obtain rfl : i = 128 := by omega
      have hltI : ¬ ((128 : Nat) : Int) < 128 := by omega
      clear hi hlt
      rename World => wz4
      have HIz := Lib.hid (HI5.out.later HR.out)
      clear HR
      go_wp2_with fail
      refine (sstep s 6 (some ⟨pb, po, none⟩) 5 cp' M R P 86 86 0 n' 9 _ (IW B M R g s lo P pg pb po cp' c ws PT σ f v0 w2 col) (fun d n w h => h.sw) (by decide) (fun d n w w' h hb => h.later hb) (fun d n w h hd => IW.one HW0.out h hd) HIz.out (Nat.le_refl _) (by decide) (by decide)).mono ?_
      rintro e w7 ⟨rfl, n3, h7⟩
      have HF := Lib.hid (IW.bel h7)
      clear h7 HIz
      go_wp2_with fail
      go_ret
      exact ⟨rfl, HB0.out.trans (HF.out.mono HB0.out.size)⟩
end Go.Proofs.YtljjcomedjdpaaaDoor
namespace Go.Proofs.YtljjcomedjdpaaaDoor
set_option maxRecDepth 100000
open Go.RowKit Go.ChangeMaps Go.MapKept
set_option linter.unusedVariables false
theorem sclears_t (A : Option Addr) (l : List CQ) (cp : Nat) (A2 : Option Addr) (l2 : List SQ) (cp2 : Nat) (x : Int) (W : World) (hl : l.length ≤ 9223372036854775807) (hA : CQS W A l) (hl2 : l2.length ≤ 9223372036854775807) (hA2 : SQS W A2 l2) (ht : TzTab W) : Calls Tryd.prog 3 #[.slice A l.length cp, .slice A2 l2.length cp2, .int .i64 x] W fun e w' => e = .returned (.bool true) ∧ Below W.heap.size W w' :=
  sgStep.2 (sgxStep.2 (sgyStep.2 (sgzStep.2 sgt_t))) A l cp A2 l2 cp2 x W hl hA hl2 hA2 ht
end Go.Proofs.YtljjcomedjdpaaaDoor
namespace Go.Proofs.YtljjcomedjdpaaaDoor.lawSweepClears
set_option maxRecDepth 100000
open Go.ChangeShapes Go.WideShapes Go.ChangeAt Go.RowKit Go.Joins Go.Deep
open Go.ChangeMaps (open_string shut_string)
set_option linter.unusedVariables false

theorem tzTab_of_laid {w : World} (h : laidMetH Tryd.prog Rows.sweepClearsRow.laid w) : TzTab w := by
  rw [MakeChecks.laidMetH_plain _ _ _ (by kernel_rfl)] at h
  obtain ⟨ps, ⟨g0, t0, cs0, f0, p0, q0, hg0, ht0, hv0, hd0, _⟩, _⟩ := h
  have e : ((Tryd.prog.globalNamed "math/bits.deBruijn64tab").bind fun g => (Tryd.prog.globals[g]?).map (·.type)) = some 132 := by kernel_rfl
  rw [hg0] at e
  obtain rfl := Option.some.inj (ht0.symm.trans e)
  have hd : Rows.laid_math_bits_deBruijn64tab (H := Unit) = Lib.tabData .u8 (Lib.deBruijn64tab.map fun n : Nat => (n : Int)) := by kernel_rfl
  rw [hd] at hd0
  unfold TzTab Lib.TabIs
  rw [hv0, ← Lib.cells_of_tab (k := .u8) (n := 64) (e := 5) (by kernel_rfl) (by kernel_rfl) (by kernel_rfl) (by kernel_rfl) hd0]

theorem own : ownKnob Tryd.prog.godebug = none := by kernel_rfl
theorem laidOut : laidOutB Tryd.prog = true := by kernel_rfl

theorem door_met (os : Os) (args : Array Value) : laidMetH Tryd.prog Rows.sweepClearsRow.laid ((World.doorLaid Tryd.prog 400 os).forCall (fun _ _ => 0) ⟨#[], args, []⟩).memory :=
  laidMetH_of_parts3 (fuel := 8) (laidMet_of_run' 8 (by kernel_rfl) (by kernel_rfl)) (by kernel_rfl) (by kernel_rfl)

set_option maxRecDepth 100000 in
theorem lifted (os : Os) (started : os.Started) (H : Type) (enc : TypeId × Value → H) :
    ReturnsInHanded {} Tryd.checked os 3 .any (fun w args => (Rows.sweepClearsSpec.pre enc Tryd.prog Tryd.f3 [] false w args ∧ laidMetH Tryd.prog Rows.sweepClearsRow.laid w) ∧ sizedMet enc Tryd.prog Tryd.f3 (OpenSpec.ofChange Rows.sweepClearsSpec) false w args)
      (Rows.sweepClearsSpec.post enc Tryd.prog Tryd.f3 false true false false) := by
  refine returnsInHanded_of_change_and (C := Tryd.checked) (X := fun w _ => laidMetH Tryd.prog Rows.sweepClearsRow.laid w) (fun _ _ _ hh h => h.of_heap hh) own started (by kernel_rfl) Tryd.func3
    (ChangeSpec.witness_shaped (enc := enc) (C := Tryd.checked) (os := os) (X := fun w _ => laidMetH Tryd.prog Rows.sweepClearsRow.laid w) false (World.doorLaid Tryd.prog 400 os) #[.slice none 0 0, .slice none 0 0, .int .i64 0] 8 rfl (World.shaped_of_RefB (by kernel_rfl) (by kernel_rfl)) (by kernel_rfl) (by kernel_rfl) (by kernel_rfl) (door_met os _)) ?_
  intro W base args ds gs before hval0 hW _ _ hL _
  have hval : ∀ (j : Nat) t v, Tryd.f3.params[j]? = some t → args[j]? = some v → Value.okWide Tryd.prog W .any base t v := hval0
  have hW' := hW
  obtain ⟨p, q, hA0, hV, rfl, hfz, hnd⟩ := hW
  have hA : DataW.TrodAll enc Tryd.prog W 0 (fun _ => true) true Tryd.f3.params.toList args.toList ds p := hA0
  rw [Tryd.params3] at hA hval
  obtain ⟨v0, vs0, d0, ds0, p0, q0, hargs, rfl, rfl, h0, r0⟩ := trodAll_cons hA
  obtain ⟨v1, vs1, d1, ds1, p1, q1, rfl, rfl, rfl, h1, r1⟩ := trodAll_cons r0
  obtain ⟨v2, vs2, d2, ds2, p2, q2, rfl, rfl, rfl, h2, r2⟩ := trodAll_cons r1
  obtain ⟨rfl, rfl, rfl⟩ := trodAll_nil r2
  obtain rfl : args = #[v0, v1, v2] := by cases args; simp_all
  obtain ⟨rfl, rfl⟩ := trodVars_none hV
  obtain ⟨a0, len0, cap0, rfl⟩ := okWide_slice Tryd.underlying22 (hval 0 22 v0 rfl rfl)
  have k0 := h0
  have lt0 : ∀ x ∈ p0, x.block < W.heap.size := by obtain ⟨m, hm⟩ := k0; exact DataW.trod_lt m _ _ _ hm
  obtain ⟨A0, l0, cc0, hv0, ll0, hp0⟩ : ∃ (A : Option Addr) (l : List CQ) (c : Nat), Value.slice a0 len0 cap0 = .slice A l.length c ∧ l.length ≤ 9223372036854775807 ∧ CQS W A l := by
    obtain ⟨fuel, hf⟩ := h0
    exact CQs_of (by simpa [Value.cells] using hf)
  rw [hv0]
  rw [hv0] at hW' k0
  obtain ⟨a1, len1, cap1, rfl⟩ := okWide_slice Tryd.underlying23 (hval 1 23 v1 rfl rfl)
  have k1 := h1
  have lt1 : ∀ x ∈ p1, x.block < W.heap.size := by obtain ⟨m, hm⟩ := k1; exact DataW.trod_lt m _ _ _ hm
  obtain ⟨A1, l1, cc1, hv1, ll1, hp1⟩ : ∃ (A : Option Addr) (l : List SQ) (c : Nat), Value.slice a1 len1 cap1 = .slice A l.length c ∧ l.length ≤ 9223372036854775807 ∧ SQS W A l := by
    obtain ⟨fuel, hf⟩ := h1
    exact SQs_of (by simpa [Value.cells] using hf)
  rw [hv1]
  rw [hv1] at hW' k1
  obtain ⟨a2, rfl, rfl, rfl, w2⟩ := open_int Tryd.underlying3 (hval 2 3 v2 rfl rfl) h2
  clear hA0 hval0
  refine (sclears_t A0 l0 cc0 A1 l1 cc1 a2 W ll0 hp0 ll1 hp1 (tzTab_of_laid hL)).mono fun e W' ⟨he, bel⟩ => ?_
  subst he
  exact ⟨_, rfl, _, _, _, [], _, [], hW', trodAll_mk1 (shut_bool Tryd.underlying4 _), (trodAll_cons_mk (Below.trod laidOut (by kernel_rfl) (of_decide_eq_true (by kernel_rfl)) k0 bel lt0) (trodAll_cons_mk (Below.trod laidOut (by kernel_rfl) (of_decide_eq_true (by kernel_rfl)) k1 bel lt1) (trodAll_cons_mk (shut_int Tryd.underlying3 w2) trodAll_mk0))), rfl, bel.frame _, fun h => by cases h⟩

theorem over : Rows.sweepClearsRow.holds Tryd.pinned (OpenSpec.ofChange Rows.sweepClearsSpec) :=
  OpenClaim.holds_of_wide 3 Tryd.f3 rfl rfl rfl rfl rfl rfl rfl ⟨rfl, rfl, rfl, rfl, rfl⟩ rfl rfl rfl rfl rfl (by kernel_rfl) Tryd.func3 (by kernel_rfl)
    (of_decide_eq_true (by kernel_rfl)) (by unfold Func.isWrapper; first | (rw [if_pos (by decide +kernel)]; kernel_rfl) | (rw [if_neg (by decide +kernel)]; exact ⟨rfl, rfl⟩))
    (fun os started H enc _ => lifted os started H enc)

theorem proved : Rows.SweepClearsCardSaid :=
  Claim7.holds_tied_plain_at .later [] [.data] true _ false
    over (fun _ h => by cases h) (by kernel_rfl) (fun _ h => by cases h) sweepClears_row_tie rfl ⟨rfl, rfl⟩ (by kernel_rfl) rfl
    (fun f fn hf hfn => by
      obtain rfl : f = 3 := Option.some.inj ((show Tryd.prog.funcNamed "cubbyhole/cubbyholelaw36.SweepClears" = some 3 by kernel_rfl).symm.trans hf) |>.symm
      obtain rfl : fn = Tryd.f3 := (Option.some.inj (Tryd.func3.symm.trans hfn)).symm
      exact ⟨by kernel_rfl, fun j t ht => by
        rw [Tryd.params3] at ht
        have hm : t ∈ [22, 23, 3] := by have := Array.mem_of_getElem? ht; simp at this ⊢; first | omega | grind
        have hall : ([22, 23, 3].all fun u => !Tryd.prog.wantsStandIn u) = true := by kernel_rfl
        exact (show Tryd.prog.wantsStandIn t = false by simpa using List.all_eq_true.1 hall t hm)⟩)
    (by kernel_rfl)
end Go.Proofs.YtljjcomedjdpaaaDoor.lawSweepClears
