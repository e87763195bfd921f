/- The walk of CodeAny. -/
import Derived.Test.YtcknbbffeeldpaaCodeB
import Derived.Deep.RegionHeld3
import Derived.Test.YtcknbbffeeldpaaInts0
import Derived.Laws.AppendOwnNone
namespace Go.Proofs.Ytcknbbffeeldpaa
open Go.RowKit
set_option linter.unusedVariables false
set_option linter.unusedSimpArgs false

theorem code_round {f : Nat → Nat} (hok : codeOk f = true) (hf : ∀ i, f i < 256) : ∀ i, i < 16 → codeF (get3 f 1) (get3 f 4) (get3 f 7) (f 10) (f 11) i = f i := by
  unfold codeOk at hok
  simp only [Bool.and_eq_true, decide_eq_true_eq] at hok
  obtain ⟨⟨h0, h12, h13, h14, h15⟩, _⟩ := hok
  have b := fun i => hf i
  intro i hi
  have hh : i = 0 ∨ i = 1 ∨ i = 2 ∨ i = 3 ∨ i = 4 ∨ i = 5 ∨ i = 6 ∨ i = 7 ∨ i = 8 ∨ i = 9 ∨ i = 10 ∨ i = 11 ∨ i = 12 ∨ i = 13 ∨ i = 14 ∨ i = 15 := by omega
  have p1 := b 1; have p2 := b 2; have p3 := b 3; have p4 := b 4; have p5 := b 5; have p6 := b 6; have p7 := b 7; have p8 := b 8; have p9 := b 9
  rcases hh with rfl | rfl | rfl | rfl | rfl | rfl | rfl | rfl | rfl | rfl | rfl | rfl | rfl | rfl | rfl | rfl
  · exact h0.symm
  · rw [codeF_B _ _ _ _ _ _ (by omega)]; unfold get3; simp only [Nat.reduceSub, Nat.reduceAdd, Nat.pow_zero, Nat.div_one]; omega
  · rw [codeF_B _ _ _ _ _ _ (by omega)]; unfold get3; simp only [Nat.reduceSub, Nat.reduceAdd, Nat.pow_one]; omega
  · rw [codeF_B _ _ _ _ _ _ (by omega)]; unfold get3; simp only [Nat.reduceSub, Nat.reduceAdd, show (256 : Nat) ^ 2 = 65536 from rfl]; omega
  · rw [codeF_L _ _ _ _ _ _ (by omega)]; unfold get3; simp only [Nat.reduceSub, Nat.reduceAdd, Nat.pow_zero, Nat.div_one]; omega
  · rw [codeF_L _ _ _ _ _ _ (by omega)]; unfold get3; simp only [Nat.reduceSub, Nat.reduceAdd, Nat.pow_one]; omega
  · rw [codeF_L _ _ _ _ _ _ (by omega)]; unfold get3; simp only [Nat.reduceSub, Nat.reduceAdd, show (256 : Nat) ^ 2 = 65536 from rfl]; omega
  · rw [codeF_D _ _ _ _ _ _ (by omega)]; unfold get3; simp only [Nat.reduceSub, Nat.reduceAdd, Nat.pow_zero, Nat.div_one]; omega
  · rw [codeF_D _ _ _ _ _ _ (by omega)]; unfold get3; simp only [Nat.reduceSub, Nat.reduceAdd, Nat.pow_one]; omega
  · rw [codeF_D _ _ _ _ _ _ (by omega)]; unfold get3; simp only [Nat.reduceSub, Nat.reduceAdd, show (256 : Nat) ^ 2 = 65536 from rfl]; omega
  · rfl
  · rfl
  · rw [codeF_hi _ _ _ _ _ _ (by omega)]; exact h12.symm
  · rw [codeF_hi _ _ _ _ _ _ (by omega)]; exact h13.symm
  · rw [codeF_hi _ _ _ _ _ _ (by omega)]; exact h14.symm
  · rw [codeF_hi _ _ _ _ _ _ (by omega)]; exact h15.symm
set_option maxHeartbeats 2000000 in
theorem cread_any (A : Option Addr) (len cap : Nat) (w : World) (hl : len ≠ 16) (hl2 : len ≤ 1000) :
    Calls Try.prog 18 #[.slice A len cap] w fun e w' => e = .returned (.tuple #[.agg #[.int .i64 0, .int .i64 0, .int .i64 0, .int .i64 0, .int .i64 0, .bool false], .bool false]) ∧ Below w.heap.size w w' := by
  have h1 : ((len : Int) == 16) = false := by simp; omega
  go_enter Try.func18, Try.ntmps18
  go_wp2
  refine bodyPost_ret (v := .tuple #[.agg #[.int .i64 0, .int .i64 0, .int .i64 0, .int .i64 0, .int .i64 0, .bool false], .bool false]) (by simp [results, Try.results18, go_sem]) rfl ⟨rfl, ?_⟩
  exact alc0 _ _
/-- Any capability's granule: sixteen bytes. -/
theorem cbytes_any (b l c p t : Int) (v : Bool) (w : World) :
    Calls Try.prog 17 #[.agg #[.int .i64 b, .int .i64 l, .int .i64 c, .int .i64 p, .int .i64 t, .bool v]] w fun e w' => ∃ f, (∀ i, f i < 256) ∧ BytesPost f w e w' := by
  cases hv : (v && capOkB b l c p t)
  · exact (cbytes_no b l c p t v w hv).mono fun e w' h => ⟨_, fun _ => by omega, h⟩
  · obtain ⟨hv1, hv2⟩ := Bool.and_eq_true_iff.1 hv
    obtain rfl := hv1
    obtain ⟨B, L, D, P, T, rfl, rfl, hD, rfl, rfl, hB, hL, hDl, hP, hT⟩ := capOk_nat hv2
    exact (cbytes_yes B L D P T c w hv2 hD).mono fun e w' h => ⟨_, codeF_lt _ _ _ _ _ hP hT, h⟩
/-- Some bytes: if there are sixteen, a row of them. -/
def SomeB (A : Option Addr) (K cap : Nat) (W : World) : Prop := K ≤ 17 ∧ (K = 16 → ∃ g f, A = some ⟨g, 0, none⟩ ∧ 16 ≤ cap ∧ RowU g 16 W f ∧ ∀ i, f i < 256)
theorem SomeB.below {A : Option Addr} {K cap : Nat} {W W' : World} (h : SomeB A K cap W) (hb : Below W.heap.size W W') : SomeB A K cap W' :=
  ⟨h.1, fun e => by obtain ⟨g, f, h1, h2, h3, h4⟩ := h.2 e; exact ⟨g, f, h1, h2, h3.below hb, h4⟩⟩
theorem some_of_own {w : World} {B E m : Nat} {v : Value} {zs : List Int} (h : w.ownsRow B E 1 v m (zs.map (Value.int .u8))) (hm : m ≤ 17) (hz : ∀ x ∈ zs, 0 ≤ x ∧ x < 256) : ∃ A cap, v = .slice A m cap ∧ SomeB A m cap w := by
  have hl : zs.length = m := by simpa using h.1
  rcases h.2 with ⟨rfl, rfl⟩ | ⟨g, cap, cur, rfl, hg, hh, hc, hmx, hcur, _⟩
  · exact ⟨none, 0, rfl, hm, fun e => by omega⟩
  · refine ⟨_, cap, rfl, hm, fun e => ⟨g, fun i => (zs.getD i 0).toNat, rfl, by omega, ⟨(h.lt g rfl).2, fun i hi => ⟨?_, h.frozenAt i⟩⟩, fun i => ?_⟩⟩
    · rw [h.cellAt i (by omega)]
      have hi2 : i < zs.length := by omega
      have := (hz zs[i] (List.getElem_mem hi2)).1
      simp [hi2, Int.toNat_of_nonneg this]
    · by_cases hi2 : i < zs.length
      · have := hz zs[i] (List.getElem_mem hi2)
        simp [List.getD, hi2]; omega
      · simp [List.getD, List.getElem?_eq_none (Nat.le_of_not_lt hi2)]
theorem bits_u8 (a b : Int) : ∃ v : Nat, v < 256 ∧ bits .xor .u8 a b = (v : Int) := by
  have h : bits .xor .u8 a b = IntKind.u8.wrap (((BitVec.ofInt 8 a ^^^ BitVec.ofInt 8 b).toNat : Nat) : Int) := rfl
  rw [h, IntKind.wrap_u8]
  exact ⟨(BitVec.ofInt 8 a ^^^ BitVec.ofInt 8 b).toNat % 256, by omega, by omega⟩
theorem addc (g j : Nat) : (⟨g, 0, none⟩ : Addr).add j = ⟨g, j, none⟩ := by unfold Addr.add; split <;> simp_all
theorem addo (g o j : Nat) : (⟨g, o, none⟩ : Addr).add j = ⟨g, o + j, none⟩ := by unfold Addr.add; split <;> simp_all
theorem wf_u8 {n : Int} (h : (Lit.int .u8 n).wf = true) : 0 ≤ n ∧ n < 256 := by
  simp [Lit.wf, IntKind.min, IntKind.max, IntKind.signed, IntKind.bits] at h; omega
theorem some_xor {g : Nat} {W : World} {f : Nat → Nat} (H : RowU g 16 W f) (hf : ∀ i, f i < 256) {x a b : Int} :
    ∃ g' f', (some ⟨g, 0, none⟩ : Option Addr) = some ⟨g', 0, none⟩ ∧ 16 ≤ 16 ∧ RowU g' 16 (W.setCell ⟨g, (x % 16).toNat, none⟩ (.int .u8 (bits .xor .u8 a b))) f' ∧ ∀ i, f' i < 256 := by
  obtain ⟨v, hv, e⟩ := bits_u8 a b
  refine ⟨g, fun i => if i = (x % 16).toNat then v else f i, rfl, by omega, H.up (x := (x % 16).toNat) (by omega) ?_ (fun k hk => by simp [hk]), fun i => ?_⟩
  · rw [e]; simp
  · show (if i = (x % 16).toNat then v else f i) < 256
    split
    · exact hv
    · exact hf i
set_option maxRecDepth 8000 in
set_option maxHeartbeats 8000000 in
theorem walkCodeAny (a0_0 : Int) (a0_1 : Int) (a0_2 : Int) (a0_3 : Int) (a0_4 : Int) (a0_5 : Bool) (a1_0 : Int) (a1_1 : Int) (a2 : Option Addr) (len2 cap2 : Nat) (z2 : List Int) (w : World) (w0_0 : (Lit.int .i64 a0_0).wf = true) (w0_1 : (Lit.int .i64 a0_1).wf = true) (w0_2 : (Lit.int .i64 a0_2).wf = true) (w0_3 : (Lit.int .i64 a0_3).wf = true) (w0_4 : (Lit.int .i64 a0_4).wf = true) (w1_0 : (Lit.int .i64 a1_0).wf = true) (w1_1 : (Lit.int .i64 a1_1).wf = true) (w2 : IsRow .u8 w a2 len2 cap2 z2) :
    Calls Try.prog 6 #[.agg #[.int .i64 a0_0, .int .i64 a0_1, .int .i64 a0_2, .int .i64 a0_3, .int .i64 a0_4, .bool a0_5], .agg #[.int .i64 a1_0, .int .i64 a1_1], .slice a2 len2 cap2] w fun e w' => e = .returned (.bool true) ∧ Below w.heap.size w w' := by
  obtain ⟨i0, hi, hz0, hz1, hz2⟩ := info_parts infoU8
  have e1 := and1 a1_0
  have m2 : a1_0 % 2 = 0 ∨ a1_0 % 2 = 1 := by omega
  have HI := Lib.hid w2.ints
  have hbd : ∀ x ∈ z2.take len2, 0 ≤ x ∧ x < 256 := by
    rcases w2.at with h | ⟨_, _, _, _, _, _, _, hw⟩
    · simp [h]
    · exact fun x hx => wf_u8 (hw x (List.mem_of_mem_take hx))
  have hcap : (a2 = none → len2 = 0 ∧ cap2 = 0) ∧ len2 ≤ cap2 ∧ cap2 ≤ 9223372036854775807 := by
    rcases w2 with ⟨_, rfl, rfl, _⟩ | ⟨x, rfl, h1, h2, _⟩
    · exact ⟨fun _ => ⟨rfl, rfl⟩, by omega, by omega⟩
    · exact ⟨fun h => (by cases h), h1, by unfold maxLen at h2; omega⟩
  obtain ⟨hnil, hc1, hc2⟩ := hcap
  have HNIL := Lib.hid hnil
  clear w2 hnil w0_0 w0_1 w0_2 w0_3 w0_4 w1_0 w1_1
  generalize z2.take len2 = zs at *
  have hzl : zs.length = len2 := HI.out.1
  obtain ⟨m, hm⟩ : ∃ m : Nat, min len2 17 = m := ⟨_, rfl⟩
  have hm1 : m ≤ len2 ∧ m ≤ 17 := by omega
  obtain ⟨hm1, hm2⟩ := hm1
  have hmI : min (len2 : Int) 17 = (m : Int) := by omega
  have hmI2 : (if (17 : Int) < (len2 : Int) then (17 : Int) else (len2 : Int)) = (m : Int) := by split <;> omega
  have HBD : Hid (∀ x ∈ zs.take m, 0 ≤ x ∧ x < 256) := Lib.hid fun x hx => hbd x (List.mem_of_mem_take hx)
  have HXL : Hid ((zs.take m).length = m) := Lib.hid (by simp; omega)
  have HZL := Lib.hid hzl
  clear hbd hm hzl
  go_enter Try.func6, Try.ntmps6
  go_upto_region 1 with (fail)
  obtain ⟨W2, hW2⟩ : ∃ W2, (w.alloc (.cells #[.int .i64 a0_0, .int .i64 a0_1, .int .i64 a0_2, .int .i64 a0_3, .int .i64 a0_4, .bool a0_5] 23)).alloc (.cells #[.int .i64 a1_0, .int .i64 a1_1] 42) = W2 := ⟨_, rfl⟩
  have hX := (CapAt.new w a0_0 a0_1 a0_2 a0_3 a0_4 a0_5 23).below (alc0 _ (.cells #[.int .i64 a1_0, .int .i64 a1_1] 42))
  have hq0 : W2.cell? ⟨w.heap.size + 1, 0, none⟩ = some (.int .i64 a1_0) := by rw [← hW2]; simp
  have hq1 : W2.cell? ⟨w.heap.size + 1, 1, none⟩ = some (.int .i64 a1_1) := by rw [← hW2]; simp
  have hqs : w.heap.size + 1 < W2.heap.size := by rw [← hW2]; simp
  have hB2 := alc (alc0 w (.cells #[.int .i64 a0_0, .int .i64 a0_1, .int .i64 a0_2, .int .i64 a0_3, .int .i64 a0_4, .bool a0_5] 23)) (.cells #[.int .i64 a1_0, .int .i64 a1_1] 42)
  rw [hW2] at hX hB2 ⊢
  obtain ⟨n1, hn1⟩ : ∃ n1, w.heap.size + 1 = n1 := ⟨_, rfl⟩
  rw [hn1] at hq0 hq1 hqs ⊢
  have HX := Lib.hid hX; have HB2 := Lib.hid hB2
  have HI2 : Hid (Ints .u8 W2 a2 len2 zs) := Lib.hid (HI.out.below hB2)
  have HQ := Lib.hid (And.intro hq0 (And.intro hq1 hqs))
  clear hW2 hX hB2 hn1 hq0 hq1 hqs HI
  go_cut [7] (fun v7 wx => ∃ A K cap, v7 = .slice A K cap ∧ Hid (SomeB A K cap wx) ∧ Hid (Below W2.heap.size W2 wx))
  case first =>
    have hmade := World.ownsRow_made (base := W2.heap.size) (e := 5) (size := 1) W2 #[] 0 (Nat.le_refl _) (by unfold maxLen; omega) (by simp)
    cases a2 with
    | none =>
      obtain ⟨rfl, rfl⟩ := HNIL.out rfl
      obtain rfl : m = 0 := by omega
      go_wp2_with (at_builtin; refine wpList_append_own_none rfl _ _ 37 rfl W2.heap.size 5 i0 1 Try.underlying37 hi _ _ _ rfl hmade rfl ?_)
      go_wp2_with fail
      go_meet
      exact ⟨_, _, _, rfl, Lib.hid ⟨by omega, fun h => by omega⟩, Lib.hid (alc0 _ _)⟩
    | some ad =>
      go_wp2_with (at_builtin; refine wpList_append_own _ rfl _ _ 37 rfl W2.heap.size 5 i0 (.int .u8 0) 1 1 Try.underlying37 hi hz0 hz1 hz2 rfl (by decide) _ _ _ rfl hmade ad m cap2 ((zs.take m).map (Value.int .u8)) rfl ?c0 ?c1 ?c2 ?c3 ?c4 ?c5 ?_)
      case c0 => simp; have := HZL.out; omega
      case c1 =>
        intro j u hu
        have hjl := (List.getElem?_eq_some_iff.1 hu).1
        have hXL := HXL.out
        have hZL := HZL.out
        simp only [List.length_map] at hjl
        obtain ⟨_, h0 | ⟨b, off, e, hlt, _, hc⟩⟩ := HI2.out
        · omega
        · injection e with e
          subst e
          rw [addo, World.cell?_alloc_lt _ _ _ (by exact hlt), hc j (by omega)]
          have hj2 : j < m := by omega
          rw [List.getElem?_map, List.getElem?_take_of_lt hj2] at hu
          simp only [List.getD_eq_getElem?_getD]
          cases hz : zs[j]? with
          | none => rw [hz] at hu; cases hu
          | some y => rw [hz] at hu; simpa using hu
      case c2 => intro u hu; obtain ⟨x, _, rfl⟩ := List.mem_map.1 hu; rfl
      case c3 => unfold maxLen; omega
      case c4 => omega
      case c5 => simp
      intro v' w3 hown hgrow _
      have hown2 : w3.ownsRow W2.heap.size 5 1 v' m ((zs.take m).map (Value.int .u8)) := by simpa using hown
      obtain ⟨A, cap, rfl, hs⟩ := some_of_own hown2 hm2 HBD.out
      have hb3 : Below W2.heap.size W2 w3 := (alc0 _ _).grown hgrow (by simp) (fun j hj => (hmade.lt j hj).1)
      clear hown hown2 hgrow
      go_wp2_with fail
      go_meet
      exact ⟨A, m, cap, rfl, Lib.hid hs, Lib.hid hb3⟩
  case rest =>
    obtain ⟨A, K, cap, rfl, HS, HBc⟩ := hcut
    clear HI2 HBD HXL HZL HNIL hmI hmI2 hm1 hm2 hc1 hc2
    obtain ⟨wa, hwa⟩ : ∃ wa : World, wa = wc := ⟨_, rfl⟩
    rw [← hwa] at HS HBc ⊢
    clear hwa
    obtain ⟨HQ0, HQ1, HQs⟩ := HQ.out
    have q0 := (HBc.out.cell (p := ⟨n1, 0, none⟩) HQs).trans HQ0
    have q1 := (HBc.out.cell (p := ⟨n1, 1, none⟩) HQs).trans HQ1
    clear HQ0 HQ1 HQs
    go_upto_if 20 with (fail)
    go_cut [7] (fun v7 wx => ∃ A K cap, v7 = .slice A K cap ∧ Hid (SomeB A K cap wx) ∧ Hid (Below W2.heap.size W2 wx))
    case first =>
      rcases m2 with hz | hz
      · have HX3 := Lib.hid (HX.out.below HBc.out)
        obtain ⟨_, k0, k1, k2, k3, k4, k5, kf⟩ := HX3.out
        go_wp2_with fail
        refine (rcap_any _ _ _ _ _ _ _ _).mono ?_
        rintro e w3 ⟨b, l, c, p, t, v, rfl, hbd, hb3⟩
        have HB3 := Lib.hid (thn HBc.out hb3)
        clear hbd hb3 k0 k1 k2 k3 k4 k5 kf HX3 q0 q1
        go_wp2_with fail
        refine (cbytes_any _ _ _ _ _ _ _).mono ?_
        rintro e w4 ⟨f, hf, g, rfl, hg, hr, hb4⟩
        have HB4 := Lib.hid (thn HB3.out hb4)
        have HR := Lib.hid hr; have HF := Lib.hid hf
        obtain ⟨HQ0, HQ1, HQs⟩ := HQ.out
        have q0 := (HB4.out.cell (p := ⟨n1, 0, none⟩) HQs).trans HQ0
        have q1 := (HB4.out.cell (p := ⟨n1, 1, none⟩) HQs).trans HQ1
        have hgW : W2.heap.size ≤ g := by have := HB3.out.size; omega
        have hgn : n1 < g := by omega
        clear HQ0 HQ1 HQs hr hf hb4 HB3 hg
        go_upto_region 6 with (fail)
        have e15 := and15
        have o0 : ∀ x : Int, 0 ≤ x % 16 := fun x => Int.emod_nonneg _ (by decide)
        have o1 : ∀ x : Int, x % 16 < 16 := fun x => Int.emod_lt_of_pos _ (by decide)
        have oc : ∀ x : Int, w4.cell? ⟨g, (x % 16).toNat, none⟩ = some (.int .u8 (f (x % 16).toNat : Int)) := fun x => (HR.out.2 _ (by have := o0 x; have := o1 x; omega)).1
        have of : ∀ x : Int, w4.frozen? ⟨g, (x % 16).toNat, none⟩ = false := fun x => (HR.out.2 _ (by have := o0 x; have := o1 x; omega)).2
        clear e1
        go_region
        all_goals
          go_wp2
          go_meet
          obtain ⟨g', f', x1, x2, x3, x4⟩ := some_xor HR.out HF.out (x := a1_0 / 2) (a := (f (a1_0 / 2 % 16).toNat : Int)) (b := a1_1 % 256)
          exact ⟨_, 16, 16, rfl, Lib.hid ⟨by omega, fun _ => ⟨g', f', x1, x2, x3.below (Below.refl _ _).drew, x4⟩⟩, Lib.hid (HB4.out.setCell (p := ⟨g, (a1_0 / 2 % 16).toNat, none⟩) hgW _).drew⟩
      · go_wp2_with fail
        go_meet
        exact ⟨A, K, cap, rfl, HS, HBc⟩
    case rest =>
      obtain ⟨A, K, cap, rfl, HS, HBd⟩ := hcut
      clear q0 q1 HBc
      obtain ⟨wb, hwb⟩ : ∃ wb : World, wb = wc := ⟨_, rfl⟩
      rw [← hwb] at HS HBd ⊢
      clear hwb
      have HBw := Lib.hid (thn HB2.out HBd.out)
      have hK17 := HS.out.1
      by_cases hK : K = 16
      · obtain ⟨g, f, rfl, hcap16, hr, hf⟩ := HS.out.2 hK
        subst hK
        have HR := Lib.hid hr; have HF := Lib.hid hf
        clear hr hf HS
        cases hok : codeOk f
        · have HN := Lib.hid hok
          clear hok
          go_wp2_with fail
          refine (cread_not g cap f _ HR.out HF.out hcap16 HN.out).mono ?_
          rintro e w5 ⟨rfl, hb⟩
          have HB5 := Lib.hid (thn HBw.out hb)
          clear hb
          go_upto_region 9 with (fail)
          obtain ⟨w6, hw6⟩ : ∃ w6, w5.alloc (.cells #[.int .i64 0, .int .i64 0, .int .i64 0, .int .i64 0, .int .i64 0, .bool false] 23) = w6 := ⟨_, rfl⟩
          have hY := CapAt.new w5 0 0 0 0 0 false 23
          have HB6 := Lib.hid (alc HB5.out (.cells #[.int .i64 0, .int .i64 0, .int .i64 0, .int .i64 0, .int .i64 0, .bool false] 23))
          rw [hw6] at hY HB6 ⊢
          have HY := Lib.hid hY
          clear hw6 hY HB5
          go_wp2_with fail
          refine (c11awake _).mono ?_
          rintro e w9 ⟨rfl, hb⟩
          obtain ⟨_, k0, k1, k2, k3, k4, k5, kf⟩ := HY.out.below hb
          go_wp2
          go_ret
          exact ⟨ret_bool (by simp), thn HB6.out hb⟩
        · obtain ⟨B, hB⟩ : ∃ B, get3 f 1 = B := ⟨_, rfl⟩
          obtain ⟨L, hL⟩ : ∃ L, get3 f 4 = L := ⟨_, rfl⟩
          obtain ⟨D, hD⟩ : ∃ D, get3 f 7 = D := ⟨_, rfl⟩
          obtain ⟨P, hP⟩ : ∃ P, f 10 = P := ⟨_, rfl⟩
          obtain ⟨T, hT⟩ : ∃ T, f 11 = T := ⟨_, rfl⟩
          obtain ⟨C, hC⟩ : ∃ C : Int, (B : Int) + D - 1048576 = C := ⟨_, rfl⟩
          have hro := code_round hok HF.out
          rw [hB, hL, hD, hP, hT] at hro
          have HRO := Lib.hid hro
          have hcp : capOkB B L C P T = true := by
            have h2 := hok
            unfold codeOk at h2
            rw [hB, hL, hD, hP, hT, hC] at h2
            exact (Bool.and_eq_true_iff.1 h2).2
          have HOK := Lib.hid hcp
          have HM : Hid (capMayB B L C P T true = true) := Lib.hid hcp
          have HD : Hid (C - B + 1048576 = D) := Lib.hid (by omega)
          have HE := Lib.hid (And.intro hok (And.intro hB (And.intro hL (And.intro hD (And.intro hP (And.intro hT hC))))))
          clear hok hB hL hD hP hT hC hro hcp
          go_wp2_with fail
          refine (cread_ok g cap f _ HR.out HF.out hcap16 HE.out.1 B L P T C HE.out.2.1 HE.out.2.2.1 (by rw [HE.out.2.2.2.1]; exact HE.out.2.2.2.2.2.2) HE.out.2.2.2.2.1 HE.out.2.2.2.2.2.1).mono ?_
          rintro e w5 ⟨rfl, hb⟩
          have HB5 := Lib.hid (thn HBw.out hb)
          have HR5 := Lib.hid (HR.out.below hb)
          clear hb HR HE
          go_upto_region 10 with (fail)
          obtain ⟨s, hs⟩ : ∃ s, w5.heap.size = s := ⟨_, rfl⟩
          obtain ⟨w6, hw6⟩ : ∃ w6, w5.alloc (.cells #[.int .i64 B, .int .i64 L, .int .i64 C, .int .i64 P, .int .i64 T, .bool true] 23) = w6 := ⟨_, rfl⟩
          have hY := CapAt.new w5 B L C P T true 23
          have HB6 := Lib.hid (alc HB5.out (.cells #[.int .i64 B, .int .i64 L, .int .i64 C, .int .i64 P, .int .i64 T, .bool true] 23))
          have HR6 := Lib.hid (HR5.out.below (alc0 w5 (.cells #[.int .i64 B, .int .i64 L, .int .i64 C, .int .i64 P, .int .i64 T, .bool true] 23)))
          rw [hw6] at hY HB6 HR6 ⊢
          rw [hs] at hY ⊢
          obtain ⟨jy, j0, j1, j2, j3, j4, j5, _⟩ := hY
          obtain ⟨S0, hS0⟩ : ∃ S0, strU f 16 = S0 := ⟨_, rfl⟩
          refine wp_region_held_drew (S := (fun w' => w'.cell? ⟨s, 0, none⟩ = some (.int .i64 B) ∧ w'.cell? ⟨s, 1, none⟩ = some (.int .i64 L) ∧ w'.cell? ⟨s, 2, none⟩ = some (.int .i64 C) ∧ w'.cell? ⟨s, 3, none⟩ = some (.int .i64 P) ∧ w'.cell? ⟨s, 4, none⟩ = some (.int .i64 T) ∧ w'.cell? ⟨s, 5, none⟩ = some (.bool true) ∧ Hid (RowU g 16 w' f) ∧ Hid (Below w.heap.size w w') ∧ s < w'.heap.size)) (by kernel_rfl) ?_ (fun hHeld => ?_)
          · exact ⟨j0, j1, j2, j3, j4, j5, Lib.hid (HR6.out.below (Below.refl _ _).drew), Lib.hid HB6.out.drew, jy⟩
          have HTAKE := Lib.hid (fun (w' : World) (h : (fun w' => w'.cell? ⟨s, 0, none⟩ = some (.int .i64 B) ∧ w'.cell? ⟨s, 1, none⟩ = some (.int .i64 L) ∧ w'.cell? ⟨s, 2, none⟩ = some (.int .i64 C) ∧ w'.cell? ⟨s, 3, none⟩ = some (.int .i64 P) ∧ w'.cell? ⟨s, 4, none⟩ = some (.int .i64 T) ∧ w'.cell? ⟨s, 5, none⟩ = some (.bool true) ∧ Hid (RowU g 16 w' f) ∧ Hid (Below w.heap.size w w') ∧ s < w'.heap.size) w') => (conv_row h.2.2.2.2.2.2.1.out cap).trans (by rw [hS0]))
          have HS0 : Hid (strU (codeF B L D P T) 16 = S0) := Lib.hid (by rw [← hS0]; exact strU_congr HRO.out)
          clear j0 j1 j2 j3 j4 j5 jy HR5 HR6 HB5 HB6 hw6 hs hS0
          refine wpAnyH_ready (rs := [0]) (by kernel_rfl) (by simp) ?_
          refine AllReadyH.cons rfl (fun K2 hK2 => ?_) AllReadyH.nil
          go_simp
          refine (c11awake _).mono ?_
          rintro e w9 ⟨rfl, hb⟩
          refine hK2.out _ _ ?_ (fun hHeld2 => ?_)
          · obtain ⟨j0, j1, j2, j3, j4, j5, jr, jb, jy⟩ := hHeld
            exact ⟨(hb.cell (p := ⟨s, 0, none⟩) jy).trans j0, (hb.cell (p := ⟨s, 1, none⟩) jy).trans j1, (hb.cell (p := ⟨s, 2, none⟩) jy).trans j2, (hb.cell (p := ⟨s, 3, none⟩) jy).trans j3, (hb.cell (p := ⟨s, 4, none⟩) jy).trans j4, (hb.cell (p := ⟨s, 5, none⟩) jy).trans j5, Lib.hid (jr.out.below hb), Lib.hid (thn jb.out hb), Nat.lt_of_lt_of_le jy hb.size⟩
          clear hb
          clear hK2 K2 hHeld
          have hHeld := hHeld2
          clear hHeld2
          try simp (maxSteps := 4000000) only [Act.put, List.setIfInBounds_toArray, List.set_cons_zero, List.set_cons_succ]
          refine wpAnyH_take (i := 1) (v := ?_) rfl (by kernel_rfl) (by kernel_rfl) (by kernel_rfl) (fun _ _ _ h => h) (Or.inl ⟨by kernel_rfl, ?_⟩) (by assumption) ?_
          rotate_left
          · (intro w hSw; (try dsimp only at hSw); (try have hTk := Hid.out HTAKE _ hSw); go_simp)
            try (with_reducible rfl)
          rotate_left
          try simp (maxSteps := 4000000) only [Act.put, List.setIfInBounds_toArray, List.set_cons_zero, List.set_cons_succ, List.getElem_toArray, List.getElem_cons_zero, List.getElem_cons_succ]
          refine wpAnyH_take (i := 2) (v := ?_) rfl (by kernel_rfl) (by kernel_rfl) (by kernel_rfl) (fun _ _ _ h => h) (Or.inl ⟨by kernel_rfl, ?_⟩) (by assumption) ?_
          rotate_left
          · (intro w hSw; (try dsimp only at hSw); (try have hTk := Hid.out HTAKE _ hSw); go_simp)
            try (with_reducible rfl)
          rotate_left
          try simp (maxSteps := 4000000) only [Act.put, List.setIfInBounds_toArray, List.set_cons_zero, List.set_cons_succ, List.getElem_toArray, List.getElem_cons_zero, List.getElem_cons_succ]
          refine wpAnyH_take (i := 3) (v := ?_) rfl (by kernel_rfl) (by kernel_rfl) (by kernel_rfl) (fun _ _ _ h => h) (Or.inl ⟨by kernel_rfl, ?_⟩) (by assumption) ?_
          rotate_left
          · (intro w hSw; (try dsimp only at hSw); (try have hTk := Hid.out HTAKE _ hSw); go_simp)
            try (with_reducible rfl)
          rotate_left
          try simp (maxSteps := 4000000) only [Act.put, List.setIfInBounds_toArray, List.set_cons_zero, List.set_cons_succ, List.getElem_toArray, List.getElem_cons_zero, List.getElem_cons_succ]
          refine wpAnyH_take (i := 4) (v := ?_) rfl (by kernel_rfl) (by kernel_rfl) (by kernel_rfl) (fun _ _ _ h => h) (Or.inl ⟨by kernel_rfl, ?_⟩) (by assumption) ?_
          rotate_left
          · (intro w hSw; (try dsimp only at hSw); (try have hTk := Hid.out HTAKE _ hSw); go_simp)
            try (with_reducible rfl)
          rotate_left
          try simp (maxSteps := 4000000) only [Act.put, List.setIfInBounds_toArray, List.set_cons_zero, List.set_cons_succ, List.getElem_toArray, List.getElem_cons_zero, List.getElem_cons_succ]
          refine wpAnyH_take (i := 5) (v := ?_) rfl (by kernel_rfl) (by kernel_rfl) (by kernel_rfl) (fun _ _ _ h => h) (Or.inl ⟨by kernel_rfl, ?_⟩) (by assumption) ?_
          rotate_left
          · (intro w hSw; (try dsimp only at hSw); (try have hTk := Hid.out HTAKE _ hSw); go_simp)
            try (with_reducible rfl)
          rotate_left
          try simp (maxSteps := 4000000) only [Act.put, List.setIfInBounds_toArray, List.set_cons_zero, List.set_cons_succ, List.getElem_toArray, List.getElem_cons_zero, List.getElem_cons_succ]
          refine wpAnyH_take (i := 6) (v := ?_) rfl (by kernel_rfl) (by kernel_rfl) (by kernel_rfl) (fun _ _ _ h => h) (Or.inl ⟨by kernel_rfl, ?_⟩) (by assumption) ?_
          rotate_left
          · (intro w hSw; (try dsimp only at hSw); (try have hTk := Hid.out HTAKE _ hSw); go_simp)
            try (with_reducible rfl)
          rotate_left
          try simp (maxSteps := 4000000) only [Act.put, List.setIfInBounds_toArray, List.set_cons_zero, List.set_cons_succ, List.getElem_toArray, List.getElem_cons_zero, List.getElem_cons_succ]
          refine wpAnyH_ready (rs := [7]) (by kernel_rfl) (by simp) ?_
          refine AllReadyH.cons rfl (fun K2 hK2 => ?_) AllReadyH.nil
          go_simp
          refine (rmay_is true _ _ _ _ _ _ _ HM.out).mono ?_
          rintro e w9 ⟨rfl, hb⟩
          refine hK2.out _ _ ?_ (fun hHeld2 => ?_)
          · obtain ⟨j0, j1, j2, j3, j4, j5, jr, jb, jy⟩ := hHeld
            exact ⟨(hb.cell (p := ⟨s, 0, none⟩) jy).trans j0, (hb.cell (p := ⟨s, 1, none⟩) jy).trans j1, (hb.cell (p := ⟨s, 2, none⟩) jy).trans j2, (hb.cell (p := ⟨s, 3, none⟩) jy).trans j3, (hb.cell (p := ⟨s, 4, none⟩) jy).trans j4, (hb.cell (p := ⟨s, 5, none⟩) jy).trans j5, Lib.hid (jr.out.below hb), Lib.hid (thn jb.out hb), Nat.lt_of_lt_of_le jy hb.size⟩
          clear hb
          clear hK2 K2 hHeld
          have hHeld := hHeld2
          clear hHeld2
          try simp (maxSteps := 4000000) only [Act.put, List.setIfInBounds_toArray, List.set_cons_zero, List.set_cons_succ]
          refine wpAnyH_take (i := 8) (v := ?_) rfl (by kernel_rfl) (by kernel_rfl) (by kernel_rfl) (fun _ _ _ h => h) (Or.inl ⟨by kernel_rfl, ?_⟩) (by assumption) ?_
          rotate_left
          · (intro w hSw; (try dsimp only at hSw); (try have hTk := Hid.out HTAKE _ hSw); go_simp)
            try (with_reducible rfl)
          rotate_left
          try simp (maxSteps := 4000000) only [Act.put, List.setIfInBounds_toArray, List.set_cons_zero, List.set_cons_succ, List.getElem_toArray, List.getElem_cons_zero, List.getElem_cons_succ]
          refine wpAnyH_take (i := 9) (v := ?_) rfl (by kernel_rfl) (by kernel_rfl) (by kernel_rfl) (fun _ _ _ h => h) (Or.inl ⟨by kernel_rfl, ?_⟩) (by assumption) ?_
          rotate_left
          · (intro w hSw; (try dsimp only at hSw); (try have hTk := Hid.out HTAKE _ hSw); go_simp)
            try (with_reducible rfl)
          rotate_left
          try simp (maxSteps := 4000000) only [Act.put, List.setIfInBounds_toArray, List.set_cons_zero, List.set_cons_succ, List.getElem_toArray, List.getElem_cons_zero, List.getElem_cons_succ]
          refine wpAnyH_take (i := 10) (v := ?_) rfl (by kernel_rfl) (by kernel_rfl) (by kernel_rfl) (fun _ _ _ h => h) (Or.inl ⟨by kernel_rfl, ?_⟩) (by assumption) ?_
          rotate_left
          · (intro w hSw; (try dsimp only at hSw); (try have hTk := Hid.out HTAKE _ hSw); go_simp)
            try (with_reducible rfl)
          rotate_left
          try simp (maxSteps := 4000000) only [Act.put, List.setIfInBounds_toArray, List.set_cons_zero, List.set_cons_succ, List.getElem_toArray, List.getElem_cons_zero, List.getElem_cons_succ]
          refine wpAnyH_take (i := 13) (v := ?_) rfl (by kernel_rfl) (by kernel_rfl) (by kernel_rfl) (fun _ _ _ h => h) (Or.inl ⟨by kernel_rfl, ?_⟩) (by assumption) ?_
          rotate_left
          · (intro w hSw; (try dsimp only at hSw); (try have hTk := Hid.out HTAKE _ hSw); go_simp)
            try (with_reducible rfl)
          rotate_left
          try simp (maxSteps := 4000000) only [Act.put, List.setIfInBounds_toArray, List.set_cons_zero, List.set_cons_succ, List.getElem_toArray, List.getElem_cons_zero, List.getElem_cons_succ]
          refine wpAnyH_take (i := 14) (v := ?_) rfl (by kernel_rfl) (by kernel_rfl) (by kernel_rfl) (fun _ _ _ h => h) (Or.inl ⟨by kernel_rfl, ?_⟩) (by assumption) ?_
          rotate_left
          · (intro w hSw; (try dsimp only at hSw); (try have hTk := Hid.out HTAKE _ hSw); go_simp)
            try (with_reducible rfl)
          rotate_left
          try simp (maxSteps := 4000000) only [Act.put, List.setIfInBounds_toArray, List.set_cons_zero, List.set_cons_succ, List.getElem_toArray, List.getElem_cons_zero, List.getElem_cons_succ]
          refine wpAnyH_ready (rs := [11]) (by kernel_rfl) (by simp) ?_
          refine AllReadyH.cons rfl (fun K2 hK2 => ?_) AllReadyH.nil
          go_simp
          refine (cbytes_yes B L D P T C _ HOK.out HD.out).mono ?_
          rintro e w9 ⟨g2, rfl, hg2, hr2, hb⟩
          have hcv := (conv_row hr2 16).trans (by rw [HS0.out])
          refine hK2.out _ _ ?_ (fun hHeld2 => ?_)
          · obtain ⟨j0, j1, j2, j3, j4, j5, jr, jb, jy⟩ := hHeld
            exact ⟨(hb.cell (p := ⟨s, 0, none⟩) jy).trans j0, (hb.cell (p := ⟨s, 1, none⟩) jy).trans j1, (hb.cell (p := ⟨s, 2, none⟩) jy).trans j2, (hb.cell (p := ⟨s, 3, none⟩) jy).trans j3, (hb.cell (p := ⟨s, 4, none⟩) jy).trans j4, (hb.cell (p := ⟨s, 5, none⟩) jy).trans j5, Lib.hid (jr.out.below hb), Lib.hid (thn jb.out hb), Nat.lt_of_lt_of_le jy hb.size⟩
          clear hb hr2
          clear hK2 K2 hHeld
          have hHeld := hHeld2
          clear hHeld2
          try simp (maxSteps := 4000000) only [Act.put, List.setIfInBounds_toArray, List.set_cons_zero, List.set_cons_succ]
          refine wpAnyH_ready (rs := [12]) (by kernel_rfl) (by simp) ?_
          refine AllReadyH.cons rfl (fun K2 hK2 => ?_) AllReadyH.nil
          go_simp
          refine hK2.out _ _ hHeld (fun hHeld2 => ?_)
          clear hK2 K2 hHeld
          have hHeld := hHeld2
          clear hHeld2
          try simp (maxSteps := 4000000) only [Act.put, List.setIfInBounds_toArray, List.set_cons_zero, List.set_cons_succ]
          refine wpAnyH_take (i := 15) (v := ?_) rfl (by kernel_rfl) (by kernel_rfl) (by kernel_rfl) (fun _ _ _ h => h) (Or.inl ⟨by kernel_rfl, ?_⟩) (by assumption) ?_
          rotate_left
          · (intro w hSw; (try dsimp only at hSw); (try have hTk := Hid.out HTAKE _ hSw); go_simp)
            try (with_reducible rfl)
          rotate_left
          try simp (maxSteps := 4000000) only [Act.put, List.setIfInBounds_toArray, List.set_cons_zero, List.set_cons_succ, List.getElem_toArray, List.getElem_cons_zero, List.getElem_cons_succ]
          refine wpAnyH_take (i := 16) (v := ?_) rfl (by kernel_rfl) (by kernel_rfl) (by kernel_rfl) (fun _ _ _ h => h) (Or.inl ⟨by kernel_rfl, ?_⟩) (by assumption) ?_
          rotate_left
          · (intro w hSw; (try dsimp only at hSw); (try have hTk := Hid.out HTAKE _ hSw); go_simp)
            try (with_reducible rfl)
          rotate_left
          try simp (maxSteps := 4000000) only [Act.put, List.setIfInBounds_toArray, List.set_cons_zero, List.set_cons_succ, List.getElem_toArray, List.getElem_cons_zero, List.getElem_cons_succ]
          refine wpAnyH_take (i := 17) (v := ?_) rfl (by kernel_rfl) (by kernel_rfl) (by kernel_rfl) (fun _ _ _ h => h) (Or.inl ⟨by kernel_rfl, ?_⟩) (by assumption) ?_
          rotate_left
          · (intro w hSw; (try dsimp only at hSw); (try have hTk := Hid.out HTAKE _ hSw); go_simp)
            try (with_reducible rfl)
          rotate_left
          try simp (maxSteps := 4000000) only [Act.put, List.setIfInBounds_toArray, List.set_cons_zero, List.set_cons_succ, List.getElem_toArray, List.getElem_cons_zero, List.getElem_cons_succ]
          refine wpAnyH_done (by kernel_rfl) ?_ _
          go_wp2
          go_ret
          exact ⟨ret_bool (by simp), hHeld.2.2.2.2.2.2.2.1.out⟩
      · go_wp2_with fail
        refine (cread_any A K cap _ hK (by omega)).mono ?_
        rintro e w5 ⟨rfl, hb⟩
        have HB5 := Lib.hid (thn HBw.out hb)
        clear hb
        go_upto_region 9 with (fail)
        obtain ⟨w6, hw6⟩ : ∃ w6, w5.alloc (.cells #[.int .i64 0, .int .i64 0, .int .i64 0, .int .i64 0, .int .i64 0, .bool false] 23) = w6 := ⟨_, rfl⟩
        have hY := CapAt.new w5 0 0 0 0 0 false 23
        have HB6 := Lib.hid (alc HB5.out (.cells #[.int .i64 0, .int .i64 0, .int .i64 0, .int .i64 0, .int .i64 0, .bool false] 23))
        rw [hw6] at hY HB6 ⊢
        have HY := Lib.hid hY
        clear hw6 hY HB5
        go_wp2_with fail
        refine (c11awake _).mono ?_
        rintro e w9 ⟨rfl, hb⟩
        obtain ⟨_, k0, k1, k2, k3, k4, k5, kf⟩ := HY.out.below hb
        go_wp2
        go_ret
        exact ⟨ret_bool (by simp), thn HB6.out hb⟩
end Go.Proofs.Ytcknbbffeeldpaa
