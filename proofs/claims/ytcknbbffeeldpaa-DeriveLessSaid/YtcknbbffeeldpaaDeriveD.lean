/- The walk of DeriveLess. -/
import Derived.Test.YtcknbbffeeldpaaDeriveC
import Derived.Test.YtcknbbffeeldpaaRecs
import Derived.Deep.CutBlock
import Derived.Deep.RegionWith
import Derived.WalkSmall
namespace Go.Proofs.Ytcknbbffeeldpaa
open Go.RowKit
set_option linter.unusedVariables false
set_option linter.unusedSimpArgs false

theorem rcap9_any (b l c p t : Int) (v : Bool) (w : World) :
    Calls Try.prog 9 #[.agg #[.int .i64 b, .int .i64 l, .int .i64 c, .int .i64 p, .int .i64 t, .bool v], .int .i64 9] w fun e w' => ∃ (b l c p t : Int), e = .returned (.agg #[.int .i64 b, .int .i64 l, .int .i64 c, .int .i64 p, .int .i64 t, .bool true]) ∧ Below w.heap.size w w' := by
  have e1 := and2047 b
  have e2 := and255 l
  have e3 := and255 c
  have e4 := and31 p
  have e5 := and15 t
  have e6 : bits .and .i64 9 31 = 9 := by decide +kernel
  have q1 : 0 ≤ b % 2048 := Int.emod_nonneg _ (by decide)
  have q2 : b % 2048 < 2048 := Int.emod_lt_of_pos _ (by decide)
  have q3 : 0 ≤ l % 256 := Int.emod_nonneg _ (by decide)
  have q4 : l % 256 < 256 := Int.emod_lt_of_pos _ (by decide)
  have q5 : 0 ≤ c % 256 := Int.emod_nonneg _ (by decide)
  have q6 : c % 256 < 256 := Int.emod_lt_of_pos _ (by decide)
  generalize b % 2048 = B at *
  generalize l % 256 = L at *
  generalize c % 256 = C at *
  generalize p % 32 = P at *
  generalize t % 16 = T at *
  have hsp : L + 1 ≤ 2048 - B ∨ 2048 - B < L + 1 := by omega
  rcases hsp with hsp | hsp
  all_goals
    go_enter Try.func9, Try.ntmps9
    go_wp2
  · refine bodyPost_ret (v := .agg #[.int .i64 B, .int .i64 (L + 1), .int .i64 (B + C - 16), .int .i64 P, .int .i64 T, .bool true]) ?_ rfl ?_
    · (simp [results, Try.results9, go_sem]; done)
    · exact ⟨_, _, _, _, _, rfl, (by repeat (first | assumption | exact alc0 _ _ | refine alc ?_ _ | (refine Below.setCell ?_ (by first | omega | (simp <;> omega)) _)))⟩
  · refine bodyPost_ret (v := .agg #[.int .i64 B, .int .i64 (2048 - B), .int .i64 (B + C - 16), .int .i64 P, .int .i64 T, .bool true]) ?_ rfl ?_
    · (simp [results, Try.results9, go_sem]; done)
    · exact ⟨_, _, _, _, _, rfl, (by repeat (first | assumption | exact alc0 _ _ | refine alc ?_ _ | (refine Below.setCell ?_ (by first | omega | (simp <;> omega)) _)))⟩

/-- One is not more than another one. -/
def Less (B L P T b l c p : Int) : Prop := capOkB b l c p T = true ∧ B ≤ b ∧ b + l ≤ B + L ∧ phasB P p = true
def Step (b l p t : Int) (b' l' c' p' t' : Int) (v' : Bool) (e' : Int) : Prop := ¬ e' = 0 ∨ (e' = 0 ∧ v' = true ∧ t' = t ∧ Less b l p t b' l' c' p')
theorem phas_self (p : Int) (h : pmayB p = true) : phasB p p = true := by
  have h' := h
  simp only [pmayB, decide_eq_true_eq] at h
  have all : ∀ a : Fin 32, bits .and .i64 (a.val : Int) (a.val : Int) = (a.val : Int) := by decide +kernel
  have := all ⟨p.toNat, by omega⟩
  rw [show ((⟨p.toNat, by omega⟩ : Fin 32).val : Int) = p by simp; omega] at this
  simp [phasB, h', this]
theorem phas_may {p q : Int} (h : phasB p q = true) : (0 ≤ p ∧ p ≤ 31) ∧ (0 ≤ q ∧ q ≤ 31) ∧ bits .and .i64 p q = q := by
  simp only [phasB, pmayB, Bool.and_eq_true, decide_eq_true_eq, beq_iff_eq] at h
  exact h
theorem phas_mk {p q : Int} (h1 : 0 ≤ p ∧ p ≤ 31) (h2 : 0 ≤ q ∧ q ≤ 31) (h3 : bits .and .i64 p q = q) : phasB p q = true := by
  simp only [phasB, pmayB, Bool.and_eq_true, decide_eq_true_eq, beq_iff_eq]
  exact ⟨h1, h2, h3⟩
theorem and_fin {p q : Int} (h1 : 0 ≤ p ∧ p ≤ 31) (h2 : 0 ≤ q ∧ q ≤ 31) : bits .and .i64 p q = ((p.toNat &&& q.toNat : Nat) : Int) := by
  have all : ∀ a b : Fin 32, bits .and .i64 (a.val : Int) (b.val : Int) = ((a.val &&& b.val : Nat) : Int) := by decide +kernel
  have := all ⟨p.toNat, by omega⟩ ⟨q.toNat, by omega⟩
  rw [show ((⟨p.toNat, by omega⟩ : Fin 32).val : Int) = p by simp; omega, show ((⟨q.toNat, by omega⟩ : Fin 32).val : Int) = q by simp; omega] at this
  exact this
theorem phas_trans {p q r : Int} (h : phasB p q = true) (k : phasB q r = true) : phasB p r = true := by
  obtain ⟨h1, h2, h3⟩ := phas_may h
  obtain ⟨_, k2, k3⟩ := phas_may k
  refine phas_mk h1 k2 ?_
  rw [and_fin h1 h2] at h3
  rw [and_fin h2 k2] at k3
  rw [and_fin h1 k2]
  have e1 : p.toNat &&& q.toNat = q.toNat := by omega
  have e2 : q.toNat &&& r.toNat = r.toNat := by omega
  rw [← e2, ← Nat.and_assoc, e1, e2]; omega
theorem phas_comm {p q : Int} (h : phasB p q = true) : bits .and .i64 q p = q := by
  obtain ⟨h1, h2, h3⟩ := phas_may h
  rw [and_fin h1 h2] at h3
  rw [and_fin h2 h1, Nat.and_comm]; exact h3
theorem phas_less {p n : Int} (h1 : 0 ≤ p ∧ p ≤ 31) (h2 : 0 ≤ n ∧ n ≤ 31) : phasB p (plessI p n) = true := by
  have all : ∀ a b : Fin 32, phasB (a.val : Int) (plessI (a.val : Int) (b.val : Int)) = true := by decide +kernel
  have := all ⟨p.toNat, by omega⟩ ⟨n.toNat, by omega⟩
  rw [show ((⟨p.toNat, by omega⟩ : Fin 32).val : Int) = p by simp; omega, show ((⟨n.toNat, by omega⟩ : Fin 32).val : Int) = n by simp; omega] at this
  exact this
theorem ok_mk {b l c p t : Int} (h1 : 0 ≤ b ∧ b < 262144 ∧ 1 ≤ l ∧ l ≤ 262144 - b) (h2 : b - 1048576 ≤ c ∧ c ≤ b + 1048576) (h3 : 0 ≤ p ∧ p ≤ 31) (h4 : 0 ≤ t ∧ t ≤ 15) : capOkB b l c p t = true := by
  simp only [capOkB, pmayB, Bool.and_eq_true, mayB_iff, decide_eq_true_eq]
  exact ⟨h1, h2, h3, h4⟩
theorem Less.trans {B L P T b l c p b' l' c' p' : Int} (h : Less B L P T b l c p) (k : Less b l p T b' l' c' p') : Less B L P T b' l' c' p' :=
  ⟨k.1, by have := h.2.1; have := k.2.1; omega, by have := h.2.2.1; have := k.2.2.1; omega, phas_trans h.2.2.2 k.2.2.2⟩
theorem br_step {b l c p t n b' l' c' p' t' e' : Int} {v' : Bool} (h : BR b l c p t true n b' l' c' p' t' v' e') : Step b l p t b' l' c' p' t' v' e' := by
  rcases h with ⟨_, _, rfl⟩ | ⟨_, _, _, rfl⟩ | ⟨_, _, _, _, rfl⟩ | ⟨h, hn, hi, ⟨rfl, rfl, rfl, rfl, rfl, rfl⟩, rfl⟩
  · exact .inl (by decide)
  · exact .inl (by decide)
  · exact .inl (by decide)
  · obtain ⟨_, h1, h2, h3, h4⟩ := ok_base h
    simp only [insideB, Bool.and_eq_true, decide_eq_true_eq] at hi
    obtain ⟨_, i1, i2, i3, i4⟩ := hi
    exact .inr ⟨rfl, rfl, rfl, ok_mk (by omega) (by omega) h3 h4, by omega, by omega, phas_self _ (pmay_yes h3)⟩
theorem dr_step {b l c p t n b' l' c' p' t' e' : Int} {v' : Bool} (h : DR b l c p t true n b' l' c' p' t' v' e') : Step b l p t b' l' c' p' t' v' e' := by
  rcases h with ⟨_, _, rfl⟩ | ⟨_, _, _, rfl⟩ | ⟨h, hn, ⟨rfl, rfl, rfl, rfl, rfl, rfl⟩, rfl⟩
  · exact .inl (by decide)
  · exact .inl (by decide)
  · obtain ⟨_, h1, h2, h3, h4⟩ := ok_base h
    have hl := phas_less h3 hn
    exact .inr ⟨rfl, rfl, rfl, ok_mk h1 h2 (phas_may hl).2.1 h4, by omega, by omega, hl⟩
theorem mr_step {b l c p t n b' l' c' p' t' e' : Int} {v' : Bool} (h : MR b l c p t true n b' l' c' p' t' v' e') : Step b l p t b' l' c' p' t' v' e' := by
  rcases h with ⟨_, _, rfl⟩ | ⟨_, _, _, rfl⟩ | ⟨h, hn, ⟨rfl, rfl, rfl, rfl, rfl, rfl⟩, rfl⟩
  · exact .inl (by decide)
  · exact .inl (by decide)
  · obtain ⟨_, h1, h2, h3, h4⟩ := ok_base h
    exact .inr ⟨rfl, rfl, rfl, ok_mk h1 (by omega) h3 h4, by omega, by omega, phas_self _ (pmay_yes h3)⟩

set_option maxRecDepth 8000 in
set_option maxHeartbeats 4000000 in
theorem walkDeriveLessX (b0 l0 c0 p0 t0 : Int) (v0 : Bool) (a1 : Option Addr) (len1 cap1 : Nat) (z1 : List Int) (w : World) (w1 : IsRecs 2 w a1 len1 cap1 z1) :
    Calls Try.prog 4 #[.agg #[.int .i64 b0, .int .i64 l0, .int .i64 c0, .int .i64 p0, .int .i64 t0, .bool v0], .slice a1 len1 cap1] w fun e w' => e = .returned (.bool true) ∧ Below w.heap.size w w' := by
  have HI := Lib.hid (w1.recs (by decide)); clear w1
  obtain ⟨m, hm1, hm2, hm3⟩ : ∃ m : Nat, m ≤ len1 ∧ m ≤ 30 ∧ (m < len1 → m = 30) := ⟨min len1 30, by omega, by omega, by omega⟩
  go_enter Try.func4, Try.ntmps4
  go_wp2_with fail
  refine (rcap9_any _ _ _ _ _ _ _).mono ?_
  rintro e w1 ⟨B, L, C, P, T, rfl, hb1⟩
  obtain ⟨M, hM⟩ : ∃ M, capOkB B L C P T = M := ⟨_, rfl⟩
  have HM := Lib.hid hM; clear hM
  go_upto_region 2 with (fail)
  obtain ⟨W1, hW1⟩ : ∃ W1, w1.alloc (.cells #[.int .i64 B, .int .i64 L, .int .i64 C, .int .i64 P, .int .i64 T, .bool true] 23) = W1 := ⟨_, rfl⟩
  have HX1 : Hid (CapAt w1.heap.size W1 B L C P T true) := Lib.hid (by rw [← hW1]; exact CapAt.new _ _ _ _ _ _ _ _)
  have HB1 : Hid (Below w.heap.size w W1) := Lib.hid (by rw [← hW1]; exact alc (thn (alc0 _ _) hb1) _)
  have hwx : w.heap.size ≤ w1.heap.size := Nat.le_trans (by simp) hb1.size
  rw [hW1]
  obtain ⟨x, hx⟩ : ∃ x, w1.heap.size = x := ⟨_, rfl⟩
  rw [hx] at HX1 hwx ⊢
  clear hW1 hb1 hx
  obtain ⟨_, k0, k1, k2, k3, k4, k5, kf⟩ := HX1.out
  cases M
  · go_wp2_with fail
    refine (rmayv_is _ _ _ _ _ _ _ HM.out).mono ?_
    rintro e w5 ⟨rfl, hb5⟩
    go_wp2_with fail
    refine (c12awake_any _).mono ?_
    rintro e w6 ⟨rfl, hb6⟩
    go_wp2
    go_ret
    exact ⟨rfl, thn (thn HB1.out hb5) hb6⟩
  · go_wp2_with fail
    refine (rmayv_is _ _ _ _ _ _ _ HM.out).mono ?_
    rintro e w5 ⟨rfl, hb5⟩
    have HX5 := Lib.hid (HX1.out.below hb5)
    have HB5 := Lib.hid (thn HB1.out hb5)
    clear k0 k1 k2 k3 k4 k5 kf hb5 HX1 HB1
    obtain ⟨_, k0, k1, k2, k3, k4, k5, kf⟩ := HX5.out
    go_upto_region 5 with (fail)
    obtain ⟨W2, hW2⟩ : ∃ W2, w5.alloc (.cells #[.int .i64 B, .int .i64 L, .int .i64 C, .int .i64 P, .int .i64 T, .bool true] 23) = W2 := ⟨_, rfl⟩
    have HY2 : Hid (CapAt w5.heap.size W2 B L C P T true) := Lib.hid (by rw [← hW2]; exact CapAt.new _ _ _ _ _ _ _ _)
    have hbu := alc0 w5 (.cells #[.int .i64 B, .int .i64 L, .int .i64 C, .int .i64 P, .int .i64 T, .bool true] 23)
    rw [hW2] at hbu
    have HX2 := Lib.hid (HX5.out.below hbu)
    have HB2 := Lib.hid (thn HB5.out hbu)
    have hxy : x < w5.heap.size := HX5.out.1
    rw [hW2]
    obtain ⟨y, hy⟩ : ∃ y, w5.heap.size = y := ⟨_, rfl⟩
    rw [hy] at HY2 hxy ⊢
    clear hW2 hbu hy HX5 HB5 k0 k1 k2 k3 k4 k5 kf
    have HL0 : Hid (Less B L P T B L C P) := Lib.hid ⟨HM.out, by omega, by omega, phas_self _ (pmay_yes (ok_base (v := true) (by rw [HM.out]; rfl)).2.2.2.1)⟩
    have HOKB := Lib.hid (ok_base (v := true) (by rw [HM.out]; rfl : (true && capOkB B L C P T) = true))
    have hwy : w.heap.size ≤ y := by omega
    go_wp2_with fail
    go_loopw [7] (fun v7 wr => ∃ (i : Nat) (b l c p : Int), i ≤ m ∧ v7 = .int .i64 i ∧ Hid (CapAt x wr B L C P T true) ∧ Hid (CapAt y wr b l c p T true) ∧ Hid (Less B L P T b l c p) ∧ Hid (Below w.heap.size w wr)) (fun i _ => m - (intOf i).toNat)
    case atStart => exact ⟨0, B, L, C, P, by omega, rfl, HX2, HY2, HL0, HB2⟩
    case round =>
      clear HX2 HY2 HL0 HB2
      obtain ⟨i, b, l, c, p, him, rfl, HX, HY, HL, HB⟩ := hrel
      by_cases hlt : i < m
      · obtain ⟨_, _, hin⟩ := HI.out.below HB.out
        rcases hin with h0 | ⟨rb, off, rfl, hrl, hrm, hrc⟩
        · exfalso; omega
        · have r0 := hrc (i * 2) (by omega)
          have r1 := hrc (i * 2 + 1) (by omega)
          rw [← Nat.add_assoc] at r1
          clear hrc
          have HIx := HI
          clear HI
          generalize z1.getD (i * 2) 0 = A0 at *
          generalize z1.getD (i * 2 + 1) 0 = A1 at *
          have f0 := and15 A0
          obtain ⟨Q, hQ⟩ : ∃ Q : Nat, A0 % 16 = Q := ⟨(A0 % 16).toNat, by omega⟩
          rw [hQ] at f0
          have hQ2 : Q < 16 := by omega
          obtain ⟨R, hR⟩ : ∃ R : Nat, Q % 3 = R := ⟨_, rfl⟩
          have g1 : ((Q : Int)).tmod 3 = (R : Int) := by rw [Int.tmod_eq_emod_of_nonneg (by omega)]; omega
          have g2 : (Q : Int) % 3 = (R : Int) := by omega
          have hR3 : R = 0 ∨ R = 1 ∨ R = 2 := by omega
          clear hQ hR
          have t1 : (i : Int) < len1 := by omega
          have t2 : (i : Int) < 30 := by omega
          clear hm3
          go_upto_region 9 with (fail)
          obtain ⟨W3, hW3⟩ : ∃ W3, wr.alloc (.cells #[.int .i64 0, .int .i64 0, .int .i64 0, .int .i64 0, .int .i64 0, .bool false] 23) = W3 := ⟨_, rfl⟩
          have HZ3 : Hid (CapAt wr.heap.size W3 0 0 0 0 0 false) := Lib.hid (by rw [← hW3]; exact CapAt.new _ _ _ _ _ _ _ _)
          have hbu := alc0 wr (.cells #[.int .i64 0, .int .i64 0, .int .i64 0, .int .i64 0, .int .i64 0, .bool false] 23)
          rw [hW3] at hbu
          have HX3 := Lib.hid (HX.out.below hbu)
          have HY3 := Lib.hid (HY.out.below hbu)
          have HB3 := Lib.hid (thn HB.out hbu)
          have s0 := (hbu.cell (p := ⟨rb, off + i * 2, none⟩) hrl).trans r0
          have s1 := (hbu.cell (p := ⟨rb, off + i * 2 + 1, none⟩) hrl).trans r1
          have hrl3 : rb < W3.heap.size := Nat.lt_of_lt_of_le hrl hbu.size
          have hyz : y < wr.heap.size := HY.out.1
          rw [hW3]
          obtain ⟨z, hz⟩ : ∃ z, wr.heap.size = z := ⟨_, rfl⟩
          rw [hz] at HZ3 hyz ⊢
          clear hW3 hbu hz HX HY HB r0 r1 hrl
          have hwz : w.heap.size ≤ z := Nat.le_trans hwy (Nat.le_of_lt hyz)
          go_upto_block 2 with (fail)
          go_cut [9] (fun v9 wx => ∃ (b' l' c' p' t' : Int) (v' : Bool) (e' : Int), v9 = .int .i64 e' ∧ Hid (Step b l p T b' l' c' p' t' v' e') ∧ Hid (CapAt x wx B L C P T true) ∧ Hid (CapAt y wx b l c p T true) ∧ Hid (CapAt z wx b' l' c' p' t' v') ∧ Hid (Below w.heap.size w wx))
          case first =>
            obtain ⟨_, k0, k1, k2, k3, k4, k5, kf⟩ := HY3.out
            obtain ⟨_, d0, d1, d2, d3, d4, d5, df⟩ := HZ3.out
            rcases hR3 with rfl | rfl | rfl
            · obtain ⟨b', l', c', p', t', v', e', hr⟩ := br_ex b l c p T true A1
              have HR := Lib.hid hr; clear hr
              go_upto_region 12 with (fail)
              go_region_with (go_at_call 11; refine (dbounds_is _ _ _ _ _ _ _ _ _ _ _ _ _ _ _ HR.out).mono ?_; rintro e w9 ⟨rfl, hb⟩; have hbx : Below W3.heap.size W3 w9 := (by first | exact hb | exact (Below.refl _ _).drew.trans hb); obtain ⟨_, i0, i1, i2, i3, i4, i5, jf⟩ := HZ3.out.below hbx)
              all_goals go_wp2
              all_goals go_meet
              all_goals exact ⟨b', l', c', p', t', v', e', rfl, Lib.hid (br_step HR.out), Lib.hid (((((((HX3.out.below hbx).far (Nat.ne_of_lt (Nat.lt_trans hxy hyz))).far (Nat.ne_of_lt (Nat.lt_trans hxy hyz))).far (Nat.ne_of_lt (Nat.lt_trans hxy hyz))).far (Nat.ne_of_lt (Nat.lt_trans hxy hyz))).far (Nat.ne_of_lt (Nat.lt_trans hxy hyz))).far (Nat.ne_of_lt (Nat.lt_trans hxy hyz))), Lib.hid (((((((HY3.out.below hbx).far (Nat.ne_of_lt hyz)).far (Nat.ne_of_lt hyz)).far (Nat.ne_of_lt hyz)).far (Nat.ne_of_lt hyz)).far (Nat.ne_of_lt hyz)).far (Nat.ne_of_lt hyz)), Lib.hid (((((((HZ3.out.below hbx).s0 b').s1 l').s2 c').s3 p').s4 t').s5 v'), Lib.hid (((((((thn HB3.out hbx).setCell hwz _).setCell hwz _).setCell hwz _).setCell hwz _).setCell hwz _).setCell hwz _)⟩
            · obtain ⟨b', l', c', p', t', v', e', hr⟩ := dr_ex b l c p T true A1
              have HR := Lib.hid hr; clear hr
              go_upto_region 14 with (fail)
              go_region_with (go_at_call 12; refine (ddrop_is _ _ _ _ _ _ _ _ _ _ _ _ _ _ _ HR.out).mono ?_; rintro e w9 ⟨rfl, hb⟩; have hbx : Below W3.heap.size W3 w9 := (by first | exact hb | exact (Below.refl _ _).drew.trans hb); obtain ⟨_, i0, i1, i2, i3, i4, i5, jf⟩ := HZ3.out.below hbx)
              all_goals go_wp2
              all_goals go_meet
              all_goals exact ⟨b', l', c', p', t', v', e', rfl, Lib.hid (dr_step HR.out), Lib.hid (((((((HX3.out.below hbx).far (Nat.ne_of_lt (Nat.lt_trans hxy hyz))).far (Nat.ne_of_lt (Nat.lt_trans hxy hyz))).far (Nat.ne_of_lt (Nat.lt_trans hxy hyz))).far (Nat.ne_of_lt (Nat.lt_trans hxy hyz))).far (Nat.ne_of_lt (Nat.lt_trans hxy hyz))).far (Nat.ne_of_lt (Nat.lt_trans hxy hyz))), Lib.hid (((((((HY3.out.below hbx).far (Nat.ne_of_lt hyz)).far (Nat.ne_of_lt hyz)).far (Nat.ne_of_lt hyz)).far (Nat.ne_of_lt hyz)).far (Nat.ne_of_lt hyz)).far (Nat.ne_of_lt hyz)), Lib.hid (((((((HZ3.out.below hbx).s0 b').s1 l').s2 c').s3 p').s4 t').s5 v'), Lib.hid (((((((thn HB3.out hbx).setCell hwz _).setCell hwz _).setCell hwz _).setCell hwz _).setCell hwz _).setCell hwz _)⟩
            · obtain ⟨b', l', c', p', t', v', e', hr⟩ := mr_ex b l c p T true A1
              have HR := Lib.hid hr; clear hr
              go_upto_region 10 with (fail)
              go_region_with (go_at_call 13; refine (dmove_is _ _ _ _ _ _ _ _ _ _ _ _ _ _ _ HR.out).mono ?_; rintro e w9 ⟨rfl, hb⟩; have hbx : Below W3.heap.size W3 w9 := (by first | exact hb | exact (Below.refl _ _).drew.trans hb); obtain ⟨_, i0, i1, i2, i3, i4, i5, jf⟩ := HZ3.out.below hbx)
              all_goals go_wp2
              all_goals go_meet
              all_goals exact ⟨b', l', c', p', t', v', e', rfl, Lib.hid (mr_step HR.out), Lib.hid (((((((HX3.out.below hbx).far (Nat.ne_of_lt (Nat.lt_trans hxy hyz))).far (Nat.ne_of_lt (Nat.lt_trans hxy hyz))).far (Nat.ne_of_lt (Nat.lt_trans hxy hyz))).far (Nat.ne_of_lt (Nat.lt_trans hxy hyz))).far (Nat.ne_of_lt (Nat.lt_trans hxy hyz))).far (Nat.ne_of_lt (Nat.lt_trans hxy hyz))), Lib.hid (((((((HY3.out.below hbx).far (Nat.ne_of_lt hyz)).far (Nat.ne_of_lt hyz)).far (Nat.ne_of_lt hyz)).far (Nat.ne_of_lt hyz)).far (Nat.ne_of_lt hyz)).far (Nat.ne_of_lt hyz)), Lib.hid (((((((HZ3.out.below hbx).s0 b').s1 l').s2 c').s3 p').s4 t').s5 v'), Lib.hid (((((((thn HB3.out hbx).setCell hwz _).setCell hwz _).setCell hwz _).setCell hwz _).setCell hwz _).setCell hwz _)⟩
          case rest =>
            obtain ⟨b', l', c', p', t', v', e', rfl, HST, HX4, HY4, HZ4, HB4⟩ := hcut
            clear HX3 HY3 HZ3 HB3 s0 s1 f0 g1 g2 hrl3
            rcases HST.out with he | ⟨rfl, rfl, rfl, hl⟩
            · go_wp2_with fail
              go_roundw
              case rel => exact ⟨i + 1, b, l, c, p, by omega, by go_num, HX4, HY4, HL, HB4⟩
              case measure => simp [intOf]; omega
            · have HL2 := Lib.hid (HL.out.trans hl)
              have H1 : Hid ((true && capOkB b' l' c' p' t') = true) := Lib.hid (by rw [hl.1]; rfl)
              have H2 : Hid ((true && capOkB b l c p t') = true) := Lib.hid (by rw [HL.out.1]; rfl)
              have hb1 := (ok_base H1.out).2.1
              have hb2 := (ok_base H2.out).2.1
              have H3 : Hid (holdsB b l b' l' = true) := Lib.hid (by
                have := hl.2.1; have := hl.2.2.1
                simp only [holdsB, Bool.and_eq_true, mayB_iff, decide_eq_true_eq]; exact ⟨⟨hb2, hb1⟩, by omega, by omega⟩)
              have H4 := Lib.hid hl.2.2.2
              have hc1 := phas_comm HL2.out.2.2.2
              have hx1 := HL2.out.2.1
              have hx2 := HL2.out.2.2.1
              have HOK := Lib.hid HOKB.out.2.1
              obtain ⟨j1, j2, j3, j4⟩ := HOKB.out.2.1
              obtain ⟨j5, j6, j7, j8⟩ := hb1
              clear hb2 hl
              obtain ⟨_, d0, d1, d2, d3, d4, d5, df⟩ := HZ4.out
              obtain ⟨_, k0, k1, k2, k3, k4, k5, kf⟩ := HY4.out
              go_wp2_with fail
              refine (capwithin_yes _ _ _ _ _ _ _ _ _ _ H1.out H2.out H3.out H4.out).mono ?_
              rintro e w9 ⟨rfl, hb⟩
              have HX9 := Lib.hid (HX4.out.below hb)
              have HY9 := Lib.hid (HY4.out.below hb)
              have HZ9 := Lib.hid (HZ4.out.below hb)
              have HB9 := Lib.hid (thn HB4.out hb)
              clear hb d0 d1 d2 d3 d4 d5 df k0 k1 k2 k3 k4 k5 kf HX4 HY4 HZ4 HB4
              obtain ⟨_, d0, d1, d2, d3, d4, d5, df⟩ := HZ9.out
              obtain ⟨_, k0, k1, k2, k3, k4, k5, kf⟩ := HY9.out
              obtain ⟨_, x0, x1, x2, x3, x4, x5, xf⟩ := HX9.out
              go_wp2_with fail
              go_roundw
              case rel => exact ⟨i + 1, b', l', c', p', by omega, by go_num, Lib.hid ((((((HX9.out.far (Nat.ne_of_lt hxy)).far (Nat.ne_of_lt hxy)).far (Nat.ne_of_lt hxy)).far (Nat.ne_of_lt hxy)).far (Nat.ne_of_lt hxy)).far (Nat.ne_of_lt hxy)), Lib.hid ((((((HY9.out.s0 b').s1 l').s2 c').s3 p').s4 t').s5 true), HL2, Lib.hid ((((((HB9.out.setCell hwy _).setCell hwy _).setCell hwy _).setCell hwy _).setCell hwy _).setCell hwy _)⟩
              case measure => simp [intOf]; omega
      · obtain rfl : i = m := by omega
        have hend : ¬ (i : Int) < len1 ∨ ((i : Int) < len1 ∧ ¬ (i : Int) < 30) := by omega
        rcases hend with hend | ⟨hend1, hend⟩
        all_goals
          go_wp2_with fail
          refine (c12awake_any _).mono ?_
          rintro e w9 ⟨rfl, hb⟩
          go_wp2
          go_ret
          exact ⟨rfl, thn HB.out hb⟩
theorem walkDeriveLess (a0_0 : Int) (a0_1 : Int) (a0_2 : Int) (a0_3 : Int) (a0_4 : Int) (a0_5 : Bool) (a1 : Option Addr) (len1 cap1 : Nat) (z1 : List Int) (w : World) (w0_0 : (Lit.int .i64 a0_0).wf = true) (w0_1 : (Lit.int .i64 a0_1).wf = true) (w0_2 : (Lit.int .i64 a0_2).wf = true) (w0_3 : (Lit.int .i64 a0_3).wf = true) (w0_4 : (Lit.int .i64 a0_4).wf = true) (w1 : IsRecs 2 w a1 len1 cap1 z1) :
    Calls Try.prog 4 #[.agg #[.int .i64 a0_0, .int .i64 a0_1, .int .i64 a0_2, .int .i64 a0_3, .int .i64 a0_4, .bool a0_5], .slice a1 len1 cap1] w fun e w' => e = .returned (.bool true) ∧ Below w.heap.size w w' :=
  walkDeriveLessX _ _ _ _ _ _ _ _ _ _ w w1
end Go.Proofs.Ytcknbbffeeldpaa
