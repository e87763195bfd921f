/- The walk of TraceSame. -/
import Derived.Test.YtahggokeelgjdaaTrV
import Derived.Test.YtahggokeelgjdaaTrQ
import Derived.Deep.RegionHeld3
namespace Go.Proofs.Ytahggokeelgjdaa
open Go.RowKit
set_option linter.unusedVariables false
set_option linter.unusedSimpArgs false

/-- All but the first thing of a list. -/
theorem ops_drop {W : World} {b off n c : Nat} {l : List OV} (h : OPS W (.slice (some ⟨b, off, none⟩) n c) l) (A : Option Addr) (c2 : Nat) (hA : 1 < l.length → A = some ⟨b, off + 8, none⟩) : OPS W (.slice A (l.drop 1).length c2) (l.drop 1) := by
  obtain ⟨A1, c1, e, h1, h2⟩ := h
  refine ⟨A, c2, rfl, by rw [List.length_drop]; omega, ?_⟩
  by_cases hl : 1 < l.length
  · right
    rcases h2 with rfl | ⟨b', off', e2, h3, h4⟩
    · simp at hl
    · rw [e2] at e
      injection e with e _ _
      injection e with e
      injection e with eb eo _
      subst eb
      subst eo
      refine ⟨b, off + 8, hA hl, h3, fun i p hp => ?_⟩
      have := h4 (i + 1) p (by rw [List.getElem?_drop, Nat.add_comm] at hp; exact hp)
      rwa [show off + (i + 1) * 8 = off + 8 + i * 8 by omega] at this
  · exact .inl (List.length_eq_zero_iff.1 (by rw [List.length_drop]; omega))
theorem OPS.src_all {W : World} {ad : Addr} {n c : Nat} {l : List OV} (h : OPS W (.slice (some ad) n c) l) : ∀ j u, (l.flatMap enc8)[j]? = some u → W.cell? (ad.add j) = some u := by
  have := h.src l.length (Nat.le_refl _)
  rwa [List.take_length] at this
theorem ops_e (W : World) (A : Option Addr) (c : Nat) : OPS W (.slice A 0 c) [] := ⟨A, c, rfl, by simp, .inl rfl⟩
set_option maxRecDepth 100000 in
set_option maxHeartbeats 12800000 in
theorem walkTraceSame (A0 : Option Addr) (l : List OV) (c0 : Nat) (at_ : Int) (o : Op7) (d : List Nat) (dv : Value) (w : World) (h0 : OPS w (.slice A0 l.length c0) l) (hl : ∀ p ∈ l, ∀ x ∈ p.d, x < 256) (hat : -9223372036854775808 ≤ at_ ∧ at_ ≤ 9223372036854775807) (h1 : RD w dv d) (ho : o.ok) (hd : ∀ x ∈ d, x < 256) (hcap0 : l.length ≤ c0) :
    Calls Try.prog 6 #[.slice A0 l.length c0, .int .i64 at_, .agg #[.int .i64 o.k, .int .i64 o.t, .int .i64 o.a, .int .i64 o.b, .int .i64 o.v, .int .i64 o.n, .int .i64 o.m, dv]] w fun e w' => e = .returned (.bool true) ∧ Below w.heap.size w w' := by
  have hsh := h1
  obtain ⟨A, c, rfl, -, -⟩ := hsh
  have HO0 := Lib.hid h0
  have HL := Lib.hid hl
  have HD0 := Lib.hid h1
  have HOK := Lib.hid ho
  have HDB := Lib.hid hd
  clear h0 hl h1 ho hd
  go_enter Try.func6, Try.ntmps6
  go_wp2_with fail
  with_reducible refine Calls.mono (awake54 _) ?_
  rintro e w1 ⟨rfl, hB1⟩
  obtain ⟨X, hX⟩ : ∃ X, w.heap.size = X := ⟨_, rfl⟩
  have HW1 : Hid (Below w.heap.size w w1) := Lib.hid (thn (alc0 _ _) hB1)
  have hb1 : w1.heap[X]? = some (.cells #[.int .i64 o.k, .int .i64 o.t, .int .i64 o.a, .int .i64 o.b, .int .i64 o.v, .int .i64 o.n, .int .i64 o.m, .slice A d.length c] 25) := by
    rw [← hX]
    exact (hB1.block w.heap.size (by simp)).trans (by show (w.heap.push _)[w.heap.size]? = _; simp)
  have hXz : X < w1.heap.size := (Array.getElem?_eq_some_iff.1 hb1).1
  have HXC : Hid (∀ W', Below w1.heap.size w1 W' → (W'.cell? ⟨X, 0, none⟩ = some (.int .i64 o.k) ∧ W'.cell? ⟨X, 1, none⟩ = some (.int .i64 o.t) ∧ W'.cell? ⟨X, 2, none⟩ = some (.int .i64 o.a) ∧ W'.cell? ⟨X, 3, none⟩ = some (.int .i64 o.b) ∧ W'.cell? ⟨X, 4, none⟩ = some (.int .i64 o.v) ∧ W'.cell? ⟨X, 5, none⟩ = some (.int .i64 o.n) ∧ W'.cell? ⟨X, 6, none⟩ = some (.int .i64 o.m) ∧ W'.cell? ⟨X, 7, none⟩ = some (.slice A d.length c))) := Lib.hid (fun W' h => by
    have hc : ∀ j, W'.cell? ⟨X, j, none⟩ = (#[Value.int .i64 o.k, .int .i64 o.t, .int .i64 o.a, .int .i64 o.b, .int .i64 o.v, .int .i64 o.n, .int .i64 o.m, .slice A d.length c] : Array Value)[j]? := fun j => cell_of_row _ _ j _ _ _ ((h.block X hXz).trans hb1)
    exact ⟨hc 0, hc 1, hc 2, hc 3, hc 4, hc 5, hc 6, hc 7⟩)
  have HXz := Lib.hid hXz
  try rw [hX]
  have HXX := Lib.hid hX
  clear hB1 hb1 hX
  by_cases hl0 : l = []
  · subst hl0
    go_wp2_with fail
    with_reducible refine Calls.mono (trSame _ _ [] [] w1 true (ops_e _ _ _) (ops_nil _) (by simp) (by simp) (by simp)) ?_
    rintro e w2 ⟨rfl, hB2⟩
    obtain ⟨q0, q1, q2, q3, q4, q5, q6, q7⟩ := HXC.out w2 hB2
    have HW2 : Hid (Below w.heap.size w w2) := Lib.hid (HW1.out.trans (hB2.mono HW1.out.size))
    clear hB2
    go_wp2_with fail
    with_reducible refine Calls.mono (trSame _ _ [] [⟨o, d, _⟩] _ false (ops_e _ _ _) (ops_one w2 o d _ _ (HD0.out.keep HW2.out) HOK.out) (by simp) (by simpa using HDB.out) (by simp [odOf])) ?_
    rintro e w3 ⟨rfl, hB3⟩
    have HW3 : Hid (Below w.heap.size w w3) := Lib.hid (HW2.out.trans ((thn (alc0 _ _) hB3).mono HW2.out.size))
    go_wp2
    go_ret
    exact ⟨rfl, HW3.out⟩
  · have hpos : 0 < l.length := by
      have := List.length_pos_iff.2 hl0
      exact this
    obtain ⟨p0, hp0⟩ : ∃ p, l[0]? = some p := ⟨_, List.getElem?_eq_getElem hpos⟩
    obtain ⟨b, off, c0', e0, hbz, -⟩ := HO0.out.cell 0 p0 hp0
    injection e0 with e0 el ec
    clear el
    subst e0
    subst ec
    have i0 : ¬ (l.length : Int) = 0 := by omega
    have hcap : l.length ≤ 9223372036854775807 := by obtain ⟨_, _, _, h, _⟩ := HO0.out; exact h
    clear hp0 hl0
    go_upto_region 5 with (fail)
    obtain ⟨m, hm0, hm1, hm2, hm3⟩ : ∃ m, 0 < m ∧ m ≤ l.length ∧ m ≤ 600 ∧ ((l.length ≤ 600 ∧ m = l.length) ∨ (600 < l.length ∧ m = 600)) := by
      by_cases h : l.length ≤ 600
      · exact ⟨l.length, hpos, Nat.le_refl _, by omega, .inl ⟨h, rfl⟩⟩
      · exact ⟨600, by omega, by omega, by omega, .inr ⟨by omega, rfl⟩⟩
    have HM6 := Lib.hid hm2
    have HMM := Lib.hid hm3
    clear hm2 hm3
    have HFL : Hid (((l.take m).flatMap enc8).length = m * 8) := Lib.hid (by rw [flat_len enc8 8 enc8_len, List.length_take, Nat.min_eq_left hm1])
    have hone1 : ∀ u ∈ (l.take m).flatMap enc8, u.oneCell' = true := flat_one (fun p hp => HO0.out.each p (List.mem_of_mem_take hp))
    have HON := Lib.hid hone1
    clear hone1
    go_cut [7] from 15 to 31 (fun v7 wx => ∃ bx A c, v7 = .slice A m c ∧ Hid (VO bx wx (.slice A m c) (l.take m)) ∧ Hid (w1.heap.size ≤ bx) ∧ Hid (Below w1.heap.size w1 wx))
    case first =>
      rcases HMM.out with ⟨h6, hmm⟩ | ⟨h6, hmm⟩
      · subst hmm
        have hc6 : (l.length : Int) ≤ c0 := by omega
        have h6' : (l.length : Int) ≤ 600 := by omega
        have h7' : ¬ (600 : Int) < l.length := by omega
        clear h6
        go_wp2_with (at_builtin; refine app_vz tyOp rfl _ _ rfl w1.heap.size (.slice (some ⟨w1.heap.size, 0, none⟩) 0 0) 0 [] rfl (vz_made 8 w1 _) ⟨b, off, none⟩ l.length c0 ((l.take l.length).flatMap enc8) (by first | rfl | simp [Act.eval, Act.put]) HFL.out ((HO0.out.keep (HW1.out.trans ((alc0 w1 _).mono HW1.out.size))).src l.length hm1) HON.out (.inl hm0) (by have := HM6.out; omega) ?_)
        rintro v' w' ⟨b', hb', hv, hs, ho, hl⟩
        have hv2 := hv
        obtain ⟨A', c', rfl, -⟩ := hv2
        have hb9 : Below w1.heap.size w1 w' := (alc0 w1 _).trans (hl _ (Nat.le_refl _) (by simp))
        have hb8 : w1.heap.size ≤ b' := by rcases hb' with rfl | h; exact Nat.le_refl _; simp at h; omega
        have hvo : VO b' w' (.slice A' l.length c') (l.take l.length) := by
          show VZ 8 b' w' _ (l.take l.length).length _
          rw [List.length_take, Nat.min_eq_left hm1]
          first | (simpa only [Nat.zero_add, List.nil_append] using hv; done) | (simpa only [Nat.zero_add, List.nil_append, List.take_length] using hv; done)
        clear hv hb' hs ho hl
        go_wp2_with fail
        go_meet
        exact ⟨b', A', c', by simp, Lib.hid hvo, Lib.hid hb8, Lib.hid hb9⟩
      · subst hmm
        have hc6 : (600 : Int) ≤ c0 := by omega
        have hc7 : 600 ≤ c0 := by omega
        have h6' : (600 : Int) < l.length := by omega
        have h7' : ¬ (l.length : Int) ≤ 600 := by omega
        clear h6
        go_wp2_with (at_builtin; refine app_vz tyOp rfl _ _ rfl w1.heap.size (.slice (some ⟨w1.heap.size, 0, none⟩) 0 0) 0 [] rfl (vz_made 8 w1 _) ⟨b, off, none⟩ 600 c0 ((l.take 600).flatMap enc8) (by first | rfl | simp [Act.eval, Act.put]) HFL.out ((HO0.out.keep (HW1.out.trans ((alc0 w1 _).mono HW1.out.size))).src 600 hm1) HON.out (.inl hm0) (by have := HM6.out; omega) ?_)
        rintro v' w' ⟨b', hb', hv, hs, ho, hl⟩
        have hv2 := hv
        obtain ⟨A', c', rfl, -⟩ := hv2
        have hb9 : Below w1.heap.size w1 w' := (alc0 w1 _).trans (hl _ (Nat.le_refl _) (by simp))
        have hb8 : w1.heap.size ≤ b' := by rcases hb' with rfl | h; exact Nat.le_refl _; simp at h; omega
        have hvo : VO b' w' (.slice A' 600 c') (l.take 600) := by
          show VZ 8 b' w' _ (l.take 600).length _
          rw [List.length_take, Nat.min_eq_left hm1]
          first | (simpa only [Nat.zero_add, List.nil_append] using hv; done) | (simpa only [Nat.zero_add, List.nil_append, List.take_length] using hv; done)
        clear hv hb' hs ho hl
        go_wp2_with fail
        go_meet
        exact ⟨b', A', c', by simp, Lib.hid hvo, Lib.hid hb8, Lib.hid hb9⟩
    case rest =>
      obtain ⟨bx, Ax, cx, rfl, HVX, HBX, HBW⟩ := hcut
      obtain ⟨ox, ex, hxz, hxat, hxsp, hcx⟩ : ∃ ox, Ax = some ⟨bx, ox, none⟩ ∧ bx < wc.heap.size ∧ At wc bx ox ((l.take m).flatMap enc8) ∧ (∀ i, i < cx * 8 → (wc.cell? ⟨bx, ox + i, none⟩).isSome = true ∧ wc.frozen? ⟨bx, ox + i, none⟩ = false) ∧ m ≤ cx := by
        obtain ⟨A', c', e, k1, k2, k3, k4, ⟨k5, k6, k7⟩ | ⟨off', k5, k6, k7, k8⟩⟩ := HVX.out
        · rw [List.length_take, Nat.min_eq_left hm1] at k6; omega
        · injection e with e1 e2 e3
          rw [e1, e3]
          rw [List.length_take, Nat.min_eq_left hm1] at k2
          exact ⟨off', k5, k6, k7, k8, k2⟩
      subst ex
      have HXAT := Lib.hid hxat
      have HWC : Hid (Below w.heap.size w wc) := Lib.hid (HW1.out.trans (HBW.out.mono HW1.out.size))
      clear hxat hxsp
      have f0 := and65535 at_
      obtain ⟨a0, ha0⟩ : ∃ a0 : Nat, at_ % 65536 = (a0 : Int) := ⟨(at_ % 65536).toNat, by have := Int.emod_nonneg at_ (show (65536 : Int) ≠ 0 by decide); omega⟩
      rw [ha0] at f0
      have ha9 : a0 < 65536 := by have := Int.emod_lt_of_pos at_ (show (0 : Int) < 65536 by decide); omega
      obtain ⟨K, hK⟩ : ∃ K, a0 % m = K := ⟨_, rfl⟩
      have hKm : K < m := by rw [← hK]; exact Nat.mod_lt _ hm0
      have f1 : (a0 : Int).tmod (m : Int) = (K : Int) := by rw [Int.tmod_eq_emod_of_nonneg (by omega), ← hK]; omega
      have f1' : (a0 : Int) % (m : Int) = (K : Int) := by rw [← hK]; omega
      have f2 : ¬ (m : Int) = 0 := by omega
      have hKK := Lib.hid hK
      clear hK ha0
      go_upto_region 7 with (fail)
      clear f0 f1 f1' ha9 hat hcap hpos f2
      go_wp2_with (at_builtin; refine app_vz tyOp rfl _ _ rfl wc.heap.size (.slice (some ⟨wc.heap.size, 0, none⟩) 0 0) 0 [] rfl (vz_made 8 wc _) ⟨bx, ox, none⟩ m cx ((l.take m).flatMap enc8) (by first | rfl | simp [Act.eval, Act.put]) HFL.out (fun j u hu => by rw [addp]; exact (World.cell?_of_block (Below.heap_alloc wc _ _ hxz)).trans (HXAT.out j u hu)) HON.out (.inl hm0) (by have := HM6.out; omega) ?_)
      rintro v9 w9 ⟨bz, hbz', hv, hs, ho, hl⟩
      have hv2 := hv
      obtain ⟨A', c', rfl, -⟩ := hv2
      have hb9 : Below wc.heap.size wc w9 := (alc0 wc _).trans (hl _ (Nat.le_refl _) (by simp))
      have hb8 : wc.heap.size ≤ bz := by rcases hbz' with rfl | h; exact Nat.le_refl _; simp at h; omega
      have hvo : VO bz w9 (.slice A' m c') (l.take m) := by
        show VZ 8 bz w9 _ (l.take m).length _
        rw [List.length_take, Nat.min_eq_left hm1]
        simpa only [Nat.zero_add, List.nil_append] using hv
      try simp only [Nat.zero_add]
      clear hv hbz' hs ho hl
      obtain ⟨oz, ez, hzz, hzat, hzsp, hcz⟩ : ∃ ox, A' = some ⟨bz, ox, none⟩ ∧ bz < w9.heap.size ∧ At w9 bz ox ((l.take m).flatMap enc8) ∧ (∀ i, i < c' * 8 → (w9.cell? ⟨bz, ox + i, none⟩).isSome = true ∧ w9.frozen? ⟨bz, ox + i, none⟩ = false) ∧ m ≤ c' := by
        obtain ⟨A', c', e, k1, k2, k3, k4, ⟨k5, k6, k7⟩ | ⟨off', k5, k6, k7, k8⟩⟩ := hvo
        · rw [List.length_take, Nat.min_eq_left hm1] at k6; omega
        · injection e with e1 e2 e3
          rw [e1, e3]
          rw [List.length_take, Nat.min_eq_left hm1] at k2
          exact ⟨off', k5, k6, k7, k8, k2⟩
      subst ez
      have HB9 := Lib.hid hb9
      have HB8 := Lib.hid hb8
      have HVO := Lib.hid hvo
      have gz : ∀ j, j < 8 → ∃ y, w9.cell? ⟨bz, oz + K * 8 + j, none⟩ = some y := fun j hj => by
        have h := (hzsp (K * 8 + j) (by omega)).1
        rw [← Nat.add_assoc] at h
        exact Option.isSome_iff_exists.1 h
      have gf : ∀ j, j < 8 → w9.frozen? ⟨bz, oz + K * 8 + j, none⟩ = false := fun j hj => by
        have h := (hzsp (K * 8 + j) (by omega)).2
        rwa [← Nat.add_assoc] at h
      obtain ⟨y0, z0⟩ := gz 0 (by decide)
      have g0 := gf 0 (by decide)
      obtain ⟨y1, z1⟩ := gz 1 (by decide)
      have g1 := gf 1 (by decide)
      obtain ⟨y2, z2⟩ := gz 2 (by decide)
      have g2 := gf 2 (by decide)
      obtain ⟨y3, z3⟩ := gz 3 (by decide)
      have g3 := gf 3 (by decide)
      obtain ⟨y4, z4⟩ := gz 4 (by decide)
      have g4 := gf 4 (by decide)
      obtain ⟨y5, z5⟩ := gz 5 (by decide)
      have g5 := gf 5 (by decide)
      obtain ⟨y6, z6⟩ := gz 6 (by decide)
      have g6 := gf 6 (by decide)
      obtain ⟨y7, z7⟩ := gz 7 (by decide)
      have g7 := gf 7 (by decide)
      simp only [Nat.add_zero] at z0 g0
      obtain ⟨q0, q1, q2, q3, q4, q5, q6, q7⟩ := HXC.out w9 (HBW.out.trans (hb9.mono HBW.out.size))
      have idk : (K : Int) < (m : Int) := by omega
      have HZAT := Lib.hid hzat
      clear gz gf hzat hzsp hb9 hb8 hvo
      go_upto_region 9 with (fail)
      obtain ⟨W10, hW10⟩ : ∃ W10, ((((((((w9.setCell ⟨bz, oz + K * 8, none⟩ (.int .i64 o.k)).setCell ⟨bz, oz + K * 8 + 1, none⟩ (.int .i64 o.t)).setCell ⟨bz, oz + K * 8 + 2, none⟩ (.int .i64 o.a)).setCell ⟨bz, oz + K * 8 + 3, none⟩ (.int .i64 o.b)).setCell ⟨bz, oz + K * 8 + 4, none⟩ (.int .i64 o.v)).setCell ⟨bz, oz + K * 8 + 5, none⟩ (.int .i64 o.n)).setCell ⟨bz, oz + K * 8 + 6, none⟩ (.int .i64 o.m)).setCell ⟨bz, oz + K * 8 + 7, none⟩ (.slice A d.length c)) = W10 := ⟨_, rfl⟩
      try rw [hW10]
      obtain ⟨hst1, hst2⟩ := VO.store (p := ⟨o, d, .slice A d.length c⟩) HVO.out (show K < (l.take m).length by rw [List.length_take, Nat.min_eq_left hm1]; exact hKm) (enc8_one (HD0.out))
      have e10 : setL bz (oz + K * 8) (enc8 ⟨o, d, .slice A d.length c⟩) w9 = W10 := hW10
      rw [e10] at hst1 hst2
      clear e10 hW10 z0 z1 z2 z3 z4 z5 z6 z7 g0 g1 g2 g3 g4 g5 g6 g7 q0 q1 q2 q3 q4 q5 q6 q7
      have hbw : w1.heap.size ≤ bz := by have := HBW.out.size; have := HB8.out; omega
      have h19 : Below w1.heap.size w1 w9 := HBW.out.trans (HB9.out.mono HBW.out.size)
      have h110 : Below w1.heap.size w1 W10 := h19.trans (hst2.2.2 _ hbw h19.size)
      have H110 := Lib.hid h110
      have HW10 : Hid (Below w.heap.size w W10) := Lib.hid (HW1.out.trans (h110.mono HW1.out.size))
      have hne : bx ≠ bz := by have := HB8.out; omega
      have hXO : VO bx W10 (.slice (some ⟨bx, ox, none⟩) m cx) (l.take m) := (VZ.below HVX.out HB9.out).keep hst2.1 (fun h => hst2.2.1 bx h hne)
      have HOX : Hid (OPS W10 (.slice (some ⟨bx, ox, none⟩) m cx) (l.take m)) := Lib.hid (ops_vo hXO (fun p hp => ⟨(HO0.out.each p (List.mem_of_mem_take hp)).1, (HO0.out.each p (List.mem_of_mem_take hp)).2.keep HW10.out⟩))
      have HOZ : Hid (OPS W10 (.slice (some ⟨bz, oz, none⟩) m c') ((l.take m).set K ⟨o, d, .slice A d.length c⟩)) := Lib.hid (ops_vo hst1 (fun p hp => by
        rcases List.mem_or_eq_of_mem_set hp with h | h
        · exact ⟨(HO0.out.each p (List.mem_of_mem_take h)).1, (HO0.out.each p (List.mem_of_mem_take h)).2.keep HW10.out⟩
        · rw [h]; exact ⟨HOK.out, HD0.out.keep HW10.out⟩))
      obtain ⟨p, hp⟩ : ∃ p, (l.take m)[K]? = some p := ⟨_, List.getElem?_eq_getElem (by rw [List.length_take, Nat.min_eq_left hm1]; exact hKm)⟩
      have hpl : p ∈ l := List.mem_of_mem_take (List.mem_of_getElem? hp)
      obtain ⟨bx', ox', cx', ex', hxz10, hxc, hxr, hxk⟩ := HOX.out.cell K p hp
      injection ex' with ex' el ec
      clear el ec
      injection ex' with ex'
      injection ex' with eb eo es
      clear es
      subst eb
      subst eo
      obtain ⟨Ap, cp, edv, hdl, -⟩ := hxr
      have HPR0 : Hid (RD w (.slice Ap p.d.length cp) p.d) := Lib.hid (by rw [← edv]; exact (HO0.out.each p hpl).2)
      have HPR : Hid (RD W10 (.slice Ap p.d.length cp) p.d) := Lib.hid (HPR0.out.keep HW10.out)
      have HPK := Lib.hid hxk
      have HPB : Hid (∀ x ∈ p.d, x < 256) := Lib.hid (HL.out p hpl)
      obtain ⟨T, hT⟩ : ∃ T : Bool, T = true ↔ (p.o = o ∧ p.d = d) := by
        by_cases h : p.o = o ∧ p.d = d
        · exact ⟨true, by simp [h]⟩
        · exact ⟨false, by simp; intro h1 h2; exact h ⟨h1, h2⟩⟩
      have HT := Lib.hid hT
      have HP := Lib.hid hp
      have HDL := Lib.hid hdl
      obtain ⟨x0, x1, x2, x3, x4, x5, x6, x7⟩ := hxc
      rw [edv] at x7
      have q := HXC.out W10 h110
      obtain ⟨q0, q1, q2, q3, q4, q5, q6, q7⟩ := q
      have HZ : Hid (bx < W10.heap.size ∧ X < W10.heap.size) := Lib.hid ⟨hxz10, Nat.lt_of_lt_of_le HXz.out h110.size⟩
      have HXB : Hid (∀ p ∈ l.take m, ∀ x ∈ p.d, x < 256) := Lib.hid (fun p hp => HL.out p (List.mem_of_mem_take hp))
      have HZB : Hid (∀ q ∈ (l.take m).set K ⟨o, d, .slice A d.length c⟩, ∀ x ∈ q.d, x < 256) := Lib.hid (fun q hq => by
        rcases List.mem_or_eq_of_mem_set hq with h | h
        · exact HL.out q (List.mem_of_mem_take h)
        · rw [h]; exact HDB.out)
      have im1 : (1 : Int) ≤ (m : Int) := by omega
      obtain ⟨Aq, hAq, hAq2⟩ : ∃ Aq : Option Addr, (if cx = 1 then some (⟨bx, ox, none⟩ : Addr) else some ⟨bx, ox + 8, none⟩) = Aq ∧ (1 < m → Aq = some ⟨bx, ox + 8, none⟩) := ⟨_, rfl, fun h => if_neg (by omega)⟩
      have hlm : (l.take m).length = m := by rw [List.length_take, Nat.min_eq_left hm1]
      have HOD : Hid (OPS W10 (.slice Aq (m - 1) (cx - 1)) ((l.take m).drop 1)) := Lib.hid (by
        have h := ops_drop HOX.out Aq (cx - 1) (by rw [hlm]; exact hAq2)
        rwa [List.length_drop, hlm] at h)
      have HNE : Hid (false = true ↔ odOf (l.take m) = odOf ((l.take m).drop 1)) := Lib.hid (by
        constructor
        · intro h; cases h
        · intro h
          have := congrArg List.length h
          simp only [odOf, List.length_map, List.length_drop, hlm] at this
          omega)
      have HDB2 : Hid (∀ p ∈ (l.take m).drop 1, ∀ x ∈ p.d, x < 256) := Lib.hid (fun p hp => HL.out p (List.mem_of_mem_take (List.mem_of_mem_drop hp)))
      clear hAq2 hlm
      have HBASE : Hid (Below W10.heap.size W10 W10) := Lib.hid (Below.refl _ _)
      clear hst1 hst2 hbw h19 h110 hXO hxz10 hxk edv hT hp hdl hxz hzz
      have id1 : decide ((K : Int) < (m : Int)) = true := decide_eq_true idk
      have id0 : (0 : Int) ≤ K := by omega
      have id2 : decide (K < m) = true := decide_eq_true hKm
      refine wp_region_held_drew (S := fun w' => w'.cell? ⟨bx, ox + K * 8, none⟩ = some (.int .i64 p.o.k) ∧ w'.cell? ⟨bx, ox + K * 8 + 1, none⟩ = some (.int .i64 p.o.t) ∧ w'.cell? ⟨bx, ox + K * 8 + 2, none⟩ = some (.int .i64 p.o.a) ∧ w'.cell? ⟨bx, ox + K * 8 + 3, none⟩ = some (.int .i64 p.o.b) ∧ w'.cell? ⟨bx, ox + K * 8 + 4, none⟩ = some (.int .i64 p.o.v) ∧ w'.cell? ⟨bx, ox + K * 8 + 5, none⟩ = some (.int .i64 p.o.n) ∧ w'.cell? ⟨bx, ox + K * 8 + 6, none⟩ = some (.int .i64 p.o.m) ∧ w'.cell? ⟨bx, ox + K * 8 + 7, none⟩ = some (.slice Ap p.d.length cp) ∧ w'.cell? ⟨X, 0, none⟩ = some (.int .i64 o.k) ∧ w'.cell? ⟨X, 1, none⟩ = some (.int .i64 o.t) ∧ w'.cell? ⟨X, 2, none⟩ = some (.int .i64 o.a) ∧ w'.cell? ⟨X, 3, none⟩ = some (.int .i64 o.b) ∧ w'.cell? ⟨X, 4, none⟩ = some (.int .i64 o.v) ∧ w'.cell? ⟨X, 5, none⟩ = some (.int .i64 o.n) ∧ w'.cell? ⟨X, 6, none⟩ = some (.int .i64 o.m) ∧ w'.cell? ⟨X, 7, none⟩ = some (.slice A d.length c) ∧ Hid (Below W10.heap.size W10 w')) (by kernel_rfl) ?_ (fun hHeld => ?_)
      · exact ⟨x0, x1, x2, x3, x4, x5, x6, x7, q0, q1, q2, q3, q4, q5, q6, q7, Lib.hid (Below.refl _ _).drew⟩
      clear x0 x1 x2 x3 x4 x5 x6 x7 q0 q1 q2 q3 q4 q5 q6 q7
      refine wpAnyH_take (i := 0) (v := ?_) rfl (by kernel_rfl) (by kernel_rfl) (by kernel_rfl) (fun _ _ _ h => h) (Or.inl ⟨by kernel_rfl, ?_⟩) (by assumption) ?_
      rotate_left
      · (intro w hSw; (try dsimp only at hSw); go_simp)
        try (with_reducible rfl)
      rotate_left
      try simp (maxSteps := 4000000) only [Act.put, List.setIfInBounds_toArray, List.set_cons_zero, List.set_cons_succ, List.getElem_toArray, List.getElem_cons_zero, List.getElem_cons_succ]
      refine wpAnyH_take (i := 1) (v := ?_) rfl (by kernel_rfl) (by kernel_rfl) (by kernel_rfl) (fun _ _ _ h => h) (Or.inl ⟨by kernel_rfl, ?_⟩) (by assumption) ?_
      rotate_left
      · (intro w hSw; (try dsimp only at hSw); go_simp)
        try (with_reducible rfl)
      rotate_left
      try simp (maxSteps := 4000000) only [Act.put, List.setIfInBounds_toArray, List.set_cons_zero, List.set_cons_succ, List.getElem_toArray, List.getElem_cons_zero, List.getElem_cons_succ]
      refine wpAnyH_take (i := 2) (v := ?_) rfl (by kernel_rfl) (by kernel_rfl) (by kernel_rfl) (fun _ _ _ h => h) (Or.inl ⟨by kernel_rfl, ?_⟩) (by assumption) ?_
      rotate_left
      · (intro w hSw; (try dsimp only at hSw); go_simp)
        try (with_reducible rfl)
      rotate_left
      try simp (maxSteps := 4000000) only [Act.put, List.setIfInBounds_toArray, List.set_cons_zero, List.set_cons_succ, List.getElem_toArray, List.getElem_cons_zero, List.getElem_cons_succ]
      refine wpAnyH_take (i := 3) (v := ?_) rfl (by kernel_rfl) (by kernel_rfl) (by kernel_rfl) (fun _ _ _ h => h) (Or.inl ⟨by kernel_rfl, ?_⟩) (by assumption) ?_
      rotate_left
      · (intro w hSw; (try dsimp only at hSw); go_simp)
        try (with_reducible rfl)
      rotate_left
      try simp (maxSteps := 4000000) only [Act.put, List.setIfInBounds_toArray, List.set_cons_zero, List.set_cons_succ, List.getElem_toArray, List.getElem_cons_zero, List.getElem_cons_succ]
      refine wpAnyH_take (i := 4) (v := ?_) rfl (by kernel_rfl) (by kernel_rfl) (by kernel_rfl) (fun _ _ _ h => h) (Or.inl ⟨by kernel_rfl, ?_⟩) (by assumption) ?_
      rotate_left
      · (intro w hSw; (try dsimp only at hSw); go_simp)
        try (with_reducible rfl)
      rotate_left
      try simp (maxSteps := 4000000) only [Act.put, List.setIfInBounds_toArray, List.set_cons_zero, List.set_cons_succ, List.getElem_toArray, List.getElem_cons_zero, List.getElem_cons_succ]
      refine wpAnyH_ready (rs := [5]) (by kernel_rfl) (by simp) ?_
      refine AllReadyH.cons rfl (fun K2 hK2 => ?_) AllReadyH.nil
      go_simp
      have HBC := Lib.hid (HBASE.out.trans (hHeld.2.2.2.2.2.2.2.2.2.2.2.2.2.2.2.2.out.mono HBASE.out.size))
      with_reducible refine Calls.mono (refSame p.o o _ _ p.d d _ T (HPR.out.keep HBC.out) ((HD0.out.keep HW10.out).keep HBC.out) HPB.out HDB.out HT.out) ?_
      rintro e w11 ⟨rfl, hB11⟩

      refine hK2.out _ _ ?_ (fun hHeld2 => ?_)
      · have hzx := Nat.lt_of_lt_of_le HZ.out.1 (HBASE.out.trans (hHeld.2.2.2.2.2.2.2.2.2.2.2.2.2.2.2.2.out.mono HBASE.out.size)).size
        have hzX := Nat.lt_of_lt_of_le HZ.out.2 (HBASE.out.trans (hHeld.2.2.2.2.2.2.2.2.2.2.2.2.2.2.2.2.out.mono HBASE.out.size)).size
        exact ⟨(hB11.cell (p := ⟨bx, ox + K * 8, none⟩) hzx).trans hHeld.1, (hB11.cell (p := ⟨bx, ox + K * 8 + 1, none⟩) hzx).trans hHeld.2.1, (hB11.cell (p := ⟨bx, ox + K * 8 + 2, none⟩) hzx).trans hHeld.2.2.1, (hB11.cell (p := ⟨bx, ox + K * 8 + 3, none⟩) hzx).trans hHeld.2.2.2.1, (hB11.cell (p := ⟨bx, ox + K * 8 + 4, none⟩) hzx).trans hHeld.2.2.2.2.1, (hB11.cell (p := ⟨bx, ox + K * 8 + 5, none⟩) hzx).trans hHeld.2.2.2.2.2.1, (hB11.cell (p := ⟨bx, ox + K * 8 + 6, none⟩) hzx).trans hHeld.2.2.2.2.2.2.1, (hB11.cell (p := ⟨bx, ox + K * 8 + 7, none⟩) hzx).trans hHeld.2.2.2.2.2.2.2.1, (hB11.cell (p := ⟨X, 0, none⟩) hzX).trans hHeld.2.2.2.2.2.2.2.2.1, (hB11.cell (p := ⟨X, 1, none⟩) hzX).trans hHeld.2.2.2.2.2.2.2.2.2.1, (hB11.cell (p := ⟨X, 2, none⟩) hzX).trans hHeld.2.2.2.2.2.2.2.2.2.2.1, (hB11.cell (p := ⟨X, 3, none⟩) hzX).trans hHeld.2.2.2.2.2.2.2.2.2.2.2.1, (hB11.cell (p := ⟨X, 4, none⟩) hzX).trans hHeld.2.2.2.2.2.2.2.2.2.2.2.2.1, (hB11.cell (p := ⟨X, 5, none⟩) hzX).trans hHeld.2.2.2.2.2.2.2.2.2.2.2.2.2.1, (hB11.cell (p := ⟨X, 6, none⟩) hzX).trans hHeld.2.2.2.2.2.2.2.2.2.2.2.2.2.2.1, (hB11.cell (p := ⟨X, 7, none⟩) hzX).trans hHeld.2.2.2.2.2.2.2.2.2.2.2.2.2.2.2.1, Lib.hid (thn hHeld.2.2.2.2.2.2.2.2.2.2.2.2.2.2.2.2.out hB11)⟩
      clear hB11
      clear hK2 K2 hHeld
      have hHeld := hHeld2
      clear hHeld2
      try simp (maxSteps := 4000000) only [Act.put, List.setIfInBounds_toArray, List.set_cons_zero, List.set_cons_succ]
      refine wpAnyH_take (i := 6) (v := ?_) rfl (by kernel_rfl) (by kernel_rfl) (by kernel_rfl) (fun _ _ _ h => h) (Or.inl ⟨by kernel_rfl, ?_⟩) (by assumption) ?_
      rotate_left
      · (intro w hSw; (try dsimp only at hSw); go_simp)
        try (with_reducible rfl)
      rotate_left
      try simp (maxSteps := 4000000) only [Act.put, List.setIfInBounds_toArray, List.set_cons_zero, List.set_cons_succ, List.getElem_toArray, List.getElem_cons_zero, List.getElem_cons_succ]
      refine wpAnyH_done (by kernel_rfl) ?_ _
      have HH := Lib.hid hHeld
      clear hHeld HBC
      go_upto_region 10 with (fail)
      have HBASE2 : Hid (Below W10.heap.size W10 w11) := Lib.hid (HH.out.2.2.2.2.2.2.2.2.2.2.2.2.2.2.2.2.out)
      clear HBASE
      have HBASE := HBASE2
      clear HBASE2
      obtain ⟨x0, x1, x2, x3, x4, x5, x6, x7, q0, q1, q2, q3, q4, q5, q6, q7, _⟩ := HH.out
      clear HH
      have HEQ : Hid (((bs (oneB p.o p.d)).toList == (bs (oneB o d)).toList) = T) := Lib.hid (by
        rw [bs_eq _ _ (oneB_lt _ _ HPB.out) (oneB_lt _ _ HDB.out)]
        have h1 := oneB_inj HPK.out HOK.out HDL.out (show d.length ≤ 140737488351232 by obtain ⟨_, _, _, h, _⟩ := HD0.out; exact h)
        have h2 := HT.out
        cases T with
        | true => exact decide_eq_true (h1.2 (h2.1 rfl))
        | false => exact decide_eq_false (fun h => by have := h2.2 (h1.1 h); cases this))
      refine wp_region_held_drew (S := fun w' => w'.cell? ⟨bx, ox + K * 8, none⟩ = some (.int .i64 p.o.k) ∧ w'.cell? ⟨bx, ox + K * 8 + 1, none⟩ = some (.int .i64 p.o.t) ∧ w'.cell? ⟨bx, ox + K * 8 + 2, none⟩ = some (.int .i64 p.o.a) ∧ w'.cell? ⟨bx, ox + K * 8 + 3, none⟩ = some (.int .i64 p.o.b) ∧ w'.cell? ⟨bx, ox + K * 8 + 4, none⟩ = some (.int .i64 p.o.v) ∧ w'.cell? ⟨bx, ox + K * 8 + 5, none⟩ = some (.int .i64 p.o.n) ∧ w'.cell? ⟨bx, ox + K * 8 + 6, none⟩ = some (.int .i64 p.o.m) ∧ w'.cell? ⟨bx, ox + K * 8 + 7, none⟩ = some (.slice Ap p.d.length cp) ∧ w'.cell? ⟨X, 0, none⟩ = some (.int .i64 o.k) ∧ w'.cell? ⟨X, 1, none⟩ = some (.int .i64 o.t) ∧ w'.cell? ⟨X, 2, none⟩ = some (.int .i64 o.a) ∧ w'.cell? ⟨X, 3, none⟩ = some (.int .i64 o.b) ∧ w'.cell? ⟨X, 4, none⟩ = some (.int .i64 o.v) ∧ w'.cell? ⟨X, 5, none⟩ = some (.int .i64 o.n) ∧ w'.cell? ⟨X, 6, none⟩ = some (.int .i64 o.m) ∧ w'.cell? ⟨X, 7, none⟩ = some (.slice A d.length c) ∧ Hid (Below w11.heap.size w11 w')) (by kernel_rfl) ?_ (fun hHeld => ?_)
      · exact ⟨x0, x1, x2, x3, x4, x5, x6, x7, q0, q1, q2, q3, q4, q5, q6, q7, Lib.hid (Below.refl _ _).drew⟩
      clear x0 x1 x2 x3 x4 x5 x6 x7 q0 q1 q2 q3 q4 q5 q6 q7
      refine wpAnyH_take (i := 0) (v := ?_) rfl (by kernel_rfl) (by kernel_rfl) (by kernel_rfl) (fun _ _ _ h => h) (Or.inl ⟨by kernel_rfl, ?_⟩) (by assumption) ?_
      rotate_left
      · (intro w hSw; (try dsimp only at hSw); go_simp)
        try (with_reducible rfl)
      rotate_left
      try simp (maxSteps := 4000000) only [Act.put, List.setIfInBounds_toArray, List.set_cons_zero, List.set_cons_succ, List.getElem_toArray, List.getElem_cons_zero, List.getElem_cons_succ]
      refine wpAnyH_take (i := 2) (v := ?_) rfl (by kernel_rfl) (by kernel_rfl) (by kernel_rfl) (fun _ _ _ h => h) (Or.inl ⟨by kernel_rfl, ?_⟩) (by assumption) ?_
      rotate_left
      · (intro w hSw; (try dsimp only at hSw); go_simp)
        try (with_reducible rfl)
      rotate_left
      try simp (maxSteps := 4000000) only [Act.put, List.setIfInBounds_toArray, List.set_cons_zero, List.set_cons_succ, List.getElem_toArray, List.getElem_cons_zero, List.getElem_cons_succ]
      refine wpAnyH_ready (rs := [1]) (by kernel_rfl) (by simp) ?_
      refine AllReadyH.cons rfl (fun K2 hK2 => ?_) AllReadyH.nil
      go_simp
      refine hK2.out _ _ ?_ (fun hHeld2 => ?_)
      · have hzx := Nat.lt_of_lt_of_le HZ.out.1 (HBASE.out.trans (hHeld.2.2.2.2.2.2.2.2.2.2.2.2.2.2.2.2.out.mono HBASE.out.size)).size
        have hzX := Nat.lt_of_lt_of_le HZ.out.2 (HBASE.out.trans (hHeld.2.2.2.2.2.2.2.2.2.2.2.2.2.2.2.2.out.mono HBASE.out.size)).size
        exact ⟨((alc0 _ _).cell (p := ⟨bx, ox + K * 8, none⟩) hzx).trans hHeld.1, ((alc0 _ _).cell (p := ⟨bx, ox + K * 8 + 1, none⟩) hzx).trans hHeld.2.1, ((alc0 _ _).cell (p := ⟨bx, ox + K * 8 + 2, none⟩) hzx).trans hHeld.2.2.1, ((alc0 _ _).cell (p := ⟨bx, ox + K * 8 + 3, none⟩) hzx).trans hHeld.2.2.2.1, ((alc0 _ _).cell (p := ⟨bx, ox + K * 8 + 4, none⟩) hzx).trans hHeld.2.2.2.2.1, ((alc0 _ _).cell (p := ⟨bx, ox + K * 8 + 5, none⟩) hzx).trans hHeld.2.2.2.2.2.1, ((alc0 _ _).cell (p := ⟨bx, ox + K * 8 + 6, none⟩) hzx).trans hHeld.2.2.2.2.2.2.1, ((alc0 _ _).cell (p := ⟨bx, ox + K * 8 + 7, none⟩) hzx).trans hHeld.2.2.2.2.2.2.2.1, ((alc0 _ _).cell (p := ⟨X, 0, none⟩) hzX).trans hHeld.2.2.2.2.2.2.2.2.1, ((alc0 _ _).cell (p := ⟨X, 1, none⟩) hzX).trans hHeld.2.2.2.2.2.2.2.2.2.1, ((alc0 _ _).cell (p := ⟨X, 2, none⟩) hzX).trans hHeld.2.2.2.2.2.2.2.2.2.2.1, ((alc0 _ _).cell (p := ⟨X, 3, none⟩) hzX).trans hHeld.2.2.2.2.2.2.2.2.2.2.2.1, ((alc0 _ _).cell (p := ⟨X, 4, none⟩) hzX).trans hHeld.2.2.2.2.2.2.2.2.2.2.2.2.1, ((alc0 _ _).cell (p := ⟨X, 5, none⟩) hzX).trans hHeld.2.2.2.2.2.2.2.2.2.2.2.2.2.1, ((alc0 _ _).cell (p := ⟨X, 6, none⟩) hzX).trans hHeld.2.2.2.2.2.2.2.2.2.2.2.2.2.2.1, ((alc0 _ _).cell (p := ⟨X, 7, none⟩) hzX).trans hHeld.2.2.2.2.2.2.2.2.2.2.2.2.2.2.2.1, Lib.hid (thn hHeld.2.2.2.2.2.2.2.2.2.2.2.2.2.2.2.2.out (alc0 _ _))⟩
      clear hK2 K2 hHeld
      have hHeld := hHeld2
      clear hHeld2
      try simp (maxSteps := 4000000) only [Act.put, List.setIfInBounds_toArray, List.set_cons_zero, List.set_cons_succ]
      refine wpAnyH_ready (rs := [3]) (by kernel_rfl) (by simp) ?_
      refine AllReadyH.cons rfl (fun K2 hK2 => ?_) AllReadyH.nil
      have HBC := Lib.hid (HBASE.out.trans (hHeld.2.2.2.2.2.2.2.2.2.2.2.2.2.2.2.2.out.mono HBASE.out.size))
      have hzx9 : bx < w11.heap.size := Nat.lt_of_lt_of_le HZ.out.1 HBASE.out.size
      have hzX9 : X < w11.heap.size := Nat.lt_of_lt_of_le HZ.out.2 HBASE.out.size
      refine step_app_vz tyOp rfl (.tmp 51) (.tmp 52) rfl w11.heap.size (.slice (some ⟨w11.heap.size, 0, none⟩) 0 0) 0 [] (by simp [Act.eval, Act.put]) (vz_made 8 w11.drew _) ⟨bx, ox, none⟩ m cx ((l.take m).flatMap enc8) (by simp [Act.eval, Act.put]) HFL.out ((HOX.out.keep HBC.out).src_all) HON.out (by have := HM6.out; omega) ?_
      rintro v20 w20 ⟨b20, hb20, hv20, hs20, ho20, hl20⟩ hnn
      have hb21 : Below w11.heap.size _ w20 := hl20 _ (Nat.le_refl _) (by simp)
      have hB20 : Below w11.heap.size w11 w20 := hHeld.2.2.2.2.2.2.2.2.2.2.2.2.2.2.2.2.out.trans hb21
      have hvo20 : VO b20 w20 v20 (l.take m) := by
        show VZ 8 b20 w20 _ (l.take m).length _
        rw [List.length_take, Nat.min_eq_left hm1]
        simpa only [Nat.zero_add, List.nil_append] using hv20
      have HB20 : Hid (Below W10.heap.size W10 w20) := Lib.hid (HBASE.out.trans (hB20.mono HBASE.out.size))
      have HOQ : Hid (OPS w20 v20 (l.take m)) := Lib.hid (ops_vo hvo20 (fun p hp => ⟨(HO0.out.each p (List.mem_of_mem_take hp)).1, ((HO0.out.each p (List.mem_of_mem_take hp)).2.keep HW10.out).keep HB20.out⟩))
      refine hK2.out _ _ ?_ (fun hHeld2 => ?_)
      · exact ⟨(hb21.cell (p := ⟨bx, ox + K * 8, none⟩) hzx9).trans hHeld.1, (hb21.cell (p := ⟨bx, ox + K * 8 + 1, none⟩) hzx9).trans hHeld.2.1, (hb21.cell (p := ⟨bx, ox + K * 8 + 2, none⟩) hzx9).trans hHeld.2.2.1, (hb21.cell (p := ⟨bx, ox + K * 8 + 3, none⟩) hzx9).trans hHeld.2.2.2.1, (hb21.cell (p := ⟨bx, ox + K * 8 + 4, none⟩) hzx9).trans hHeld.2.2.2.2.1, (hb21.cell (p := ⟨bx, ox + K * 8 + 5, none⟩) hzx9).trans hHeld.2.2.2.2.2.1, (hb21.cell (p := ⟨bx, ox + K * 8 + 6, none⟩) hzx9).trans hHeld.2.2.2.2.2.2.1, (hb21.cell (p := ⟨bx, ox + K * 8 + 7, none⟩) hzx9).trans hHeld.2.2.2.2.2.2.2.1, (hb21.cell (p := ⟨X, 0, none⟩) hzX9).trans hHeld.2.2.2.2.2.2.2.2.1, (hb21.cell (p := ⟨X, 1, none⟩) hzX9).trans hHeld.2.2.2.2.2.2.2.2.2.1, (hb21.cell (p := ⟨X, 2, none⟩) hzX9).trans hHeld.2.2.2.2.2.2.2.2.2.2.1, (hb21.cell (p := ⟨X, 3, none⟩) hzX9).trans hHeld.2.2.2.2.2.2.2.2.2.2.2.1, (hb21.cell (p := ⟨X, 4, none⟩) hzX9).trans hHeld.2.2.2.2.2.2.2.2.2.2.2.2.1, (hb21.cell (p := ⟨X, 5, none⟩) hzX9).trans hHeld.2.2.2.2.2.2.2.2.2.2.2.2.2.1, (hb21.cell (p := ⟨X, 6, none⟩) hzX9).trans hHeld.2.2.2.2.2.2.2.2.2.2.2.2.2.2.1, (hb21.cell (p := ⟨X, 7, none⟩) hzX9).trans hHeld.2.2.2.2.2.2.2.2.2.2.2.2.2.2.2.1, Lib.hid hB20⟩
      clear hb20 hv20 hs20 ho20 hl20 hnn hb21 hB20 hvo20
      clear hK2 K2 hHeld
      have hHeld := hHeld2
      clear hHeld2
      try simp (maxSteps := 4000000) only [Act.put, List.setIfInBounds_toArray, List.set_cons_zero, List.set_cons_succ]
      refine wpAnyH_ready (rs := [4]) (by kernel_rfl) (by simp) ?_
      refine AllReadyH.cons rfl (fun K2 hK2 => ?_) AllReadyH.nil
      go_simp
      have HBC := Lib.hid (HBASE.out.trans (hHeld.2.2.2.2.2.2.2.2.2.2.2.2.2.2.2.2.out.mono HBASE.out.size))
      with_reducible refine Calls.mono (trSame _ _ (l.take m) (l.take m) _ true (HOX.out.keep HBC.out) HOQ.out HXB.out HXB.out (by simp)) ?_
      rintro e w21 ⟨rfl, hB21⟩

      refine hK2.out _ _ ?_ (fun hHeld2 => ?_)
      · have hzx := Nat.lt_of_lt_of_le HZ.out.1 (HBASE.out.trans (hHeld.2.2.2.2.2.2.2.2.2.2.2.2.2.2.2.2.out.mono HBASE.out.size)).size
        have hzX := Nat.lt_of_lt_of_le HZ.out.2 (HBASE.out.trans (hHeld.2.2.2.2.2.2.2.2.2.2.2.2.2.2.2.2.out.mono HBASE.out.size)).size
        exact ⟨(hB21.cell (p := ⟨bx, ox + K * 8, none⟩) hzx).trans hHeld.1, (hB21.cell (p := ⟨bx, ox + K * 8 + 1, none⟩) hzx).trans hHeld.2.1, (hB21.cell (p := ⟨bx, ox + K * 8 + 2, none⟩) hzx).trans hHeld.2.2.1, (hB21.cell (p := ⟨bx, ox + K * 8 + 3, none⟩) hzx).trans hHeld.2.2.2.1, (hB21.cell (p := ⟨bx, ox + K * 8 + 4, none⟩) hzx).trans hHeld.2.2.2.2.1, (hB21.cell (p := ⟨bx, ox + K * 8 + 5, none⟩) hzx).trans hHeld.2.2.2.2.2.1, (hB21.cell (p := ⟨bx, ox + K * 8 + 6, none⟩) hzx).trans hHeld.2.2.2.2.2.2.1, (hB21.cell (p := ⟨bx, ox + K * 8 + 7, none⟩) hzx).trans hHeld.2.2.2.2.2.2.2.1, (hB21.cell (p := ⟨X, 0, none⟩) hzX).trans hHeld.2.2.2.2.2.2.2.2.1, (hB21.cell (p := ⟨X, 1, none⟩) hzX).trans hHeld.2.2.2.2.2.2.2.2.2.1, (hB21.cell (p := ⟨X, 2, none⟩) hzX).trans hHeld.2.2.2.2.2.2.2.2.2.2.1, (hB21.cell (p := ⟨X, 3, none⟩) hzX).trans hHeld.2.2.2.2.2.2.2.2.2.2.2.1, (hB21.cell (p := ⟨X, 4, none⟩) hzX).trans hHeld.2.2.2.2.2.2.2.2.2.2.2.2.1, (hB21.cell (p := ⟨X, 5, none⟩) hzX).trans hHeld.2.2.2.2.2.2.2.2.2.2.2.2.2.1, (hB21.cell (p := ⟨X, 6, none⟩) hzX).trans hHeld.2.2.2.2.2.2.2.2.2.2.2.2.2.2.1, (hB21.cell (p := ⟨X, 7, none⟩) hzX).trans hHeld.2.2.2.2.2.2.2.2.2.2.2.2.2.2.2.1, Lib.hid (thn hHeld.2.2.2.2.2.2.2.2.2.2.2.2.2.2.2.2.out hB21)⟩
      clear hB21
      clear hK2 K2 hHeld
      have hHeld := hHeld2
      clear hHeld2
      try simp (maxSteps := 4000000) only [Act.put, List.setIfInBounds_toArray, List.set_cons_zero, List.set_cons_succ]
      refine wpAnyH_take (i := 5) (v := ?_) rfl (by kernel_rfl) (by kernel_rfl) (by kernel_rfl) (fun _ _ _ h => h) (Or.inl ⟨by kernel_rfl, ?_⟩) (by assumption) ?_
      rotate_left
      · (intro w hSw; (try dsimp only at hSw); go_simp)
        try (with_reducible rfl)
      rotate_left
      try simp (maxSteps := 4000000) only [Act.put, List.setIfInBounds_toArray, List.set_cons_zero, List.set_cons_succ, List.getElem_toArray, List.getElem_cons_zero, List.getElem_cons_succ]
      refine wpAnyH_take (i := 6) (v := ?_) rfl (by kernel_rfl) (by kernel_rfl) (by kernel_rfl) (fun _ _ _ h => h) (Or.inl ⟨by kernel_rfl, ?_⟩) (by assumption) ?_
      rotate_left
      · (intro w hSw; (try dsimp only at hSw); go_simp)
        try (with_reducible rfl)
      rotate_left
      try simp (maxSteps := 4000000) only [Act.put, List.setIfInBounds_toArray, List.set_cons_zero, List.set_cons_succ, List.getElem_toArray, List.getElem_cons_zero, List.getElem_cons_succ]
      refine wpAnyH_take (i := 7) (v := ?_) rfl (by kernel_rfl) (by kernel_rfl) (by kernel_rfl) (fun _ _ _ h => h) (Or.inl ⟨by kernel_rfl, ?_⟩) (by assumption) ?_
      rotate_left
      · (intro w hSw; (try dsimp only at hSw); go_simp)
        try (with_reducible rfl)
      rotate_left
      try simp (maxSteps := 4000000) only [Act.put, List.setIfInBounds_toArray, List.set_cons_zero, List.set_cons_succ, List.getElem_toArray, List.getElem_cons_zero, List.getElem_cons_succ]
      refine wpAnyH_take (i := 9) (v := ?_) rfl (by kernel_rfl) (by kernel_rfl) (by kernel_rfl) (fun _ _ _ h => h) (Or.inl ⟨by kernel_rfl, ?_⟩) (by assumption) ?_
      rotate_left
      · (intro w hSw; (try dsimp only at hSw); go_simp)
        try (with_reducible rfl)
      rotate_left
      try simp (maxSteps := 4000000) only [Act.put, List.setIfInBounds_toArray, List.set_cons_zero, List.set_cons_succ, List.getElem_toArray, List.getElem_cons_zero, List.getElem_cons_succ]
      refine wpAnyH_ready (rs := [8]) (by kernel_rfl) (by simp) ?_
      refine AllReadyH.cons rfl (fun K2 hK2 => ?_) AllReadyH.nil
      go_simp
      have HBC := Lib.hid (HBASE.out.trans (hHeld.2.2.2.2.2.2.2.2.2.2.2.2.2.2.2.2.out.mono HBASE.out.size))
      with_reducible refine Calls.mono (trSame _ _ (l.take m) ((l.take m).set K ⟨o, d, .slice A d.length c⟩) _ T (HOX.out.keep HBC.out) (HOZ.out.keep HBC.out) HXB.out HZB.out (HT.out.trans (od_set (l.take m) K ⟨o, d, .slice A d.length c⟩ p HP.out).symm)) ?_
      rintro e w22 ⟨rfl, hB22⟩

      refine hK2.out _ _ ?_ (fun hHeld2 => ?_)
      · have hzx := Nat.lt_of_lt_of_le HZ.out.1 (HBASE.out.trans (hHeld.2.2.2.2.2.2.2.2.2.2.2.2.2.2.2.2.out.mono HBASE.out.size)).size
        have hzX := Nat.lt_of_lt_of_le HZ.out.2 (HBASE.out.trans (hHeld.2.2.2.2.2.2.2.2.2.2.2.2.2.2.2.2.out.mono HBASE.out.size)).size
        exact ⟨(hB22.cell (p := ⟨bx, ox + K * 8, none⟩) hzx).trans hHeld.1, (hB22.cell (p := ⟨bx, ox + K * 8 + 1, none⟩) hzx).trans hHeld.2.1, (hB22.cell (p := ⟨bx, ox + K * 8 + 2, none⟩) hzx).trans hHeld.2.2.1, (hB22.cell (p := ⟨bx, ox + K * 8 + 3, none⟩) hzx).trans hHeld.2.2.2.1, (hB22.cell (p := ⟨bx, ox + K * 8 + 4, none⟩) hzx).trans hHeld.2.2.2.2.1, (hB22.cell (p := ⟨bx, ox + K * 8 + 5, none⟩) hzx).trans hHeld.2.2.2.2.2.1, (hB22.cell (p := ⟨bx, ox + K * 8 + 6, none⟩) hzx).trans hHeld.2.2.2.2.2.2.1, (hB22.cell (p := ⟨bx, ox + K * 8 + 7, none⟩) hzx).trans hHeld.2.2.2.2.2.2.2.1, (hB22.cell (p := ⟨X, 0, none⟩) hzX).trans hHeld.2.2.2.2.2.2.2.2.1, (hB22.cell (p := ⟨X, 1, none⟩) hzX).trans hHeld.2.2.2.2.2.2.2.2.2.1, (hB22.cell (p := ⟨X, 2, none⟩) hzX).trans hHeld.2.2.2.2.2.2.2.2.2.2.1, (hB22.cell (p := ⟨X, 3, none⟩) hzX).trans hHeld.2.2.2.2.2.2.2.2.2.2.2.1, (hB22.cell (p := ⟨X, 4, none⟩) hzX).trans hHeld.2.2.2.2.2.2.2.2.2.2.2.2.1, (hB22.cell (p := ⟨X, 5, none⟩) hzX).trans hHeld.2.2.2.2.2.2.2.2.2.2.2.2.2.1, (hB22.cell (p := ⟨X, 6, none⟩) hzX).trans hHeld.2.2.2.2.2.2.2.2.2.2.2.2.2.2.1, (hB22.cell (p := ⟨X, 7, none⟩) hzX).trans hHeld.2.2.2.2.2.2.2.2.2.2.2.2.2.2.2.1, Lib.hid (thn hHeld.2.2.2.2.2.2.2.2.2.2.2.2.2.2.2.2.out hB22)⟩
      clear hB22
      clear hK2 K2 hHeld
      have hHeld := hHeld2
      clear hHeld2
      try simp (maxSteps := 4000000) only [Act.put, List.setIfInBounds_toArray, List.set_cons_zero, List.set_cons_succ]
      refine wpAnyH_take (i := 10) (v := ?_) rfl (by kernel_rfl) (by kernel_rfl) (by kernel_rfl) (fun _ _ _ h => h) (Or.inl ⟨by kernel_rfl, ?_⟩) (by assumption) ?_
      rotate_left
      · (intro w hSw; (try dsimp only at hSw); go_simp)
        try (with_reducible rfl)
      rotate_left
      try simp (maxSteps := 4000000) only [Act.put, List.setIfInBounds_toArray, List.set_cons_zero, List.set_cons_succ, List.getElem_toArray, List.getElem_cons_zero, List.getElem_cons_succ]
      refine wpAnyH_take (i := 11) (v := ?_) rfl (by kernel_rfl) (by kernel_rfl) (by kernel_rfl) (fun _ _ _ h => h) (Or.inl ⟨by kernel_rfl, ?_⟩) (by assumption) ?_
      rotate_left
      · (intro w hSw; (try dsimp only at hSw); go_simp)
        try (with_reducible rfl)
      rotate_left
      try simp (maxSteps := 4000000) only [Act.put, List.setIfInBounds_toArray, List.set_cons_zero, List.set_cons_succ, List.getElem_toArray, List.getElem_cons_zero, List.getElem_cons_succ]
      refine wpAnyH_take (i := 12) (v := ?_) rfl (by kernel_rfl) (by kernel_rfl) (by kernel_rfl) (fun _ _ _ h => h) (Or.inl ⟨by kernel_rfl, ?_⟩) (by assumption) ?_
      rotate_left
      · (intro w hSw; (try dsimp only at hSw); go_simp)
        try (with_reducible rfl)
      rotate_left
      try simp (maxSteps := 4000000) only [Act.put, List.setIfInBounds_toArray, List.set_cons_zero, List.set_cons_succ, List.getElem_toArray, List.getElem_cons_zero, List.getElem_cons_succ]
      refine wpAnyH_take (i := 13) (v := ?_) rfl (by kernel_rfl) (by kernel_rfl) (by kernel_rfl) (fun _ _ _ h => h) (Or.inl ⟨by kernel_rfl, ?_⟩) (by assumption) ?_
      rotate_left
      · (intro w hSw; (try dsimp only at hSw); go_simp)
        try (with_reducible rfl)
      rotate_left
      try simp (maxSteps := 4000000) only [Act.put, List.setIfInBounds_toArray, List.set_cons_zero, List.set_cons_succ, List.getElem_toArray, List.getElem_cons_zero, List.getElem_cons_succ]
      refine wpAnyH_take (i := 14) (v := ?_) rfl (by kernel_rfl) (by kernel_rfl) (by kernel_rfl) (fun _ _ _ h => h) (Or.inl ⟨by kernel_rfl, ?_⟩) (by assumption) ?_
      rotate_left
      · (intro w hSw; (try dsimp only at hSw); go_simp)
        try (with_reducible rfl)
      rotate_left
      try simp (maxSteps := 4000000) only [Act.put, List.setIfInBounds_toArray, List.set_cons_zero, List.set_cons_succ, List.getElem_toArray, List.getElem_cons_zero, List.getElem_cons_succ]
      refine wpAnyH_take (i := 15) (v := ?_) rfl (by kernel_rfl) (by kernel_rfl) (by kernel_rfl) (fun _ _ _ h => h) (Or.inl ⟨by kernel_rfl, ?_⟩) (by assumption) ?_
      rotate_left
      · (intro w hSw; (try dsimp only at hSw); go_simp)
        try (with_reducible rfl)
      rotate_left
      try simp (maxSteps := 4000000) only [Act.put, List.setIfInBounds_toArray, List.set_cons_zero, List.set_cons_succ, List.getElem_toArray, List.getElem_cons_zero, List.getElem_cons_succ]
      refine wpAnyH_ready (rs := [16]) (by kernel_rfl) (by simp) ?_
      refine AllReadyH.cons rfl (fun K2 hK2 => ?_) AllReadyH.nil
      go_simp
      have HBC := Lib.hid (HBASE.out.trans (hHeld.2.2.2.2.2.2.2.2.2.2.2.2.2.2.2.2.out.mono HBASE.out.size))
      with_reducible refine Calls.mono (trSame _ _ (l.take m) ((l.take m).drop 1) _ false (HOX.out.keep HBC.out) (HOD.out.keep HBC.out) HXB.out HDB2.out HNE.out) ?_
      rintro e w23 ⟨rfl, hB23⟩

      refine hK2.out _ _ ?_ (fun hHeld2 => ?_)
      · have hzx := Nat.lt_of_lt_of_le HZ.out.1 (HBASE.out.trans (hHeld.2.2.2.2.2.2.2.2.2.2.2.2.2.2.2.2.out.mono HBASE.out.size)).size
        have hzX := Nat.lt_of_lt_of_le HZ.out.2 (HBASE.out.trans (hHeld.2.2.2.2.2.2.2.2.2.2.2.2.2.2.2.2.out.mono HBASE.out.size)).size
        exact ⟨(hB23.cell (p := ⟨bx, ox + K * 8, none⟩) hzx).trans hHeld.1, (hB23.cell (p := ⟨bx, ox + K * 8 + 1, none⟩) hzx).trans hHeld.2.1, (hB23.cell (p := ⟨bx, ox + K * 8 + 2, none⟩) hzx).trans hHeld.2.2.1, (hB23.cell (p := ⟨bx, ox + K * 8 + 3, none⟩) hzx).trans hHeld.2.2.2.1, (hB23.cell (p := ⟨bx, ox + K * 8 + 4, none⟩) hzx).trans hHeld.2.2.2.2.1, (hB23.cell (p := ⟨bx, ox + K * 8 + 5, none⟩) hzx).trans hHeld.2.2.2.2.2.1, (hB23.cell (p := ⟨bx, ox + K * 8 + 6, none⟩) hzx).trans hHeld.2.2.2.2.2.2.1, (hB23.cell (p := ⟨bx, ox + K * 8 + 7, none⟩) hzx).trans hHeld.2.2.2.2.2.2.2.1, (hB23.cell (p := ⟨X, 0, none⟩) hzX).trans hHeld.2.2.2.2.2.2.2.2.1, (hB23.cell (p := ⟨X, 1, none⟩) hzX).trans hHeld.2.2.2.2.2.2.2.2.2.1, (hB23.cell (p := ⟨X, 2, none⟩) hzX).trans hHeld.2.2.2.2.2.2.2.2.2.2.1, (hB23.cell (p := ⟨X, 3, none⟩) hzX).trans hHeld.2.2.2.2.2.2.2.2.2.2.2.1, (hB23.cell (p := ⟨X, 4, none⟩) hzX).trans hHeld.2.2.2.2.2.2.2.2.2.2.2.2.1, (hB23.cell (p := ⟨X, 5, none⟩) hzX).trans hHeld.2.2.2.2.2.2.2.2.2.2.2.2.2.1, (hB23.cell (p := ⟨X, 6, none⟩) hzX).trans hHeld.2.2.2.2.2.2.2.2.2.2.2.2.2.2.1, (hB23.cell (p := ⟨X, 7, none⟩) hzX).trans hHeld.2.2.2.2.2.2.2.2.2.2.2.2.2.2.2.1, Lib.hid (thn hHeld.2.2.2.2.2.2.2.2.2.2.2.2.2.2.2.2.out hB23)⟩
      clear hB23
      clear hK2 K2 hHeld
      have hHeld := hHeld2
      clear hHeld2
      try simp (maxSteps := 4000000) only [Act.put, List.setIfInBounds_toArray, List.set_cons_zero, List.set_cons_succ]
      refine wpAnyH_take (i := 17) (v := ?_) rfl (by kernel_rfl) (by kernel_rfl) (by kernel_rfl) (fun _ _ _ h => h) (Or.inl ⟨by kernel_rfl, ?_⟩) (by assumption) ?_
      rotate_left
      · (intro w hSw; (try dsimp only at hSw); go_simp)
        try (with_reducible rfl)
      rotate_left
      try simp (maxSteps := 4000000) only [Act.put, List.setIfInBounds_toArray, List.set_cons_zero, List.set_cons_succ, List.getElem_toArray, List.getElem_cons_zero, List.getElem_cons_succ]
      refine wpAnyH_take (i := 18) (v := ?_) rfl (by kernel_rfl) (by kernel_rfl) (by kernel_rfl) (fun _ _ _ h => h) (Or.inl ⟨by kernel_rfl, ?_⟩) (by assumption) ?_
      rotate_left
      · (intro w hSw; (try dsimp only at hSw); go_simp)
        try (with_reducible rfl)
      rotate_left
      try simp (maxSteps := 4000000) only [Act.put, List.setIfInBounds_toArray, List.set_cons_zero, List.set_cons_succ, List.getElem_toArray, List.getElem_cons_zero, List.getElem_cons_succ]
      refine wpAnyH_take (i := 19) (v := ?_) rfl (by kernel_rfl) (by kernel_rfl) (by kernel_rfl) (fun _ _ _ h => h) (Or.inl ⟨by kernel_rfl, ?_⟩) (by assumption) ?_
      rotate_left
      · (intro w hSw; (try dsimp only at hSw); go_simp)
        try (with_reducible rfl)
      rotate_left
      try simp (maxSteps := 4000000) only [Act.put, List.setIfInBounds_toArray, List.set_cons_zero, List.set_cons_succ, List.getElem_toArray, List.getElem_cons_zero, List.getElem_cons_succ]
      refine wpAnyH_take (i := 20) (v := ?_) rfl (by kernel_rfl) (by kernel_rfl) (by kernel_rfl) (fun _ _ _ h => h) (Or.inl ⟨by kernel_rfl, ?_⟩) (by assumption) ?_
      rotate_left
      · (intro w hSw; (try dsimp only at hSw); go_simp)
        try (with_reducible rfl)
      rotate_left
      try simp (maxSteps := 4000000) only [Act.put, List.setIfInBounds_toArray, List.set_cons_zero, List.set_cons_succ, List.getElem_toArray, List.getElem_cons_zero, List.getElem_cons_succ]
      refine wpAnyH_take (i := 21) (v := ?_) rfl (by kernel_rfl) (by kernel_rfl) (by kernel_rfl) (fun _ _ _ h => h) (Or.inl ⟨by kernel_rfl, ?_⟩) (by assumption) ?_
      rotate_left
      · (intro w hSw; (try dsimp only at hSw); go_simp)
        try (with_reducible rfl)
      rotate_left
      try simp (maxSteps := 4000000) only [Act.put, List.setIfInBounds_toArray, List.set_cons_zero, List.set_cons_succ, List.getElem_toArray, List.getElem_cons_zero, List.getElem_cons_succ]
      refine wpAnyH_take (i := 22) (v := ?_) rfl (by kernel_rfl) (by kernel_rfl) (by kernel_rfl) (fun _ _ _ h => h) (Or.inl ⟨by kernel_rfl, ?_⟩) (by assumption) ?_
      rotate_left
      · (intro w hSw; (try dsimp only at hSw); go_simp)
        try (with_reducible rfl)
      rotate_left
      try simp (maxSteps := 4000000) only [Act.put, List.setIfInBounds_toArray, List.set_cons_zero, List.set_cons_succ, List.getElem_toArray, List.getElem_cons_zero, List.getElem_cons_succ]
      refine wpAnyH_take (i := 23) (v := ?_) rfl (by kernel_rfl) (by kernel_rfl) (by kernel_rfl) (fun _ _ _ h => h) (Or.inl ⟨by kernel_rfl, ?_⟩) (by assumption) ?_
      rotate_left
      · (intro w hSw; (try dsimp only at hSw); go_simp)
        try (with_reducible rfl)
      rotate_left
      try simp (maxSteps := 4000000) only [Act.put, List.setIfInBounds_toArray, List.set_cons_zero, List.set_cons_succ, List.getElem_toArray, List.getElem_cons_zero, List.getElem_cons_succ]
      refine wpAnyH_take (i := 26) (v := ?_) rfl (by kernel_rfl) (by kernel_rfl) (by kernel_rfl) (fun _ _ _ h => h) (Or.inl ⟨by kernel_rfl, ?_⟩) (by assumption) ?_
      rotate_left
      · (intro w hSw; (try dsimp only at hSw); go_simp)
        try (with_reducible rfl)
      rotate_left
      try simp (maxSteps := 4000000) only [Act.put, List.setIfInBounds_toArray, List.set_cons_zero, List.set_cons_succ, List.getElem_toArray, List.getElem_cons_zero, List.getElem_cons_succ]
      refine wpAnyH_take (i := 30) (v := ?_) rfl (by kernel_rfl) (by kernel_rfl) (by kernel_rfl) (fun _ _ _ h => h) (Or.inl ⟨by kernel_rfl, ?_⟩) (by assumption) ?_
      rotate_left
      · (intro w hSw; (try dsimp only at hSw); go_simp)
        try (with_reducible rfl)
      rotate_left
      try simp (maxSteps := 4000000) only [Act.put, List.setIfInBounds_toArray, List.set_cons_zero, List.set_cons_succ, List.getElem_toArray, List.getElem_cons_zero, List.getElem_cons_succ]
      refine wpAnyH_ready (rs := [24]) (by kernel_rfl) (by simp) ?_
      refine AllReadyH.cons rfl (fun K2 hK2 => ?_) AllReadyH.nil
      go_simp
      have HBC := Lib.hid (HBASE.out.trans (hHeld.2.2.2.2.2.2.2.2.2.2.2.2.2.2.2.2.out.mono HBASE.out.size))
      with_reducible refine Calls.mono (trOne p.o _ p.d _ (HPR.out.keep HBC.out) HPK.out) ?_
      rintro e w24 ⟨b24, v24, rfl, hb24, hv24, hB24, _⟩
      have hr24 : BY b24 w24 v24 (oneB p.o p.d) := hv24
      have HR24 := Lib.hid hr24
      obtain ⟨A24, c24, rfl, -⟩ := hr24
      refine hK2.out _ _ ?_ (fun hHeld2 => ?_)
      · have hzx := Nat.lt_of_lt_of_le HZ.out.1 (HBASE.out.trans (hHeld.2.2.2.2.2.2.2.2.2.2.2.2.2.2.2.2.out.mono HBASE.out.size)).size
        have hzX := Nat.lt_of_lt_of_le HZ.out.2 (HBASE.out.trans (hHeld.2.2.2.2.2.2.2.2.2.2.2.2.2.2.2.2.out.mono HBASE.out.size)).size
        exact ⟨(hB24.cell (p := ⟨bx, ox + K * 8, none⟩) hzx).trans hHeld.1, (hB24.cell (p := ⟨bx, ox + K * 8 + 1, none⟩) hzx).trans hHeld.2.1, (hB24.cell (p := ⟨bx, ox + K * 8 + 2, none⟩) hzx).trans hHeld.2.2.1, (hB24.cell (p := ⟨bx, ox + K * 8 + 3, none⟩) hzx).trans hHeld.2.2.2.1, (hB24.cell (p := ⟨bx, ox + K * 8 + 4, none⟩) hzx).trans hHeld.2.2.2.2.1, (hB24.cell (p := ⟨bx, ox + K * 8 + 5, none⟩) hzx).trans hHeld.2.2.2.2.2.1, (hB24.cell (p := ⟨bx, ox + K * 8 + 6, none⟩) hzx).trans hHeld.2.2.2.2.2.2.1, (hB24.cell (p := ⟨bx, ox + K * 8 + 7, none⟩) hzx).trans hHeld.2.2.2.2.2.2.2.1, (hB24.cell (p := ⟨X, 0, none⟩) hzX).trans hHeld.2.2.2.2.2.2.2.2.1, (hB24.cell (p := ⟨X, 1, none⟩) hzX).trans hHeld.2.2.2.2.2.2.2.2.2.1, (hB24.cell (p := ⟨X, 2, none⟩) hzX).trans hHeld.2.2.2.2.2.2.2.2.2.2.1, (hB24.cell (p := ⟨X, 3, none⟩) hzX).trans hHeld.2.2.2.2.2.2.2.2.2.2.2.1, (hB24.cell (p := ⟨X, 4, none⟩) hzX).trans hHeld.2.2.2.2.2.2.2.2.2.2.2.2.1, (hB24.cell (p := ⟨X, 5, none⟩) hzX).trans hHeld.2.2.2.2.2.2.2.2.2.2.2.2.2.1, (hB24.cell (p := ⟨X, 6, none⟩) hzX).trans hHeld.2.2.2.2.2.2.2.2.2.2.2.2.2.2.1, (hB24.cell (p := ⟨X, 7, none⟩) hzX).trans hHeld.2.2.2.2.2.2.2.2.2.2.2.2.2.2.2.1, Lib.hid (thn hHeld.2.2.2.2.2.2.2.2.2.2.2.2.2.2.2.2.out hB24)⟩
      clear hb24 hv24 hB24
      clear hK2 K2 hHeld
      have hHeld := hHeld2
      clear hHeld2
      try simp (maxSteps := 4000000) only [Act.put, List.setIfInBounds_toArray, List.set_cons_zero, List.set_cons_succ]
      have HBb := Lib.hid (hHeld.2.2.2.2.2.2.2.2.2.2.2.2.2.2.2.2.out)
      refine wpAnyH_strong (S' := fun w' => w'.cell? ⟨bx, ox + K * 8, none⟩ = some (.int .i64 p.o.k) ∧ w'.cell? ⟨bx, ox + K * 8 + 1, none⟩ = some (.int .i64 p.o.t) ∧ w'.cell? ⟨bx, ox + K * 8 + 2, none⟩ = some (.int .i64 p.o.a) ∧ w'.cell? ⟨bx, ox + K * 8 + 3, none⟩ = some (.int .i64 p.o.b) ∧ w'.cell? ⟨bx, ox + K * 8 + 4, none⟩ = some (.int .i64 p.o.v) ∧ w'.cell? ⟨bx, ox + K * 8 + 5, none⟩ = some (.int .i64 p.o.n) ∧ w'.cell? ⟨bx, ox + K * 8 + 6, none⟩ = some (.int .i64 p.o.m) ∧ w'.cell? ⟨bx, ox + K * 8 + 7, none⟩ = some (.slice Ap p.d.length cp) ∧ w'.cell? ⟨X, 0, none⟩ = some (.int .i64 o.k) ∧ w'.cell? ⟨X, 1, none⟩ = some (.int .i64 o.t) ∧ w'.cell? ⟨X, 2, none⟩ = some (.int .i64 o.a) ∧ w'.cell? ⟨X, 3, none⟩ = some (.int .i64 o.b) ∧ w'.cell? ⟨X, 4, none⟩ = some (.int .i64 o.v) ∧ w'.cell? ⟨X, 5, none⟩ = some (.int .i64 o.n) ∧ w'.cell? ⟨X, 6, none⟩ = some (.int .i64 o.m) ∧ w'.cell? ⟨X, 7, none⟩ = some (.slice A d.length c) ∧ Hid (Below w24.heap.size w24 w')) (fun w' h => ⟨h.1, h.2.1, h.2.2.1, h.2.2.2.1, h.2.2.2.2.1, h.2.2.2.2.2.1, h.2.2.2.2.2.2.1, h.2.2.2.2.2.2.2.1, h.2.2.2.2.2.2.2.2.1, h.2.2.2.2.2.2.2.2.2.1, h.2.2.2.2.2.2.2.2.2.2.1, h.2.2.2.2.2.2.2.2.2.2.2.1, h.2.2.2.2.2.2.2.2.2.2.2.2.1, h.2.2.2.2.2.2.2.2.2.2.2.2.2.1, h.2.2.2.2.2.2.2.2.2.2.2.2.2.2.1, h.2.2.2.2.2.2.2.2.2.2.2.2.2.2.2.1, Lib.hid (thn HBb.out h.2.2.2.2.2.2.2.2.2.2.2.2.2.2.2.2.out)⟩) _ _ _ _ ?_
      have hHeld3 : (fun w' => w'.cell? ⟨bx, ox + K * 8, none⟩ = some (.int .i64 p.o.k) ∧ w'.cell? ⟨bx, ox + K * 8 + 1, none⟩ = some (.int .i64 p.o.t) ∧ w'.cell? ⟨bx, ox + K * 8 + 2, none⟩ = some (.int .i64 p.o.a) ∧ w'.cell? ⟨bx, ox + K * 8 + 3, none⟩ = some (.int .i64 p.o.b) ∧ w'.cell? ⟨bx, ox + K * 8 + 4, none⟩ = some (.int .i64 p.o.v) ∧ w'.cell? ⟨bx, ox + K * 8 + 5, none⟩ = some (.int .i64 p.o.n) ∧ w'.cell? ⟨bx, ox + K * 8 + 6, none⟩ = some (.int .i64 p.o.m) ∧ w'.cell? ⟨bx, ox + K * 8 + 7, none⟩ = some (.slice Ap p.d.length cp) ∧ w'.cell? ⟨X, 0, none⟩ = some (.int .i64 o.k) ∧ w'.cell? ⟨X, 1, none⟩ = some (.int .i64 o.t) ∧ w'.cell? ⟨X, 2, none⟩ = some (.int .i64 o.a) ∧ w'.cell? ⟨X, 3, none⟩ = some (.int .i64 o.b) ∧ w'.cell? ⟨X, 4, none⟩ = some (.int .i64 o.v) ∧ w'.cell? ⟨X, 5, none⟩ = some (.int .i64 o.n) ∧ w'.cell? ⟨X, 6, none⟩ = some (.int .i64 o.m) ∧ w'.cell? ⟨X, 7, none⟩ = some (.slice A d.length c) ∧ Hid (Below w24.heap.size w24 w')) w24 := by
        have h := hHeld
        exact ⟨h.1, h.2.1, h.2.2.1, h.2.2.2.1, h.2.2.2.2.1, h.2.2.2.2.2.1, h.2.2.2.2.2.2.1, h.2.2.2.2.2.2.2.1, h.2.2.2.2.2.2.2.2.1, h.2.2.2.2.2.2.2.2.2.1, h.2.2.2.2.2.2.2.2.2.2.1, h.2.2.2.2.2.2.2.2.2.2.2.1, h.2.2.2.2.2.2.2.2.2.2.2.2.1, h.2.2.2.2.2.2.2.2.2.2.2.2.2.1, h.2.2.2.2.2.2.2.2.2.2.2.2.2.2.1, h.2.2.2.2.2.2.2.2.2.2.2.2.2.2.2.1, Lib.hid (Below.refl _ _)⟩
      have HBASE2 := Lib.hid (HBASE.out.trans (HBb.out.mono HBASE.out.size))
      clear HBASE hHeld
      have HBASE := HBASE2
      clear HBASE2
      have hHeld := hHeld3
      clear hHeld3
      have HTAKE := Lib.hid (fun w' (h : (fun w' => w'.cell? ⟨bx, ox + K * 8, none⟩ = some (.int .i64 p.o.k) ∧ w'.cell? ⟨bx, ox + K * 8 + 1, none⟩ = some (.int .i64 p.o.t) ∧ w'.cell? ⟨bx, ox + K * 8 + 2, none⟩ = some (.int .i64 p.o.a) ∧ w'.cell? ⟨bx, ox + K * 8 + 3, none⟩ = some (.int .i64 p.o.b) ∧ w'.cell? ⟨bx, ox + K * 8 + 4, none⟩ = some (.int .i64 p.o.v) ∧ w'.cell? ⟨bx, ox + K * 8 + 5, none⟩ = some (.int .i64 p.o.n) ∧ w'.cell? ⟨bx, ox + K * 8 + 6, none⟩ = some (.int .i64 p.o.m) ∧ w'.cell? ⟨bx, ox + K * 8 + 7, none⟩ = some (.slice Ap p.d.length cp) ∧ w'.cell? ⟨X, 0, none⟩ = some (.int .i64 o.k) ∧ w'.cell? ⟨X, 1, none⟩ = some (.int .i64 o.t) ∧ w'.cell? ⟨X, 2, none⟩ = some (.int .i64 o.a) ∧ w'.cell? ⟨X, 3, none⟩ = some (.int .i64 o.b) ∧ w'.cell? ⟨X, 4, none⟩ = some (.int .i64 o.v) ∧ w'.cell? ⟨X, 5, none⟩ = some (.int .i64 o.n) ∧ w'.cell? ⟨X, 6, none⟩ = some (.int .i64 o.m) ∧ w'.cell? ⟨X, 7, none⟩ = some (.slice A d.length c) ∧ Hid (Below w24.heap.size w24 w')) w') => conv_by b24 w' _ (oneB p.o p.d) (VZ.below HR24.out h.2.2.2.2.2.2.2.2.2.2.2.2.2.2.2.2.out) (oneB_lt _ _ HPB.out))
      refine wpAnyH_take (i := 25) (v := ?_) rfl (by kernel_rfl) (by kernel_rfl) (by kernel_rfl) (fun _ _ _ h => h) (Or.inl ⟨by kernel_rfl, ?_⟩) (by assumption) ?_
      rotate_left
      · (intro w hSw; (try dsimp only at hSw); (try have hTk := Hid.out HTAKE _ hSw); go_simp)
        try (with_reducible rfl)
      rotate_left
      try simp (maxSteps := 4000000) only [Act.put, List.setIfInBounds_toArray, List.set_cons_zero, List.set_cons_succ, List.getElem_toArray, List.getElem_cons_zero, List.getElem_cons_succ]
      refine wpAnyH_ready (rs := [27]) (by kernel_rfl) (by simp) ?_
      refine AllReadyH.cons rfl (fun K2 hK2 => ?_) AllReadyH.nil
      go_simp
      have HBC := Lib.hid (HBASE.out.trans (hHeld.2.2.2.2.2.2.2.2.2.2.2.2.2.2.2.2.out.mono HBASE.out.size))
      with_reducible refine Calls.mono (trOne o _ d _ ((HD0.out.keep HW10.out).keep HBC.out) HOK.out) ?_
      rintro e w25 ⟨b25, v25, rfl, hb25, hv25, hB25, _⟩
      have hr25 : BY b25 w25 v25 (oneB o d) := hv25
      have hcv := conv_by b25 w25 v25 _ hr25 (oneB_lt _ _ HDB.out)
      obtain ⟨A25, c25, rfl, -⟩ := hr25
      refine hK2.out _ _ ?_ (fun hHeld2 => ?_)
      · have hzx := Nat.lt_of_lt_of_le HZ.out.1 (HBASE.out.trans (hHeld.2.2.2.2.2.2.2.2.2.2.2.2.2.2.2.2.out.mono HBASE.out.size)).size
        have hzX := Nat.lt_of_lt_of_le HZ.out.2 (HBASE.out.trans (hHeld.2.2.2.2.2.2.2.2.2.2.2.2.2.2.2.2.out.mono HBASE.out.size)).size
        exact ⟨(hB25.cell (p := ⟨bx, ox + K * 8, none⟩) hzx).trans hHeld.1, (hB25.cell (p := ⟨bx, ox + K * 8 + 1, none⟩) hzx).trans hHeld.2.1, (hB25.cell (p := ⟨bx, ox + K * 8 + 2, none⟩) hzx).trans hHeld.2.2.1, (hB25.cell (p := ⟨bx, ox + K * 8 + 3, none⟩) hzx).trans hHeld.2.2.2.1, (hB25.cell (p := ⟨bx, ox + K * 8 + 4, none⟩) hzx).trans hHeld.2.2.2.2.1, (hB25.cell (p := ⟨bx, ox + K * 8 + 5, none⟩) hzx).trans hHeld.2.2.2.2.2.1, (hB25.cell (p := ⟨bx, ox + K * 8 + 6, none⟩) hzx).trans hHeld.2.2.2.2.2.2.1, (hB25.cell (p := ⟨bx, ox + K * 8 + 7, none⟩) hzx).trans hHeld.2.2.2.2.2.2.2.1, (hB25.cell (p := ⟨X, 0, none⟩) hzX).trans hHeld.2.2.2.2.2.2.2.2.1, (hB25.cell (p := ⟨X, 1, none⟩) hzX).trans hHeld.2.2.2.2.2.2.2.2.2.1, (hB25.cell (p := ⟨X, 2, none⟩) hzX).trans hHeld.2.2.2.2.2.2.2.2.2.2.1, (hB25.cell (p := ⟨X, 3, none⟩) hzX).trans hHeld.2.2.2.2.2.2.2.2.2.2.2.1, (hB25.cell (p := ⟨X, 4, none⟩) hzX).trans hHeld.2.2.2.2.2.2.2.2.2.2.2.2.1, (hB25.cell (p := ⟨X, 5, none⟩) hzX).trans hHeld.2.2.2.2.2.2.2.2.2.2.2.2.2.1, (hB25.cell (p := ⟨X, 6, none⟩) hzX).trans hHeld.2.2.2.2.2.2.2.2.2.2.2.2.2.2.1, (hB25.cell (p := ⟨X, 7, none⟩) hzX).trans hHeld.2.2.2.2.2.2.2.2.2.2.2.2.2.2.2.1, Lib.hid (thn hHeld.2.2.2.2.2.2.2.2.2.2.2.2.2.2.2.2.out hB25)⟩
      clear hb25 hv25 hB25
      clear hK2 K2 hHeld
      have hHeld := hHeld2
      clear hHeld2
      try simp (maxSteps := 4000000) only [Act.put, List.setIfInBounds_toArray, List.set_cons_zero, List.set_cons_succ]
      refine wpAnyH_ready (rs := [28]) (by kernel_rfl) (by simp) ?_
      refine AllReadyH.cons rfl (fun K2 hK2 => ?_) AllReadyH.nil
      go_simp
      refine hK2.out _ _ hHeld (fun hHeld2 => ?_)
      clear hK2 K2 hHeld
      have hHeld := hHeld2
      clear hHeld2
      try simp (maxSteps := 4000000) only [Act.put, List.setIfInBounds_toArray, List.set_cons_zero, List.set_cons_succ]
      have he9 := HEQ.out
      refine wpAnyH_take (i := 29) (v := ?_) rfl (by kernel_rfl) (by kernel_rfl) (by kernel_rfl) (fun _ _ _ h => h) (Or.inl ⟨by kernel_rfl, ?_⟩) (by assumption) ?_
      rotate_left
      · (intro w hSw; (try dsimp only at hSw); (try have hTk := Hid.out HTAKE _ hSw); go_simp)
        try (with_reducible rfl)
      rotate_left
      try simp (maxSteps := 4000000) only [Act.put, List.setIfInBounds_toArray, List.set_cons_zero, List.set_cons_succ, List.getElem_toArray, List.getElem_cons_zero, List.getElem_cons_succ]
      refine wpAnyH_take (i := 31) (v := ?_) rfl (by kernel_rfl) (by kernel_rfl) (by kernel_rfl) (fun _ _ _ h => h) (Or.inl ⟨by kernel_rfl, ?_⟩) (by assumption) ?_
      rotate_left
      · (intro w hSw; (try dsimp only at hSw); (try have hTk := Hid.out HTAKE _ hSw); go_simp)
        try (with_reducible rfl)
      rotate_left
      try simp (maxSteps := 4000000) only [Act.put, List.setIfInBounds_toArray, List.set_cons_zero, List.set_cons_succ, List.getElem_toArray, List.getElem_cons_zero, List.getElem_cons_succ]
      refine wpAnyH_take (i := 32) (v := ?_) rfl (by kernel_rfl) (by kernel_rfl) (by kernel_rfl) (fun _ _ _ h => h) (Or.inl ⟨by kernel_rfl, ?_⟩) (by assumption) ?_
      rotate_left
      · (intro w hSw; (try dsimp only at hSw); (try have hTk := Hid.out HTAKE _ hSw); go_simp)
        try (with_reducible rfl)
      rotate_left
      try simp (maxSteps := 4000000) only [Act.put, List.setIfInBounds_toArray, List.set_cons_zero, List.set_cons_succ, List.getElem_toArray, List.getElem_cons_zero, List.getElem_cons_succ]
      refine wpAnyH_take (i := 33) (v := ?_) rfl (by kernel_rfl) (by kernel_rfl) (by kernel_rfl) (fun _ _ _ h => h) (Or.inl ⟨by kernel_rfl, ?_⟩) (by assumption) ?_
      rotate_left
      · (intro w hSw; (try dsimp only at hSw); (try have hTk := Hid.out HTAKE _ hSw); go_simp)
        try (with_reducible rfl)
      rotate_left
      try simp (maxSteps := 4000000) only [Act.put, List.setIfInBounds_toArray, List.set_cons_zero, List.set_cons_succ, List.getElem_toArray, List.getElem_cons_zero, List.getElem_cons_succ]
      refine wpAnyH_done (by kernel_rfl) ?_ _
      have HBe := HBASE.out.trans (hHeld.2.2.2.2.2.2.2.2.2.2.2.2.2.2.2.2.out.mono HBASE.out.size)
      go_wp2
      go_ret
      exact ⟨by first | rfl | simp, HW10.out.trans (HBe.mono HW10.out.size)⟩
end Go.Proofs.Ytahggokeelgjdaa
