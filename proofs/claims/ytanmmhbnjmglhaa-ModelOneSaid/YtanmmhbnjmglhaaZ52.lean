/- MpR. -/
import Derived.Test.YtanmmhbnjmglhaaZ49
import Derived.Test.YtanmmhbnjmglhaaZ51
import Derived.Deep.RegionHeld3
import Derived.Deep.DeepCutAuto
import Derived.RegionTactic
namespace Go.Proofs.Ytanmmhbnjmglhaa
set_option maxRecDepth 100000
open Go.RowKit Go.ChangeMaps Go.MapKept
set_option linter.unusedVariables false
set_option linter.unusedSimpArgs false
theorem rnew2 (C : Cf) (k : Nat) (hk : min (max C.re 0) 64 = (k : Int)) (W : World) : Calls Try.prog 8 #[.agg #[.int .i64 C.pg, .int .i64 C.rg, .int .i64 C.lg, .int .i64 C.th, .int .i64 C.ca, .int .i64 C.ba, .int .i64 C.sh, .int .i64 C.re, .int .i64 C.mo, .int .i64 C.fi, .int .u64 C.ky]] W (RNewPost C k W) := rnew C k hk W
theorem rsame3 (q : Rf) (W : World) : Calls Try.prog 15 #[q.v, q.v] W fun e w' => e = .returned (.bool true) ∧ Below W.heap.size W w' := lsame45 q.c q.o q.l q.u q.p
theorem rsame2 (E : Int) (W : World) : Calls Try.prog 12 #[.agg #[.int .i64 E, .int .i64 0, .slice none 0 0], .agg #[.int .i64 E, .int .i64 0, .slice none 0 0]] W fun e w' => e = .returned (.bool true) ∧ Below W.heap.size W w' := rsame E
/-- What is behind the document's Do in the statement. -/
def FIN (C : Cf) (m k : Nat) (a E K n mm : Int) (P : Option Addr) (t b v : Int) (ln cp oB rB x y : Nat) (LL : Option Addr) (ll lc gg cap : Nat) (W0 : World) (w : World) : Prop :=
  (oB < w.heap.size ∧ rB < w.heap.size ∧ x < w.heap.size ∧ y < w.heap.size) ∧ BX oB #[.int .i64 K, .int .i64 t, .int .i64 a, .int .i64 b, .int .i64 v, .int .i64 n, .int .i64 mm, .slice P ln cp] w ∧ BX rB #[.int .i64 E, .int .i64 0, .slice none 0 0] w ∧ BX x #[.int .i64 C.pg, .int .i64 C.rg, .int .i64 C.lg, .int .i64 C.th, .int .i64 C.ca, .int .i64 C.ba, .int .i64 C.sh, .int .i64 C.re, .int .i64 C.mo, .int .i64 C.fi, .int .u64 C.ky, .slice LL ll lc, .slice (some ⟨gg, 0, none⟩) k cap] w ∧ BX y #[.int .i64 E, .int .i64 0, .slice none 0 0] w ∧ MEnd m a (nlE E K) (gE E K n mm) w ∧ (∀ w2, Below w.heap.size w w2 → Calls Try.prog 14 #[rmv C LL ll lc (some ⟨gg, 0, none⟩) k cap] w2 (fun e w' => e = .returned (.int .i64 (nlE E K)) ∧ Below w2.heap.size w2 w') ∧ Calls Try.prog 17 #[rmv C LL ll lc (some ⟨gg, 0, none⟩) k cap, .int .i64 a] w2 (fun e w' => e = .returned (gE E K n mm).v ∧ Below w2.heap.size w2 w')) ∧ Below W0.heap.size W0 w
theorem MEnd.at_ {m : Nat} {a nl : Int} {q : Rf} {W w : World} (h : MEnd m a nl q W) (hb : Below W.heap.size W w) : Calls Try.prog 13 #[.pointer (some ⟨m, 0, none⟩)] w (fun e w' => e = .returned (.int .i64 nl) ∧ Below w.heap.size w w') ∧ Calls Try.prog 16 #[.pointer (some ⟨m, 0, none⟩), .int .i64 a] w (fun e w' => e = .returned q.v ∧ Below w.heap.size w w') := h w hb
theorem MEnd.below {m : Nat} {a nl : Int} {q : Rf} {w w' : World} (h : MEnd m a nl q w) (hb : Below w.heap.size w w') : MEnd m a nl q w' := fun w2 h2 => h w2 (thn hb h2)
set_option maxHeartbeats 1600000 in
theorem walkModelOne (n0 n1 n2 n3 K t a b v n mm : Int) (P : Option Addr) (ln cp : Nat) (full : Bool) (W : World) (hmax : mm ≤ 9223372036854775807) : Calls Try.prog 4 #[.agg #[.int .i64 n0, .int .i64 n1, .int .i64 n2, .int .i64 n3], opv K t a b v n mm P ln cp, .bool full] W fun e w' => e = .returned (.bool true) ∧ Below W.heap.size W w' := by
  go_enter Try.func4, Try.ntmps4
  go_upto_region 1 with (fail)
  obtain ⟨w1, hw1⟩ : ∃ w1, (W.alloc (.cells #[.int .i64 n0, .int .i64 n1, .int .i64 n2, .int .i64 n3] 22)).alloc (.cells #[.int .i64 K, .int .i64 t, .int .i64 a, .int .i64 b, .int .i64 v, .int .i64 n, .int .i64 mm, .slice P ln cp] 41) = w1 := ⟨_, rfl⟩
  have bw1 : Below W.heap.size W w1 := by rw [← hw1]; exact alc (alc0 _ _) _
  have sw1 : w1.heap.size = W.heap.size + 2 := by rw [← hw1]; simp
  have XV : Hid (BX (W.heap.size) #[.int .i64 n0, .int .i64 n1, .int .i64 n2, .int .i64 n3] w1) := Lib.hid (by rw [← hw1]; exact (bx_new _ _ _).block ((alc0 _ _).block _ (by simp)))
  have XO : Hid (BX (W.heap.size + 1) #[.int .i64 K, .int .i64 t, .int .i64 a, .int .i64 b, .int .i64 v, .int .i64 n, .int .i64 mm, .slice P ln cp] w1) := Lib.hid (by rw [← hw1]; exact bx_at _ _ _ (by simp))
  rw [hw1]
  clear hw1
  have HB := Lib.hid bw1
  clear bw1
  go_wp2_with fail
  refine (w45awake _).mono ?_
  rintro e w2 ⟨rfl, bw2⟩
  have sw2 := bw2.size
  replace XV := Lib.hid (XV.out.block (bw2.block (W.heap.size) (by omega)))
  replace XO := Lib.hid (XO.out.block (bw2.block (W.heap.size + 1) (by omega)))
  replace HB := Lib.hid (thn HB.out bw2)
  clear bw2
  obtain ⟨cV0, cV1, cV2, cV3⟩ := XV.out.c4
  go_wp2_with fail
  refine (crconf n0 n1 n2 n3 true _).mono ?_
  rintro e w3 ⟨pg, rg, lg, th, ca, ba, sh, re, mo, fi, key, rfl, hcf, bw3⟩
  clear cV0 cV1 cV2 cV3
  have sw3 := bw3.size
  replace XV := Lib.hid (XV.out.block (bw3.block (W.heap.size) (by omega)))
  replace XO := Lib.hid (XO.out.block (bw3.block (W.heap.size + 1) (by omega)))
  replace HB := Lib.hid (thn HB.out bw3)
  clear bw3
  obtain ⟨C, hC⟩ : ∃ C : Cf, C = ⟨pg, rg, lg, th, ca, ba, sh, re, mo, fi, key⟩ := ⟨_, rfl⟩
  have hok : C.ok := by
    rw [hC]
    obtain ⟨c1, c2, c3, c4, c5, c6, c7, c8, c9, c10⟩ := hcf
    exact ⟨⟨by show 0 ≤ th; omega, by show th ≤ 4; omega⟩, ⟨by show 0 ≤ mo; omega, by show mo ≤ 8000; omega⟩, ⟨by show 0 ≤ fi; omega, by show fi ≤ 255; omega⟩⟩
  obtain ⟨k, hk, hk64⟩ : ∃ k : Nat, (k : Int) = min (max C.re 0) 64 ∧ k ≤ 64 := by
    rw [hC]
    exact ⟨(min (max re 0) 64).toNat, by show _ = min (max re 0) 64; omega, by omega⟩
  have hval : (#[.int .i64 pg, .int .i64 rg, .int .i64 lg, .int .i64 th, .int .i64 ca, .int .i64 ba, .int .i64 sh, .int .i64 re, .int .i64 mo, .int .i64 fi, .int .u64 key] : Array Value) = #[.int .i64 C.pg, .int .i64 C.rg, .int .i64 C.lg, .int .i64 C.th, .int .i64 C.ca, .int .i64 C.ba, .int .i64 C.sh, .int .i64 C.re, .int .i64 C.mo, .int .i64 C.fi, .int .u64 C.ky] := by rw [hC]
  rw [hval]
  clear hval hC hcf
  have HOK := Lib.hid hok
  go_upto_region 4 with (fail)
  obtain ⟨w4, hw4⟩ : ∃ w4, w3.alloc (.cells #[.int .i64 C.pg, .int .i64 C.rg, .int .i64 C.lg, .int .i64 C.th, .int .i64 C.ca, .int .i64 C.ba, .int .i64 C.sh, .int .i64 C.re, .int .i64 C.mo, .int .i64 C.fi, .int .u64 C.ky] 27) = w4 := ⟨_, rfl⟩
  have bw4 : Below w3.heap.size w3 w4 := by rw [← hw4]; exact alc0 _ _
  have sw4 : w4.heap.size = w3.heap.size + 1 := by rw [← hw4]; simp
  have XF : Hid (BX (w3.heap.size) #[.int .i64 C.pg, .int .i64 C.rg, .int .i64 C.lg, .int .i64 C.th, .int .i64 C.ca, .int .i64 C.ba, .int .i64 C.sh, .int .i64 C.re, .int .i64 C.mo, .int .i64 C.fi, .int .u64 C.ky] w4) := Lib.hid (by rw [← hw4]; exact bx_new _ _ _)
  rw [hw4]
  clear hw4
  replace XV := Lib.hid (XV.out.block (bw4.block (W.heap.size) (by omega)))
  replace XO := Lib.hid (XO.out.block (bw4.block (W.heap.size + 1) (by omega)))
  replace HB := Lib.hid (thn HB.out bw4)
  clear bw4
  obtain ⟨cF0, cF1, cF2, cF3, cF4, cF5, cF6, cF7, cF8, cF9, cF10⟩ := XF.out.c11
  go_wp2_with fail
  refine (mnew C k hk hok _).mono ?_
  rintro e w5 ⟨m, mb, r, rfl, hmo, hm1, hm2, hm3, bw5⟩
  clear cF0 cF1 cF2 cF3 cF4 cF5 cF6 cF7 cF8 cF9 cF10
  have sw5 := bw5.size
  replace XV := Lib.hid (XV.out.block (bw5.block (W.heap.size) (by omega)))
  replace XO := Lib.hid (XO.out.block (bw5.block (W.heap.size + 1) (by omega)))
  replace XF := Lib.hid (XF.out.block (bw5.block (w3.heap.size) (by omega)))
  replace HB := Lib.hid (thn HB.out bw5)
  clear bw5
  have HMO := Lib.hid hmo
  clear hmo
  obtain ⟨cO0, cO1, cO2, cO3, cO4, cO5, cO6, cO7⟩ := XO.out.c8
  go_wp2_with fail
  obtain ⟨E, hE⟩ : ∃ E, doE C k K t a b v n mm ln full = E := ⟨_, rfl⟩
  have hdo := mdo_end (k := k) K t a b v n mm P ln cp full hmax HMO.out
  rw [hE] at hdo
  refine hdo.mono ?_
  rintro e w6 ⟨rfl, hme, sw6, hk6, hl6⟩
  clear cO0 cO1 cO2 cO3 cO4 cO5 cO6 cO7
  have HME := Lib.hid hme
  clear hdo hme HMO
  replace XV := Lib.hid (XV.out.block (hk6 (W.heap.size) (by omega) (by omega) (by omega) (by omega)))
  replace XO := Lib.hid (XO.out.block (hk6 (W.heap.size + 1) (by omega) (by omega) (by omega) (by omega)))
  replace XF := Lib.hid (XF.out.block (hk6 (w3.heap.size) (by omega) (by omega) (by omega) (by omega)))
  replace HB := Lib.hid (HB.out.trans (hl6 W.heap.size (by omega) (by omega) (by omega) (by omega)))
  clear hk6 hl6
  go_upto_region 6 with (fail)
  obtain ⟨w7, hw7⟩ : ∃ w7, w6.alloc (.cells #[.int .i64 E, .int .i64 0, .slice none 0 0] 39) = w7 := ⟨_, rfl⟩
  have bw7 : Below w6.heap.size w6 w7 := by rw [← hw7]; exact alc0 _ _
  have sw7 : w7.heap.size = w6.heap.size + 1 := by rw [← hw7]; simp
  have XR : Hid (BX (w6.heap.size) #[.int .i64 E, .int .i64 0, .slice none 0 0] w7) := Lib.hid (by rw [← hw7]; exact bx_new _ _ _)
  rw [hw7]
  clear hw7
  replace XV := Lib.hid (XV.out.block (bw7.block (W.heap.size) (by omega)))
  replace XO := Lib.hid (XO.out.block (bw7.block (W.heap.size + 1) (by omega)))
  replace XF := Lib.hid (XF.out.block (bw7.block (w3.heap.size) (by omega)))
  replace HB := Lib.hid (thn HB.out bw7)
  have b67 := bw7
  clear bw7
  have HB6 := Lib.hid b67
  clear b67
  obtain ⟨cF0, cF1, cF2, cF3, cF4, cF5, cF6, cF7, cF8, cF9, cF10⟩ := XF.out.c11
  obtain ⟨cO0, cO1, cO2, cO3, cO4, cO5, cO6, cO7⟩ := XO.out.c8
  go_cut [10, 11] (fun v10 v11 wx => ∃ x y LL ll lc gg cap, v10 = .pointer (some ⟨x, 0, none⟩) ∧ v11 = .pointer (some ⟨y, 0, none⟩) ∧ Hid (FIN C m k a E K n mm P t b v ln cp (W.heap.size + 1) w6.heap.size x y LL ll lc gg cap W wx))
  case first =>
    refine wp_region_held_drew (S := fun w' => w'.cell? ⟨w3.heap.size, 0, none⟩ = some (.int .i64 C.pg) ∧ w'.cell? ⟨w3.heap.size, 1, none⟩ = some (.int .i64 C.rg) ∧ w'.cell? ⟨w3.heap.size, 2, none⟩ = some (.int .i64 C.lg) ∧ w'.cell? ⟨w3.heap.size, 3, none⟩ = some (.int .i64 C.th) ∧ w'.cell? ⟨w3.heap.size, 4, none⟩ = some (.int .i64 C.ca) ∧ w'.cell? ⟨w3.heap.size, 5, none⟩ = some (.int .i64 C.ba) ∧ w'.cell? ⟨w3.heap.size, 6, none⟩ = some (.int .i64 C.sh) ∧ w'.cell? ⟨w3.heap.size, 7, none⟩ = some (.int .i64 C.re) ∧ w'.cell? ⟨w3.heap.size, 8, none⟩ = some (.int .i64 C.mo) ∧ w'.cell? ⟨w3.heap.size, 9, none⟩ = some (.int .i64 C.fi) ∧ w'.cell? ⟨w3.heap.size, 10, none⟩ = some (.int .u64 C.ky) ∧ w'.cell? ⟨W.heap.size + 1, 0, none⟩ = some (.int .i64 K) ∧ w'.cell? ⟨W.heap.size + 1, 1, none⟩ = some (.int .i64 t) ∧ w'.cell? ⟨W.heap.size + 1, 2, none⟩ = some (.int .i64 a) ∧ w'.cell? ⟨W.heap.size + 1, 3, none⟩ = some (.int .i64 b) ∧ w'.cell? ⟨W.heap.size + 1, 4, none⟩ = some (.int .i64 v) ∧ w'.cell? ⟨W.heap.size + 1, 5, none⟩ = some (.int .i64 n) ∧ w'.cell? ⟨W.heap.size + 1, 6, none⟩ = some (.int .i64 mm) ∧ w'.cell? ⟨W.heap.size + 1, 7, none⟩ = some (.slice P ln cp)) (by kernel_rfl) ?_ (fun hHeld => ?_)
    · exact ⟨cF0, cF1, cF2, cF3, cF4, cF5, cF6, cF7, cF8, cF9, cF10, cO0, cO1, cO2, cO3, cO4, cO5, cO6, cO7⟩
    clear hok
    obtain ⟨w21, hw21⟩ : ∃ w21, w7.drew = w21 := ⟨_, rfl⟩
    rw [hw21] at hHeld ⊢
    have bw21 : Below w7.heap.size w7 w21 := by rw [← hw21]; exact (Below.refl _ w7).drew
    have sw21 : w21.heap.size = w7.heap.size := by rw [← hw21]; rfl
    clear hw21
    clear cF0 cF1 cF2 cF3 cF4 cF5 cF6 cF7 cF8 cF9 cF10 cO0 cO1 cO2 cO3 cO4 cO5 cO6 cO7
    replace HB6 := Lib.hid (thn HB6.out bw21)
    replace XV := Lib.hid (XV.out.block (bw21.block (W.heap.size) (by omega)))
    replace XO := Lib.hid (XO.out.block (bw21.block (W.heap.size + 1) (by omega)))
    replace XF := Lib.hid (XF.out.block (bw21.block (w3.heap.size) (by omega)))
    replace XR := Lib.hid (XR.out.block (bw21.block (w6.heap.size) (by omega)))
    replace HB := Lib.hid (thn HB.out bw21)
    clear bw21
    replace sw21 := Nat.le_of_eq sw21.symm
    replace sw7 := Nat.le_of_eq sw7.symm
    refine wpAnyH_take (i := 0) (v := ?_) rfl (by kernel_rfl) (by kernel_rfl) (by kernel_rfl) (fun _ _ _ h => h) (Or.inl ⟨by kernel_rfl, ?_⟩) (by assumption) ?_
    rotate_left
    · (intro w hSw; (try dsimp only at hSw); go_simp)
      try (with_reducible rfl)
    rotate_left
    try simp (maxSteps := 4000000) only [Act.put, List.setIfInBounds_toArray, List.set_cons_zero, List.set_cons_succ, List.getElem_toArray, List.getElem_cons_zero, List.getElem_cons_succ]
    refine wpAnyH_take (i := 2) (v := ?_) rfl (by kernel_rfl) (by kernel_rfl) (by kernel_rfl) (fun _ _ _ h => h) (Or.inl ⟨by kernel_rfl, ?_⟩) (by assumption) ?_
    rotate_left
    · (intro w hSw; (try dsimp only at hSw); go_simp)
      try (with_reducible rfl)
    rotate_left
    try simp (maxSteps := 4000000) only [Act.put, List.setIfInBounds_toArray, List.set_cons_zero, List.set_cons_succ, List.getElem_toArray, List.getElem_cons_zero, List.getElem_cons_succ]
    refine wpAnyH_take (i := 3) (v := ?_) rfl (by kernel_rfl) (by kernel_rfl) (by kernel_rfl) (fun _ _ _ h => h) (Or.inl ⟨by kernel_rfl, ?_⟩) (by assumption) ?_
    rotate_left
    · (intro w hSw; (try dsimp only at hSw); go_simp)
      try (with_reducible rfl)
    rotate_left
    try simp (maxSteps := 4000000) only [Act.put, List.setIfInBounds_toArray, List.set_cons_zero, List.set_cons_succ, List.getElem_toArray, List.getElem_cons_zero, List.getElem_cons_succ]
    refine wpAnyH_ready (rs := [1, 8, 9]) (by kernel_rfl) (by simp) ?_
    refine AllReadyH.cons rfl (fun K2 hK2 => ?_) (AllReadyH.cons rfl (fun K2 hK2 => ?_) (AllReadyH.cons rfl (fun K2 hK2 => ?_) AllReadyH.nil))
    all_goals go_simp
    · with_reducible refine Calls.mono (rnew2 C k hk.symm _) ?_
      rintro e w22 ⟨rr, rfl, hz, hrr1, hrr2, bw22⟩
      have sw22 := bw22.size
      replace HB6 := Lib.hid (thn HB6.out bw22)
      replace XV := Lib.hid (XV.out.block (bw22.block (W.heap.size) (by omega)))
      replace XO := Lib.hid (XO.out.block (bw22.block (W.heap.size + 1) (by omega)))
      replace XF := Lib.hid (XF.out.block (bw22.block (w3.heap.size) (by omega)))
      replace XR := Lib.hid (XR.out.block (bw22.block (w6.heap.size) (by omega)))
      replace HB := Lib.hid (thn HB.out bw22)
      clear bw22
      have HZ : Hid (RZ rr k w22) := Lib.hid ⟨hz, hrr2⟩
      clear hz
      obtain ⟨cF0, cF1, cF2, cF3, cF4, cF5, cF6, cF7, cF8, cF9, cF10⟩ := XF.out.c11
      obtain ⟨cO0, cO1, cO2, cO3, cO4, cO5, cO6, cO7⟩ := XO.out.c8
      refine hK2.out _ _ (⟨cF0, cF1, cF2, cF3, cF4, cF5, cF6, cF7, cF8, cF9, cF10, cO0, cO1, cO2, cO3, cO4, cO5, cO6, cO7⟩) (fun hHeld2 => ?_)
      clear hK2 K2 hHeld
      have hHeld := hHeld2
      clear hHeld2
      try simp (maxSteps := 4000000) only [Act.put, List.setIfInBounds_toArray, List.set_cons_zero, List.set_cons_succ]
      refine wpAnyH_ready (rs := [4, 8, 9]) (by kernel_rfl) (by simp) ?_
      refine AllReadyH.cons rfl (fun K2 hK2 => ?_) (AllReadyH.cons rfl (fun K2 hK2 => ?_) (AllReadyH.cons rfl (fun K2 hK2 => ?_) AllReadyH.nil))
      all_goals go_simp
      · have hrd := rdo_end K t a b v n mm P ln cp full hk64 HOK.out hmax HZ.out (kc := k)
        rw [hE] at hrd
        with_reducible refine Calls.mono hrd ?_
        rintro e w23 ⟨LL, ll, lc, gg, cap, lb, rfl, hre, hg1, hl1, hg2, hl2, bw23⟩
        clear hrd
        clear cF0 cF1 cF2 cF3 cF4 cF5 cF6 cF7 cF8 cF9 cF10 cO0 cO1 cO2 cO3 cO4 cO5 cO6 cO7
        have sw23 := bw23.size
        replace HB6 := Lib.hid (thn HB6.out bw23)
        replace HZ := Lib.hid (HZ.out.below bw23)
        replace XV := Lib.hid (XV.out.block (bw23.block (W.heap.size) (by omega)))
        replace XO := Lib.hid (XO.out.block (bw23.block (W.heap.size + 1) (by omega)))
        replace XF := Lib.hid (XF.out.block (bw23.block (w3.heap.size) (by omega)))
        replace XR := Lib.hid (XR.out.block (bw23.block (w6.heap.size) (by omega)))
        replace HB := Lib.hid (thn HB.out bw23)
        clear bw23
        have HRE := Lib.hid hre
        clear hre
        have HGK : Hid (w23.heap[gg]? = w23.heap[gg]? ∧ w23.heap[lb]? = w23.heap[lb]? ∧ w23.heap.size ≤ w23.heap.size) := Lib.hid ⟨rfl, rfl, Nat.le_refl _⟩
        obtain ⟨cF0, cF1, cF2, cF3, cF4, cF5, cF6, cF7, cF8, cF9, cF10⟩ := XF.out.c11
        obtain ⟨cO0, cO1, cO2, cO3, cO4, cO5, cO6, cO7⟩ := XO.out.c8
        refine hK2.out _ _ (⟨cF0, cF1, cF2, cF3, cF4, cF5, cF6, cF7, cF8, cF9, cF10, cO0, cO1, cO2, cO3, cO4, cO5, cO6, cO7⟩) (fun hHeld2 => ?_)
        clear hK2 K2 hHeld
        have hHeld := hHeld2
        clear hHeld2
        try simp (maxSteps := 4000000) only [Act.put, List.setIfInBounds_toArray, List.set_cons_zero, List.set_cons_succ]
        refine wpAnyH_take (i := 5) (v := ?_) rfl (by kernel_rfl) (by kernel_rfl) (by kernel_rfl) (fun _ _ _ h => h) (Or.inl ⟨by kernel_rfl, ?_⟩) (by assumption) ?_
        rotate_left
        · (intro w hSw; (try dsimp only at hSw); go_simp)
          try (with_reducible rfl)
        rotate_left
        try simp (maxSteps := 4000000) only [Act.put, List.setIfInBounds_toArray, List.set_cons_zero, List.set_cons_succ, List.getElem_toArray, List.getElem_cons_zero, List.getElem_cons_succ]
        refine wpAnyH_take (i := 6) (v := ?_) rfl (by kernel_rfl) (by kernel_rfl) (by kernel_rfl) (fun _ _ _ h => h) (Or.inl ⟨by kernel_rfl, ?_⟩) (by assumption) ?_
        rotate_left
        · (intro w hSw; (try dsimp only at hSw); go_simp)
          try (with_reducible rfl)
        rotate_left
        try simp (maxSteps := 4000000) only [Act.put, List.setIfInBounds_toArray, List.set_cons_zero, List.set_cons_succ, List.getElem_toArray, List.getElem_cons_zero, List.getElem_cons_succ]
        refine wpAnyH_take (i := 7) (v := ?_) rfl (by kernel_rfl) (by kernel_rfl) (by kernel_rfl) (fun _ _ _ h => h) (Or.inl ⟨by kernel_rfl, ?_⟩) (by assumption) ?_
        rotate_left
        · (intro w hSw; (try dsimp only at hSw); go_simp)
          try (with_reducible rfl)
        rotate_left
        try simp (maxSteps := 4000000) only [Act.put, List.setIfInBounds_toArray, List.set_cons_zero, List.set_cons_succ, List.getElem_toArray, List.getElem_cons_zero, List.getElem_cons_succ]
        refine wpAnyH_ready (rs := [8, 9]) (by kernel_rfl) (by simp) ?_
        refine AllReadyH.cons rfl (fun K2 hK2 => ?_) (AllReadyH.cons rfl (fun K2 hK2 => ?_) AllReadyH.nil)
        all_goals go_simp
        · clear cF0 cF1 cF2 cF3 cF4 cF5 cF6 cF7 cF8 cF9 cF10 cO0 cO1 cO2 cO3 cO4 cO5 cO6 cO7
          obtain ⟨w24, hw24⟩ : ∃ w24, w23.alloc (.cells #[.int .i64 0, .int .i64 0, .int .i64 0, .int .i64 0, .int .i64 0, .int .i64 0, .int .i64 0, .int .i64 0, .int .i64 0, .int .i64 0, .int .u64 0, .slice none 0 0, .slice none 0 0] 34) = w24 := ⟨_, rfl⟩
          have bw24 : Below w23.heap.size w23 w24 := by rw [← hw24]; exact alc0 _ _
          have sw24 : w24.heap.size = w23.heap.size + 1 := by rw [← hw24]; simp
          have XM : Hid (BX (w23.heap.size) #[.int .i64 0, .int .i64 0, .int .i64 0, .int .i64 0, .int .i64 0, .int .i64 0, .int .i64 0, .int .i64 0, .int .i64 0, .int .i64 0, .int .u64 0, .slice none 0 0, .slice none 0 0] w24) := Lib.hid (by rw [← hw24]; exact bx_new _ _ _)
          rw [hw24]
          clear hw24
          replace HB6 := Lib.hid (thn HB6.out bw24)
          replace HZ := Lib.hid (HZ.out.below bw24)
          replace HGK := Lib.hid (And.intro ((bw24.block gg (by omega)).trans HGK.out.1) (And.intro ((bw24.block lb (by omega)).trans HGK.out.2.1) (Nat.le_trans HGK.out.2.2 bw24.size)))
          replace XV := Lib.hid (XV.out.block (bw24.block (W.heap.size) (by omega)))
          replace XO := Lib.hid (XO.out.block (bw24.block (W.heap.size + 1) (by omega)))
          replace XF := Lib.hid (XF.out.block (bw24.block (w3.heap.size) (by omega)))
          replace XR := Lib.hid (XR.out.block (bw24.block (w6.heap.size) (by omega)))
          replace HB := Lib.hid (thn HB.out bw24)
          clear bw24
          replace sw24 := Nat.le_of_eq sw24.symm
          obtain ⟨cF0, cF1, cF2, cF3, cF4, cF5, cF6, cF7, cF8, cF9, cF10⟩ := XF.out.c11
          obtain ⟨cO0, cO1, cO2, cO3, cO4, cO5, cO6, cO7⟩ := XO.out.c8
          refine hK2.out _ _ (⟨cF0, cF1, cF2, cF3, cF4, cF5, cF6, cF7, cF8, cF9, cF10, cO0, cO1, cO2, cO3, cO4, cO5, cO6, cO7⟩) (fun hHeld2 => ?_)
          clear hK2 K2 hHeld
          have hHeld := hHeld2
          clear hHeld2
          try simp (maxSteps := 4000000) only [Act.put, List.setIfInBounds_toArray, List.set_cons_zero, List.set_cons_succ]
          refine wpAnyH_ready (rs := [9]) (by kernel_rfl) (by simp) ?_
          refine AllReadyH.cons rfl (fun K2 hK2 => ?_) AllReadyH.nil
          go_simp
          clear cF0 cF1 cF2 cF3 cF4 cF5 cF6 cF7 cF8 cF9 cF10 cO0 cO1 cO2 cO3 cO4 cO5 cO6 cO7
          obtain ⟨w25, hw25⟩ : ∃ w25, w24.alloc (.cells #[.int .i64 0, .int .i64 0, .slice none 0 0] 39) = w25 := ⟨_, rfl⟩
          have bw25 : Below w24.heap.size w24 w25 := by rw [← hw25]; exact alc0 _ _
          have sw25 : w25.heap.size = w24.heap.size + 1 := by rw [← hw25]; simp
          have XS : Hid (BX (w24.heap.size) #[.int .i64 0, .int .i64 0, .slice none 0 0] w25) := Lib.hid (by rw [← hw25]; exact bx_new _ _ _)
          rw [hw25]
          clear hw25
          replace HB6 := Lib.hid (thn HB6.out bw25)
          replace HZ := Lib.hid (HZ.out.below bw25)
          replace HGK := Lib.hid (And.intro ((bw25.block gg (by omega)).trans HGK.out.1) (And.intro ((bw25.block lb (by omega)).trans HGK.out.2.1) (Nat.le_trans HGK.out.2.2 bw25.size)))
          replace XV := Lib.hid (XV.out.block (bw25.block (W.heap.size) (by omega)))
          replace XO := Lib.hid (XO.out.block (bw25.block (W.heap.size + 1) (by omega)))
          replace XF := Lib.hid (XF.out.block (bw25.block (w3.heap.size) (by omega)))
          replace XR := Lib.hid (XR.out.block (bw25.block (w6.heap.size) (by omega)))
          replace XM := Lib.hid (XM.out.block (bw25.block (w23.heap.size) (by omega)))
          replace HB := Lib.hid (thn HB.out bw25)
          clear bw25
          replace sw25 := Nat.le_of_eq sw25.symm
          obtain ⟨cF0, cF1, cF2, cF3, cF4, cF5, cF6, cF7, cF8, cF9, cF10⟩ := XF.out.c11
          obtain ⟨cO0, cO1, cO2, cO3, cO4, cO5, cO6, cO7⟩ := XO.out.c8
          refine hK2.out _ _ (⟨cF0, cF1, cF2, cF3, cF4, cF5, cF6, cF7, cF8, cF9, cF10, cO0, cO1, cO2, cO3, cO4, cO5, cO6, cO7⟩) (fun hHeld2 => ?_)
          clear hK2 K2 hHeld
          have hHeld := hHeld2
          clear hHeld2
          try simp (maxSteps := 4000000) only [Act.put, List.setIfInBounds_toArray, List.set_cons_zero, List.set_cons_succ]
          obtain ⟨cM0, cM1, cM2, cM3, cM4, cM5, cM6, cM7, cM8, cM9, cM10, cM11, cM12⟩ := XM.out.c13
          obtain ⟨cS0, cS1, cS2⟩ := XS.out.c3
          obtain ⟨fM0, fM1, fM2, fM3, fM4, fM5, fM6, fM7, fM8, fM9, fM10, fM11, fM12⟩ := XM.out.f13
          obtain ⟨fS0, fS1, fS2⟩ := XS.out.f3
          refine wpAnyH_ready (rs := [10]) (by kernel_rfl) (by simp) ?_
          refine AllReadyH.cons rfl (fun K2 hK2 => ?_) AllReadyH.nil
          go_simp
          obtain ⟨w26, hw26⟩ : ∃ w26, w26 = sets13 w25 (w23.heap.size) (.int .i64 C.pg) (.int .i64 C.rg) (.int .i64 C.lg) (.int .i64 C.th) (.int .i64 C.ca) (.int .i64 C.ba) (.int .i64 C.sh) (.int .i64 C.re) (.int .i64 C.mo) (.int .i64 C.fi) (.int .u64 C.ky) (.slice LL ll lc) (.slice (some ⟨gg, 0, none⟩) k cap) := ⟨_, rfl⟩
          obtain ⟨sw26, kw26, lw26, XMn⟩ := XM.out.put13s rfl hw26
          unfold sets13 at hw26
          rw [← hw26]
          clear hw26
          clear cF0 cF1 cF2 cF3 cF4 cF5 cF6 cF7 cF8 cF9 cF10 cO0 cO1 cO2 cO3 cO4 cO5 cO6 cO7 cM0 cM1 cM2 cM3 cM4 cM5 cM6 cM7 cM8 cM9 cM10 cM11 cM12 cS0 cS1 cS2 fM0 fM1 fM2 fM3 fM4 fM5 fM6 fM7 fM8 fM9 fM10 fM11 fM12 fS0 fS1 fS2
          replace XM := Lib.hid XMn
          clear XMn
          replace XV := Lib.hid (XV.out.block (kw26 (W.heap.size) (by omega)))
          replace XO := Lib.hid (XO.out.block (kw26 (W.heap.size + 1) (by omega)))
          replace XF := Lib.hid (XF.out.block (kw26 (w3.heap.size) (by omega)))
          replace XR := Lib.hid (XR.out.block (kw26 (w6.heap.size) (by omega)))
          replace XS := Lib.hid (XS.out.block (kw26 (w24.heap.size) (by omega)))
          replace HB := Lib.hid (HB.out.trans (lw26 W.heap.size (by omega)))
          replace HB6 := Lib.hid (HB6.out.trans (lw26 w6.heap.size (by omega)))
          replace HGK := Lib.hid (And.intro ((kw26 gg (by omega)).trans HGK.out.1) (And.intro ((kw26 lb (by omega)).trans HGK.out.2.1) (Nat.le_trans HGK.out.2.2 (Nat.le_of_eq sw26.symm))))
          clear kw26 lw26
          obtain ⟨cF0, cF1, cF2, cF3, cF4, cF5, cF6, cF7, cF8, cF9, cF10⟩ := XF.out.c11
          obtain ⟨cO0, cO1, cO2, cO3, cO4, cO5, cO6, cO7⟩ := XO.out.c8
          obtain ⟨cS0, cS1, cS2⟩ := XS.out.c3
          obtain ⟨fS0, fS1, fS2⟩ := XS.out.f3
          refine hK2.out _ _ (⟨cF0, cF1, cF2, cF3, cF4, cF5, cF6, cF7, cF8, cF9, cF10, cO0, cO1, cO2, cO3, cO4, cO5, cO6, cO7⟩) (fun hHeld2 => ?_)
          clear hK2 K2 hHeld
          have hHeld := hHeld2
          clear hHeld2
          try simp (maxSteps := 4000000) only [Act.put, List.setIfInBounds_toArray, List.set_cons_zero, List.set_cons_succ]
          refine wpAnyH_ready (rs := [11]) (by kernel_rfl) (by simp) ?_
          refine AllReadyH.cons rfl (fun K2 hK2 => ?_) AllReadyH.nil
          go_simp
          obtain ⟨w27, hw27⟩ : ∃ w27, w27 = sets3 w26 (w24.heap.size) (.int .i64 E) (.int .i64 0) (.slice none 0 0) := ⟨_, rfl⟩
          obtain ⟨sw27, kw27, lw27, XSn⟩ := XS.out.put3s rfl hw27
          unfold sets3 at hw27
          rw [← hw27]
          clear hw27
          clear cF0 cF1 cF2 cF3 cF4 cF5 cF6 cF7 cF8 cF9 cF10 cO0 cO1 cO2 cO3 cO4 cO5 cO6 cO7 cS0 cS1 cS2 fS0 fS1 fS2
          replace XS := Lib.hid XSn
          clear XSn
          replace XV := Lib.hid (XV.out.block (kw27 (W.heap.size) (by omega)))
          replace XO := Lib.hid (XO.out.block (kw27 (W.heap.size + 1) (by omega)))
          replace XF := Lib.hid (XF.out.block (kw27 (w3.heap.size) (by omega)))
          replace XR := Lib.hid (XR.out.block (kw27 (w6.heap.size) (by omega)))
          replace XM := Lib.hid (XM.out.block (kw27 (w23.heap.size) (by omega)))
          replace HB := Lib.hid (HB.out.trans (lw27 W.heap.size (by omega)))
          replace HB6 := Lib.hid (HB6.out.trans (lw27 w6.heap.size (by omega)))
          replace HGK := Lib.hid (And.intro ((kw27 gg (by omega)).trans HGK.out.1) (And.intro ((kw27 lb (by omega)).trans HGK.out.2.1) (Nat.le_trans HGK.out.2.2 (Nat.le_of_eq sw27.symm))))
          clear kw27 lw27
          obtain ⟨cF0, cF1, cF2, cF3, cF4, cF5, cF6, cF7, cF8, cF9, cF10⟩ := XF.out.c11
          obtain ⟨cO0, cO1, cO2, cO3, cO4, cO5, cO6, cO7⟩ := XO.out.c8
          refine hK2.out _ _ (⟨cF0, cF1, cF2, cF3, cF4, cF5, cF6, cF7, cF8, cF9, cF10, cO0, cO1, cO2, cO3, cO4, cO5, cO6, cO7⟩) (fun hHeld2 => ?_)
          clear hK2 K2 hHeld
          have hHeld := hHeld2
          clear hHeld2
          try simp (maxSteps := 4000000) only [Act.put, List.setIfInBounds_toArray, List.set_cons_zero, List.set_cons_succ]
          refine wpAnyH_done (by kernel_rfl) ?_ _
          go_wp2
          go_meet
          refine ⟨_, _, LL, ll, lc, gg, cap, rfl, rfl, Lib.hid ⟨⟨by omega, by omega, by omega, by omega⟩, XO.out, XR.out, XM.out, XS.out, HME.out.below HB6.out, fun w2 h2 => HRE.out w2 ((h2.block gg (by omega)).trans HGK.out.1) ((h2.block lb (by omega)).trans HGK.out.2.1) (by have h9 := HGK.out.2.2; have h8 := h2.size; omega), HB.out⟩⟩
        · clear cF0 cF1 cF2 cF3 cF4 cF5 cF6 cF7 cF8 cF9 cF10 cO0 cO1 cO2 cO3 cO4 cO5 cO6 cO7
          obtain ⟨w24, hw24⟩ : ∃ w24, w23.alloc (.cells #[.int .i64 0, .int .i64 0, .slice none 0 0] 39) = w24 := ⟨_, rfl⟩
          have bw24 : Below w23.heap.size w23 w24 := by rw [← hw24]; exact alc0 _ _
          have sw24 : w24.heap.size = w23.heap.size + 1 := by rw [← hw24]; simp
          have XS : Hid (BX (w23.heap.size) #[.int .i64 0, .int .i64 0, .slice none 0 0] w24) := Lib.hid (by rw [← hw24]; exact bx_new _ _ _)
          rw [hw24]
          clear hw24
          replace HB6 := Lib.hid (thn HB6.out bw24)
          replace HZ := Lib.hid (HZ.out.below bw24)
          replace HGK := Lib.hid (And.intro ((bw24.block gg (by omega)).trans HGK.out.1) (And.intro ((bw24.block lb (by omega)).trans HGK.out.2.1) (Nat.le_trans HGK.out.2.2 bw24.size)))
          replace XV := Lib.hid (XV.out.block (bw24.block (W.heap.size) (by omega)))
          replace XO := Lib.hid (XO.out.block (bw24.block (W.heap.size + 1) (by omega)))
          replace XF := Lib.hid (XF.out.block (bw24.block (w3.heap.size) (by omega)))
          replace XR := Lib.hid (XR.out.block (bw24.block (w6.heap.size) (by omega)))
          replace HB := Lib.hid (thn HB.out bw24)
          clear bw24
          replace sw24 := Nat.le_of_eq sw24.symm
          obtain ⟨cF0, cF1, cF2, cF3, cF4, cF5, cF6, cF7, cF8, cF9, cF10⟩ := XF.out.c11
          obtain ⟨cO0, cO1, cO2, cO3, cO4, cO5, cO6, cO7⟩ := XO.out.c8
          refine hK2.out _ _ (⟨cF0, cF1, cF2, cF3, cF4, cF5, cF6, cF7, cF8, cF9, cF10, cO0, cO1, cO2, cO3, cO4, cO5, cO6, cO7⟩) (fun hHeld2 => ?_)
          clear hK2 K2 hHeld
          have hHeld := hHeld2
          clear hHeld2
          try simp (maxSteps := 4000000) only [Act.put, List.setIfInBounds_toArray, List.set_cons_zero, List.set_cons_succ]
          refine wpAnyH_ready (rs := [8]) (by kernel_rfl) (by simp) ?_
          refine AllReadyH.cons rfl (fun K2 hK2 => ?_) AllReadyH.nil
          go_simp
          clear cF0 cF1 cF2 cF3 cF4 cF5 cF6 cF7 cF8 cF9 cF10 cO0 cO1 cO2 cO3 cO4 cO5 cO6 cO7
          obtain ⟨w25, hw25⟩ : ∃ w25, w24.alloc (.cells #[.int .i64 0, .int .i64 0, .int .i64 0, .int .i64 0, .int .i64 0, .int .i64 0, .int .i64 0, .int .i64 0, .int .i64 0, .int .i64 0, .int .u64 0, .slice none 0 0, .slice none 0 0] 34) = w25 := ⟨_, rfl⟩
          have bw25 : Below w24.heap.size w24 w25 := by rw [← hw25]; exact alc0 _ _
          have sw25 : w25.heap.size = w24.heap.size + 1 := by rw [← hw25]; simp
          have XM : Hid (BX (w24.heap.size) #[.int .i64 0, .int .i64 0, .int .i64 0, .int .i64 0, .int .i64 0, .int .i64 0, .int .i64 0, .int .i64 0, .int .i64 0, .int .i64 0, .int .u64 0, .slice none 0 0, .slice none 0 0] w25) := Lib.hid (by rw [← hw25]; exact bx_new _ _ _)
          rw [hw25]
          clear hw25
          replace HB6 := Lib.hid (thn HB6.out bw25)
          replace HZ := Lib.hid (HZ.out.below bw25)
          replace HGK := Lib.hid (And.intro ((bw25.block gg (by omega)).trans HGK.out.1) (And.intro ((bw25.block lb (by omega)).trans HGK.out.2.1) (Nat.le_trans HGK.out.2.2 bw25.size)))
          replace XV := Lib.hid (XV.out.block (bw25.block (W.heap.size) (by omega)))
          replace XO := Lib.hid (XO.out.block (bw25.block (W.heap.size + 1) (by omega)))
          replace XF := Lib.hid (XF.out.block (bw25.block (w3.heap.size) (by omega)))
          replace XR := Lib.hid (XR.out.block (bw25.block (w6.heap.size) (by omega)))
          replace XS := Lib.hid (XS.out.block (bw25.block (w23.heap.size) (by omega)))
          replace HB := Lib.hid (thn HB.out bw25)
          clear bw25
          replace sw25 := Nat.le_of_eq sw25.symm
          obtain ⟨cF0, cF1, cF2, cF3, cF4, cF5, cF6, cF7, cF8, cF9, cF10⟩ := XF.out.c11
          obtain ⟨cO0, cO1, cO2, cO3, cO4, cO5, cO6, cO7⟩ := XO.out.c8
          refine hK2.out _ _ (⟨cF0, cF1, cF2, cF3, cF4, cF5, cF6, cF7, cF8, cF9, cF10, cO0, cO1, cO2, cO3, cO4, cO5, cO6, cO7⟩) (fun hHeld2 => ?_)
          clear hK2 K2 hHeld
          have hHeld := hHeld2
          clear hHeld2
          try simp (maxSteps := 4000000) only [Act.put, List.setIfInBounds_toArray, List.set_cons_zero, List.set_cons_succ]
          obtain ⟨cM0, cM1, cM2, cM3, cM4, cM5, cM6, cM7, cM8, cM9, cM10, cM11, cM12⟩ := XM.out.c13
          obtain ⟨cS0, cS1, cS2⟩ := XS.out.c3
          obtain ⟨fM0, fM1, fM2, fM3, fM4, fM5, fM6, fM7, fM8, fM9, fM10, fM11, fM12⟩ := XM.out.f13
          obtain ⟨fS0, fS1, fS2⟩ := XS.out.f3
          refine wpAnyH_ready (rs := [10]) (by kernel_rfl) (by simp) ?_
          refine AllReadyH.cons rfl (fun K2 hK2 => ?_) AllReadyH.nil
          go_simp
          obtain ⟨w26, hw26⟩ : ∃ w26, w26 = sets13 w25 (w24.heap.size) (.int .i64 C.pg) (.int .i64 C.rg) (.int .i64 C.lg) (.int .i64 C.th) (.int .i64 C.ca) (.int .i64 C.ba) (.int .i64 C.sh) (.int .i64 C.re) (.int .i64 C.mo) (.int .i64 C.fi) (.int .u64 C.ky) (.slice LL ll lc) (.slice (some ⟨gg, 0, none⟩) k cap) := ⟨_, rfl⟩
          obtain ⟨sw26, kw26, lw26, XMn⟩ := XM.out.put13s rfl hw26
          unfold sets13 at hw26
          rw [← hw26]
          clear hw26
          clear cF0 cF1 cF2 cF3 cF4 cF5 cF6 cF7 cF8 cF9 cF10 cO0 cO1 cO2 cO3 cO4 cO5 cO6 cO7 cM0 cM1 cM2 cM3 cM4 cM5 cM6 cM7 cM8 cM9 cM10 cM11 cM12 cS0 cS1 cS2 fM0 fM1 fM2 fM3 fM4 fM5 fM6 fM7 fM8 fM9 fM10 fM11 fM12 fS0 fS1 fS2
          replace XM := Lib.hid XMn
          clear XMn
          replace XV := Lib.hid (XV.out.block (kw26 (W.heap.size) (by omega)))
          replace XO := Lib.hid (XO.out.block (kw26 (W.heap.size + 1) (by omega)))
          replace XF := Lib.hid (XF.out.block (kw26 (w3.heap.size) (by omega)))
          replace XR := Lib.hid (XR.out.block (kw26 (w6.heap.size) (by omega)))
          replace XS := Lib.hid (XS.out.block (kw26 (w23.heap.size) (by omega)))
          replace HB := Lib.hid (HB.out.trans (lw26 W.heap.size (by omega)))
          replace HB6 := Lib.hid (HB6.out.trans (lw26 w6.heap.size (by omega)))
          replace HGK := Lib.hid (And.intro ((kw26 gg (by omega)).trans HGK.out.1) (And.intro ((kw26 lb (by omega)).trans HGK.out.2.1) (Nat.le_trans HGK.out.2.2 (Nat.le_of_eq sw26.symm))))
          clear kw26 lw26
          obtain ⟨cF0, cF1, cF2, cF3, cF4, cF5, cF6, cF7, cF8, cF9, cF10⟩ := XF.out.c11
          obtain ⟨cO0, cO1, cO2, cO3, cO4, cO5, cO6, cO7⟩ := XO.out.c8
          obtain ⟨cS0, cS1, cS2⟩ := XS.out.c3
          obtain ⟨fS0, fS1, fS2⟩ := XS.out.f3
          refine hK2.out _ _ (⟨cF0, cF1, cF2, cF3, cF4, cF5, cF6, cF7, cF8, cF9, cF10, cO0, cO1, cO2, cO3, cO4, cO5, cO6, cO7⟩) (fun hHeld2 => ?_)
          clear hK2 K2 hHeld
          have hHeld := hHeld2
          clear hHeld2
          try simp (maxSteps := 4000000) only [Act.put, List.setIfInBounds_toArray, List.set_cons_zero, List.set_cons_succ]
          refine wpAnyH_ready (rs := [11]) (by kernel_rfl) (by simp) ?_
          refine AllReadyH.cons rfl (fun K2 hK2 => ?_) AllReadyH.nil
          go_simp
          obtain ⟨w27, hw27⟩ : ∃ w27, w27 = sets3 w26 (w23.heap.size) (.int .i64 E) (.int .i64 0) (.slice none 0 0) := ⟨_, rfl⟩
          obtain ⟨sw27, kw27, lw27, XSn⟩ := XS.out.put3s rfl hw27
          unfold sets3 at hw27
          rw [← hw27]
          clear hw27
          clear cF0 cF1 cF2 cF3 cF4 cF5 cF6 cF7 cF8 cF9 cF10 cO0 cO1 cO2 cO3 cO4 cO5 cO6 cO7 cS0 cS1 cS2 fS0 fS1 fS2
          replace XS := Lib.hid XSn
          clear XSn
          replace XV := Lib.hid (XV.out.block (kw27 (W.heap.size) (by omega)))
          replace XO := Lib.hid (XO.out.block (kw27 (W.heap.size + 1) (by omega)))
          replace XF := Lib.hid (XF.out.block (kw27 (w3.heap.size) (by omega)))
          replace XR := Lib.hid (XR.out.block (kw27 (w6.heap.size) (by omega)))
          replace XM := Lib.hid (XM.out.block (kw27 (w24.heap.size) (by omega)))
          replace HB := Lib.hid (HB.out.trans (lw27 W.heap.size (by omega)))
          replace HB6 := Lib.hid (HB6.out.trans (lw27 w6.heap.size (by omega)))
          replace HGK := Lib.hid (And.intro ((kw27 gg (by omega)).trans HGK.out.1) (And.intro ((kw27 lb (by omega)).trans HGK.out.2.1) (Nat.le_trans HGK.out.2.2 (Nat.le_of_eq sw27.symm))))
          clear kw27 lw27
          obtain ⟨cF0, cF1, cF2, cF3, cF4, cF5, cF6, cF7, cF8, cF9, cF10⟩ := XF.out.c11
          obtain ⟨cO0, cO1, cO2, cO3, cO4, cO5, cO6, cO7⟩ := XO.out.c8
          refine hK2.out _ _ (⟨cF0, cF1, cF2, cF3, cF4, cF5, cF6, cF7, cF8, cF9, cF10, cO0, cO1, cO2, cO3, cO4, cO5, cO6, cO7⟩) (fun hHeld2 => ?_)
          clear hK2 K2 hHeld
          have hHeld := hHeld2
          clear hHeld2
          try simp (maxSteps := 4000000) only [Act.put, List.setIfInBounds_toArray, List.set_cons_zero, List.set_cons_succ]
          refine wpAnyH_done (by kernel_rfl) ?_ _
          go_wp2
          go_meet
          refine ⟨_, _, LL, ll, lc, gg, cap, rfl, rfl, Lib.hid ⟨⟨by omega, by omega, by omega, by omega⟩, XO.out, XR.out, XM.out, XS.out, HME.out.below HB6.out, fun w2 h2 => HRE.out w2 ((h2.block gg (by omega)).trans HGK.out.1) ((h2.block lb (by omega)).trans HGK.out.2.1) (by have h9 := HGK.out.2.2; have h8 := h2.size; omega), HB.out⟩⟩
      · clear cF0 cF1 cF2 cF3 cF4 cF5 cF6 cF7 cF8 cF9 cF10 cO0 cO1 cO2 cO3 cO4 cO5 cO6 cO7
        obtain ⟨w23, hw23⟩ : ∃ w23, w22.alloc (.cells #[.int .i64 0, .int .i64 0, .int .i64 0, .int .i64 0, .int .i64 0, .int .i64 0, .int .i64 0, .int .i64 0, .int .i64 0, .int .i64 0, .int .u64 0, .slice none 0 0, .slice none 0 0] 34) = w23 := ⟨_, rfl⟩
        have bw23 : Below w22.heap.size w22 w23 := by rw [← hw23]; exact alc0 _ _
        have sw23 : w23.heap.size = w22.heap.size + 1 := by rw [← hw23]; simp
        have XM : Hid (BX (w22.heap.size) #[.int .i64 0, .int .i64 0, .int .i64 0, .int .i64 0, .int .i64 0, .int .i64 0, .int .i64 0, .int .i64 0, .int .i64 0, .int .i64 0, .int .u64 0, .slice none 0 0, .slice none 0 0] w23) := Lib.hid (by rw [← hw23]; exact bx_new _ _ _)
        rw [hw23]
        clear hw23
        replace HB6 := Lib.hid (thn HB6.out bw23)
        replace HZ := Lib.hid (HZ.out.below bw23)
        replace XV := Lib.hid (XV.out.block (bw23.block (W.heap.size) (by omega)))
        replace XO := Lib.hid (XO.out.block (bw23.block (W.heap.size + 1) (by omega)))
        replace XF := Lib.hid (XF.out.block (bw23.block (w3.heap.size) (by omega)))
        replace XR := Lib.hid (XR.out.block (bw23.block (w6.heap.size) (by omega)))
        replace HB := Lib.hid (thn HB.out bw23)
        clear bw23
        replace sw23 := Nat.le_of_eq sw23.symm
        obtain ⟨cF0, cF1, cF2, cF3, cF4, cF5, cF6, cF7, cF8, cF9, cF10⟩ := XF.out.c11
        obtain ⟨cO0, cO1, cO2, cO3, cO4, cO5, cO6, cO7⟩ := XO.out.c8
        refine hK2.out _ _ (⟨cF0, cF1, cF2, cF3, cF4, cF5, cF6, cF7, cF8, cF9, cF10, cO0, cO1, cO2, cO3, cO4, cO5, cO6, cO7⟩) (fun hHeld2 => ?_)
        clear hK2 K2 hHeld
        have hHeld := hHeld2
        clear hHeld2
        try simp (maxSteps := 4000000) only [Act.put, List.setIfInBounds_toArray, List.set_cons_zero, List.set_cons_succ]
        refine wpAnyH_ready (rs := [4, 9]) (by kernel_rfl) (by simp) ?_
        refine AllReadyH.cons rfl (fun K2 hK2 => ?_) (AllReadyH.cons rfl (fun K2 hK2 => ?_) AllReadyH.nil)
        all_goals go_simp
        · have hrd := rdo_end K t a b v n mm P ln cp full hk64 HOK.out hmax HZ.out (kc := k)
          rw [hE] at hrd
          with_reducible refine Calls.mono hrd ?_
          rintro e w24 ⟨LL, ll, lc, gg, cap, lb, rfl, hre, hg1, hl1, hg2, hl2, bw24⟩
          clear hrd
          clear cF0 cF1 cF2 cF3 cF4 cF5 cF6 cF7 cF8 cF9 cF10 cO0 cO1 cO2 cO3 cO4 cO5 cO6 cO7
          have sw24 := bw24.size
          replace HB6 := Lib.hid (thn HB6.out bw24)
          replace HZ := Lib.hid (HZ.out.below bw24)
          replace XV := Lib.hid (XV.out.block (bw24.block (W.heap.size) (by omega)))
          replace XO := Lib.hid (XO.out.block (bw24.block (W.heap.size + 1) (by omega)))
          replace XF := Lib.hid (XF.out.block (bw24.block (w3.heap.size) (by omega)))
          replace XR := Lib.hid (XR.out.block (bw24.block (w6.heap.size) (by omega)))
          replace XM := Lib.hid (XM.out.block (bw24.block (w22.heap.size) (by omega)))
          replace HB := Lib.hid (thn HB.out bw24)
          clear bw24
          have HRE := Lib.hid hre
          clear hre
          have HGK : Hid (w24.heap[gg]? = w24.heap[gg]? ∧ w24.heap[lb]? = w24.heap[lb]? ∧ w24.heap.size ≤ w24.heap.size) := Lib.hid ⟨rfl, rfl, Nat.le_refl _⟩
          obtain ⟨cF0, cF1, cF2, cF3, cF4, cF5, cF6, cF7, cF8, cF9, cF10⟩ := XF.out.c11
          obtain ⟨cO0, cO1, cO2, cO3, cO4, cO5, cO6, cO7⟩ := XO.out.c8
          refine hK2.out _ _ (⟨cF0, cF1, cF2, cF3, cF4, cF5, cF6, cF7, cF8, cF9, cF10, cO0, cO1, cO2, cO3, cO4, cO5, cO6, cO7⟩) (fun hHeld2 => ?_)
          clear hK2 K2 hHeld
          have hHeld := hHeld2
          clear hHeld2
          try simp (maxSteps := 4000000) only [Act.put, List.setIfInBounds_toArray, List.set_cons_zero, List.set_cons_succ]
          refine wpAnyH_take (i := 5) (v := ?_) rfl (by kernel_rfl) (by kernel_rfl) (by kernel_rfl) (fun _ _ _ h => h) (Or.inl ⟨by kernel_rfl, ?_⟩) (by assumption) ?_
          rotate_left
          · (intro w hSw; (try dsimp only at hSw); go_simp)
            try (with_reducible rfl)
          rotate_left
          try simp (maxSteps := 4000000) only [Act.put, List.setIfInBounds_toArray, List.set_cons_zero, List.set_cons_succ, List.getElem_toArray, List.getElem_cons_zero, List.getElem_cons_succ]
          refine wpAnyH_take (i := 6) (v := ?_) rfl (by kernel_rfl) (by kernel_rfl) (by kernel_rfl) (fun _ _ _ h => h) (Or.inl ⟨by kernel_rfl, ?_⟩) (by assumption) ?_
          rotate_left
          · (intro w hSw; (try dsimp only at hSw); go_simp)
            try (with_reducible rfl)
          rotate_left
          try simp (maxSteps := 4000000) only [Act.put, List.setIfInBounds_toArray, List.set_cons_zero, List.set_cons_succ, List.getElem_toArray, List.getElem_cons_zero, List.getElem_cons_succ]
          refine wpAnyH_take (i := 7) (v := ?_) rfl (by kernel_rfl) (by kernel_rfl) (by kernel_rfl) (fun _ _ _ h => h) (Or.inl ⟨by kernel_rfl, ?_⟩) (by assumption) ?_
          rotate_left
          · (intro w hSw; (try dsimp only at hSw); go_simp)
            try (with_reducible rfl)
          rotate_left
          try simp (maxSteps := 4000000) only [Act.put, List.setIfInBounds_toArray, List.set_cons_zero, List.set_cons_succ, List.getElem_toArray, List.getElem_cons_zero, List.getElem_cons_succ]
          refine wpAnyH_ready (rs := [9]) (by kernel_rfl) (by simp) ?_
          refine AllReadyH.cons rfl (fun K2 hK2 => ?_) AllReadyH.nil
          go_simp
          clear cF0 cF1 cF2 cF3 cF4 cF5 cF6 cF7 cF8 cF9 cF10 cO0 cO1 cO2 cO3 cO4 cO5 cO6 cO7
          obtain ⟨w25, hw25⟩ : ∃ w25, w24.alloc (.cells #[.int .i64 0, .int .i64 0, .slice none 0 0] 39) = w25 := ⟨_, rfl⟩
          have bw25 : Below w24.heap.size w24 w25 := by rw [← hw25]; exact alc0 _ _
          have sw25 : w25.heap.size = w24.heap.size + 1 := by rw [← hw25]; simp
          have XS : Hid (BX (w24.heap.size) #[.int .i64 0, .int .i64 0, .slice none 0 0] w25) := Lib.hid (by rw [← hw25]; exact bx_new _ _ _)
          rw [hw25]
          clear hw25
          replace HB6 := Lib.hid (thn HB6.out bw25)
          replace HZ := Lib.hid (HZ.out.below bw25)
          replace HGK := Lib.hid (And.intro ((bw25.block gg (by omega)).trans HGK.out.1) (And.intro ((bw25.block lb (by omega)).trans HGK.out.2.1) (Nat.le_trans HGK.out.2.2 bw25.size)))
          replace XV := Lib.hid (XV.out.block (bw25.block (W.heap.size) (by omega)))
          replace XO := Lib.hid (XO.out.block (bw25.block (W.heap.size + 1) (by omega)))
          replace XF := Lib.hid (XF.out.block (bw25.block (w3.heap.size) (by omega)))
          replace XR := Lib.hid (XR.out.block (bw25.block (w6.heap.size) (by omega)))
          replace XM := Lib.hid (XM.out.block (bw25.block (w22.heap.size) (by omega)))
          replace HB := Lib.hid (thn HB.out bw25)
          clear bw25
          replace sw25 := Nat.le_of_eq sw25.symm
          obtain ⟨cF0, cF1, cF2, cF3, cF4, cF5, cF6, cF7, cF8, cF9, cF10⟩ := XF.out.c11
          obtain ⟨cO0, cO1, cO2, cO3, cO4, cO5, cO6, cO7⟩ := XO.out.c8
          refine hK2.out _ _ (⟨cF0, cF1, cF2, cF3, cF4, cF5, cF6, cF7, cF8, cF9, cF10, cO0, cO1, cO2, cO3, cO4, cO5, cO6, cO7⟩) (fun hHeld2 => ?_)
          clear hK2 K2 hHeld
          have hHeld := hHeld2
          clear hHeld2
          try simp (maxSteps := 4000000) only [Act.put, List.setIfInBounds_toArray, List.set_cons_zero, List.set_cons_succ]
          obtain ⟨cM0, cM1, cM2, cM3, cM4, cM5, cM6, cM7, cM8, cM9, cM10, cM11, cM12⟩ := XM.out.c13
          obtain ⟨cS0, cS1, cS2⟩ := XS.out.c3
          obtain ⟨fM0, fM1, fM2, fM3, fM4, fM5, fM6, fM7, fM8, fM9, fM10, fM11, fM12⟩ := XM.out.f13
          obtain ⟨fS0, fS1, fS2⟩ := XS.out.f3
          refine wpAnyH_ready (rs := [10]) (by kernel_rfl) (by simp) ?_
          refine AllReadyH.cons rfl (fun K2 hK2 => ?_) AllReadyH.nil
          go_simp
          obtain ⟨w26, hw26⟩ : ∃ w26, w26 = sets13 w25 (w22.heap.size) (.int .i64 C.pg) (.int .i64 C.rg) (.int .i64 C.lg) (.int .i64 C.th) (.int .i64 C.ca) (.int .i64 C.ba) (.int .i64 C.sh) (.int .i64 C.re) (.int .i64 C.mo) (.int .i64 C.fi) (.int .u64 C.ky) (.slice LL ll lc) (.slice (some ⟨gg, 0, none⟩) k cap) := ⟨_, rfl⟩
          obtain ⟨sw26, kw26, lw26, XMn⟩ := XM.out.put13s rfl hw26
          unfold sets13 at hw26
          rw [← hw26]
          clear hw26
          clear cF0 cF1 cF2 cF3 cF4 cF5 cF6 cF7 cF8 cF9 cF10 cO0 cO1 cO2 cO3 cO4 cO5 cO6 cO7 cM0 cM1 cM2 cM3 cM4 cM5 cM6 cM7 cM8 cM9 cM10 cM11 cM12 cS0 cS1 cS2 fM0 fM1 fM2 fM3 fM4 fM5 fM6 fM7 fM8 fM9 fM10 fM11 fM12 fS0 fS1 fS2
          replace XM := Lib.hid XMn
          clear XMn
          replace XV := Lib.hid (XV.out.block (kw26 (W.heap.size) (by omega)))
          replace XO := Lib.hid (XO.out.block (kw26 (W.heap.size + 1) (by omega)))
          replace XF := Lib.hid (XF.out.block (kw26 (w3.heap.size) (by omega)))
          replace XR := Lib.hid (XR.out.block (kw26 (w6.heap.size) (by omega)))
          replace XS := Lib.hid (XS.out.block (kw26 (w24.heap.size) (by omega)))
          replace HB := Lib.hid (HB.out.trans (lw26 W.heap.size (by omega)))
          replace HB6 := Lib.hid (HB6.out.trans (lw26 w6.heap.size (by omega)))
          replace HGK := Lib.hid (And.intro ((kw26 gg (by omega)).trans HGK.out.1) (And.intro ((kw26 lb (by omega)).trans HGK.out.2.1) (Nat.le_trans HGK.out.2.2 (Nat.le_of_eq sw26.symm))))
          clear kw26 lw26
          obtain ⟨cF0, cF1, cF2, cF3, cF4, cF5, cF6, cF7, cF8, cF9, cF10⟩ := XF.out.c11
          obtain ⟨cO0, cO1, cO2, cO3, cO4, cO5, cO6, cO7⟩ := XO.out.c8
          obtain ⟨cS0, cS1, cS2⟩ := XS.out.c3
          obtain ⟨fS0, fS1, fS2⟩ := XS.out.f3
          refine hK2.out _ _ (⟨cF0, cF1, cF2, cF3, cF4, cF5, cF6, cF7, cF8, cF9, cF10, cO0, cO1, cO2, cO3, cO4, cO5, cO6, cO7⟩) (fun hHeld2 => ?_)
          clear hK2 K2 hHeld
          have hHeld := hHeld2
          clear hHeld2
          try simp (maxSteps := 4000000) only [Act.put, List.setIfInBounds_toArray, List.set_cons_zero, List.set_cons_succ]
          refine wpAnyH_ready (rs := [11]) (by kernel_rfl) (by simp) ?_
          refine AllReadyH.cons rfl (fun K2 hK2 => ?_) AllReadyH.nil
          go_simp
          obtain ⟨w27, hw27⟩ : ∃ w27, w27 = sets3 w26 (w24.heap.size) (.int .i64 E) (.int .i64 0) (.slice none 0 0) := ⟨_, rfl⟩
          obtain ⟨sw27, kw27, lw27, XSn⟩ := XS.out.put3s rfl hw27
          unfold sets3 at hw27
          rw [← hw27]
          clear hw27
          clear cF0 cF1 cF2 cF3 cF4 cF5 cF6 cF7 cF8 cF9 cF10 cO0 cO1 cO2 cO3 cO4 cO5 cO6 cO7 cS0 cS1 cS2 fS0 fS1 fS2
          replace XS := Lib.hid XSn
          clear XSn
          replace XV := Lib.hid (XV.out.block (kw27 (W.heap.size) (by omega)))
          replace XO := Lib.hid (XO.out.block (kw27 (W.heap.size + 1) (by omega)))
          replace XF := Lib.hid (XF.out.block (kw27 (w3.heap.size) (by omega)))
          replace XR := Lib.hid (XR.out.block (kw27 (w6.heap.size) (by omega)))
          replace XM := Lib.hid (XM.out.block (kw27 (w22.heap.size) (by omega)))
          replace HB := Lib.hid (HB.out.trans (lw27 W.heap.size (by omega)))
          replace HB6 := Lib.hid (HB6.out.trans (lw27 w6.heap.size (by omega)))
          replace HGK := Lib.hid (And.intro ((kw27 gg (by omega)).trans HGK.out.1) (And.intro ((kw27 lb (by omega)).trans HGK.out.2.1) (Nat.le_trans HGK.out.2.2 (Nat.le_of_eq sw27.symm))))
          clear kw27 lw27
          obtain ⟨cF0, cF1, cF2, cF3, cF4, cF5, cF6, cF7, cF8, cF9, cF10⟩ := XF.out.c11
          obtain ⟨cO0, cO1, cO2, cO3, cO4, cO5, cO6, cO7⟩ := XO.out.c8
          refine hK2.out _ _ (⟨cF0, cF1, cF2, cF3, cF4, cF5, cF6, cF7, cF8, cF9, cF10, cO0, cO1, cO2, cO3, cO4, cO5, cO6, cO7⟩) (fun hHeld2 => ?_)
          clear hK2 K2 hHeld
          have hHeld := hHeld2
          clear hHeld2
          try simp (maxSteps := 4000000) only [Act.put, List.setIfInBounds_toArray, List.set_cons_zero, List.set_cons_succ]
          refine wpAnyH_done (by kernel_rfl) ?_ _
          go_wp2
          go_meet
          refine ⟨_, _, LL, ll, lc, gg, cap, rfl, rfl, Lib.hid ⟨⟨by omega, by omega, by omega, by omega⟩, XO.out, XR.out, XM.out, XS.out, HME.out.below HB6.out, fun w2 h2 => HRE.out w2 ((h2.block gg (by omega)).trans HGK.out.1) ((h2.block lb (by omega)).trans HGK.out.2.1) (by have h9 := HGK.out.2.2; have h8 := h2.size; omega), HB.out⟩⟩
        · clear cF0 cF1 cF2 cF3 cF4 cF5 cF6 cF7 cF8 cF9 cF10 cO0 cO1 cO2 cO3 cO4 cO5 cO6 cO7
          obtain ⟨w24, hw24⟩ : ∃ w24, w23.alloc (.cells #[.int .i64 0, .int .i64 0, .slice none 0 0] 39) = w24 := ⟨_, rfl⟩
          have bw24 : Below w23.heap.size w23 w24 := by rw [← hw24]; exact alc0 _ _
          have sw24 : w24.heap.size = w23.heap.size + 1 := by rw [← hw24]; simp
          have XS : Hid (BX (w23.heap.size) #[.int .i64 0, .int .i64 0, .slice none 0 0] w24) := Lib.hid (by rw [← hw24]; exact bx_new _ _ _)
          rw [hw24]
          clear hw24
          replace HB6 := Lib.hid (thn HB6.out bw24)
          replace HZ := Lib.hid (HZ.out.below bw24)
          replace XV := Lib.hid (XV.out.block (bw24.block (W.heap.size) (by omega)))
          replace XO := Lib.hid (XO.out.block (bw24.block (W.heap.size + 1) (by omega)))
          replace XF := Lib.hid (XF.out.block (bw24.block (w3.heap.size) (by omega)))
          replace XR := Lib.hid (XR.out.block (bw24.block (w6.heap.size) (by omega)))
          replace XM := Lib.hid (XM.out.block (bw24.block (w22.heap.size) (by omega)))
          replace HB := Lib.hid (thn HB.out bw24)
          clear bw24
          replace sw24 := Nat.le_of_eq sw24.symm
          obtain ⟨cF0, cF1, cF2, cF3, cF4, cF5, cF6, cF7, cF8, cF9, cF10⟩ := XF.out.c11
          obtain ⟨cO0, cO1, cO2, cO3, cO4, cO5, cO6, cO7⟩ := XO.out.c8
          refine hK2.out _ _ (⟨cF0, cF1, cF2, cF3, cF4, cF5, cF6, cF7, cF8, cF9, cF10, cO0, cO1, cO2, cO3, cO4, cO5, cO6, cO7⟩) (fun hHeld2 => ?_)
          clear hK2 K2 hHeld
          have hHeld := hHeld2
          clear hHeld2
          try simp (maxSteps := 4000000) only [Act.put, List.setIfInBounds_toArray, List.set_cons_zero, List.set_cons_succ]
          refine wpAnyH_ready (rs := [4]) (by kernel_rfl) (by simp) ?_
          refine AllReadyH.cons rfl (fun K2 hK2 => ?_) AllReadyH.nil
          go_simp
          have hrd := rdo_end K t a b v n mm P ln cp full hk64 HOK.out hmax HZ.out (kc := k)
          rw [hE] at hrd
          with_reducible refine Calls.mono hrd ?_
          rintro e w25 ⟨LL, ll, lc, gg, cap, lb, rfl, hre, hg1, hl1, hg2, hl2, bw25⟩
          clear hrd
          clear cF0 cF1 cF2 cF3 cF4 cF5 cF6 cF7 cF8 cF9 cF10 cO0 cO1 cO2 cO3 cO4 cO5 cO6 cO7
          have sw25 := bw25.size
          replace HB6 := Lib.hid (thn HB6.out bw25)
          replace HZ := Lib.hid (HZ.out.below bw25)
          replace XV := Lib.hid (XV.out.block (bw25.block (W.heap.size) (by omega)))
          replace XO := Lib.hid (XO.out.block (bw25.block (W.heap.size + 1) (by omega)))
          replace XF := Lib.hid (XF.out.block (bw25.block (w3.heap.size) (by omega)))
          replace XR := Lib.hid (XR.out.block (bw25.block (w6.heap.size) (by omega)))
          replace XM := Lib.hid (XM.out.block (bw25.block (w22.heap.size) (by omega)))
          replace XS := Lib.hid (XS.out.block (bw25.block (w23.heap.size) (by omega)))
          replace HB := Lib.hid (thn HB.out bw25)
          clear bw25
          have HRE := Lib.hid hre
          clear hre
          have HGK : Hid (w25.heap[gg]? = w25.heap[gg]? ∧ w25.heap[lb]? = w25.heap[lb]? ∧ w25.heap.size ≤ w25.heap.size) := Lib.hid ⟨rfl, rfl, Nat.le_refl _⟩
          obtain ⟨cF0, cF1, cF2, cF3, cF4, cF5, cF6, cF7, cF8, cF9, cF10⟩ := XF.out.c11
          obtain ⟨cO0, cO1, cO2, cO3, cO4, cO5, cO6, cO7⟩ := XO.out.c8
          refine hK2.out _ _ (⟨cF0, cF1, cF2, cF3, cF4, cF5, cF6, cF7, cF8, cF9, cF10, cO0, cO1, cO2, cO3, cO4, cO5, cO6, cO7⟩) (fun hHeld2 => ?_)
          clear hK2 K2 hHeld
          have hHeld := hHeld2
          clear hHeld2
          try simp (maxSteps := 4000000) only [Act.put, List.setIfInBounds_toArray, List.set_cons_zero, List.set_cons_succ]
          obtain ⟨cM0, cM1, cM2, cM3, cM4, cM5, cM6, cM7, cM8, cM9, cM10, cM11, cM12⟩ := XM.out.c13
          obtain ⟨cS0, cS1, cS2⟩ := XS.out.c3
          obtain ⟨fM0, fM1, fM2, fM3, fM4, fM5, fM6, fM7, fM8, fM9, fM10, fM11, fM12⟩ := XM.out.f13
          obtain ⟨fS0, fS1, fS2⟩ := XS.out.f3
          refine wpAnyH_take (i := 5) (v := ?_) rfl (by kernel_rfl) (by kernel_rfl) (by kernel_rfl) (fun _ _ _ h => h) (Or.inl ⟨by kernel_rfl, ?_⟩) (by assumption) ?_
          rotate_left
          · (intro w hSw; (try dsimp only at hSw); go_simp)
            try (with_reducible rfl)
          rotate_left
          try simp (maxSteps := 4000000) only [Act.put, List.setIfInBounds_toArray, List.set_cons_zero, List.set_cons_succ, List.getElem_toArray, List.getElem_cons_zero, List.getElem_cons_succ]
          refine wpAnyH_take (i := 6) (v := ?_) rfl (by kernel_rfl) (by kernel_rfl) (by kernel_rfl) (fun _ _ _ h => h) (Or.inl ⟨by kernel_rfl, ?_⟩) (by assumption) ?_
          rotate_left
          · (intro w hSw; (try dsimp only at hSw); go_simp)
            try (with_reducible rfl)
          rotate_left
          try simp (maxSteps := 4000000) only [Act.put, List.setIfInBounds_toArray, List.set_cons_zero, List.set_cons_succ, List.getElem_toArray, List.getElem_cons_zero, List.getElem_cons_succ]
          refine wpAnyH_take (i := 7) (v := ?_) rfl (by kernel_rfl) (by kernel_rfl) (by kernel_rfl) (fun _ _ _ h => h) (Or.inl ⟨by kernel_rfl, ?_⟩) (by assumption) ?_
          rotate_left
          · (intro w hSw; (try dsimp only at hSw); go_simp)
            try (with_reducible rfl)
          rotate_left
          try simp (maxSteps := 4000000) only [Act.put, List.setIfInBounds_toArray, List.set_cons_zero, List.set_cons_succ, List.getElem_toArray, List.getElem_cons_zero, List.getElem_cons_succ]
          refine wpAnyH_ready (rs := [10]) (by kernel_rfl) (by simp) ?_
          refine AllReadyH.cons rfl (fun K2 hK2 => ?_) AllReadyH.nil
          go_simp
          obtain ⟨w26, hw26⟩ : ∃ w26, w26 = sets13 w25 (w22.heap.size) (.int .i64 C.pg) (.int .i64 C.rg) (.int .i64 C.lg) (.int .i64 C.th) (.int .i64 C.ca) (.int .i64 C.ba) (.int .i64 C.sh) (.int .i64 C.re) (.int .i64 C.mo) (.int .i64 C.fi) (.int .u64 C.ky) (.slice LL ll lc) (.slice (some ⟨gg, 0, none⟩) k cap) := ⟨_, rfl⟩
          obtain ⟨sw26, kw26, lw26, XMn⟩ := XM.out.put13s rfl hw26
          unfold sets13 at hw26
          rw [← hw26]
          clear hw26
          clear cF0 cF1 cF2 cF3 cF4 cF5 cF6 cF7 cF8 cF9 cF10 cO0 cO1 cO2 cO3 cO4 cO5 cO6 cO7 cM0 cM1 cM2 cM3 cM4 cM5 cM6 cM7 cM8 cM9 cM10 cM11 cM12 cS0 cS1 cS2 fM0 fM1 fM2 fM3 fM4 fM5 fM6 fM7 fM8 fM9 fM10 fM11 fM12 fS0 fS1 fS2
          replace XM := Lib.hid XMn
          clear XMn
          replace XV := Lib.hid (XV.out.block (kw26 (W.heap.size) (by omega)))
          replace XO := Lib.hid (XO.out.block (kw26 (W.heap.size + 1) (by omega)))
          replace XF := Lib.hid (XF.out.block (kw26 (w3.heap.size) (by omega)))
          replace XR := Lib.hid (XR.out.block (kw26 (w6.heap.size) (by omega)))
          replace XS := Lib.hid (XS.out.block (kw26 (w23.heap.size) (by omega)))
          replace HB := Lib.hid (HB.out.trans (lw26 W.heap.size (by omega)))
          replace HB6 := Lib.hid (HB6.out.trans (lw26 w6.heap.size (by omega)))
          replace HGK := Lib.hid (And.intro ((kw26 gg (by omega)).trans HGK.out.1) (And.intro ((kw26 lb (by omega)).trans HGK.out.2.1) (Nat.le_trans HGK.out.2.2 (Nat.le_of_eq sw26.symm))))
          clear kw26 lw26
          obtain ⟨cF0, cF1, cF2, cF3, cF4, cF5, cF6, cF7, cF8, cF9, cF10⟩ := XF.out.c11
          obtain ⟨cO0, cO1, cO2, cO3, cO4, cO5, cO6, cO7⟩ := XO.out.c8
          obtain ⟨cS0, cS1, cS2⟩ := XS.out.c3
          obtain ⟨fS0, fS1, fS2⟩ := XS.out.f3
          refine hK2.out _ _ (⟨cF0, cF1, cF2, cF3, cF4, cF5, cF6, cF7, cF8, cF9, cF10, cO0, cO1, cO2, cO3, cO4, cO5, cO6, cO7⟩) (fun hHeld2 => ?_)
          clear hK2 K2 hHeld
          have hHeld := hHeld2
          clear hHeld2
          try simp (maxSteps := 4000000) only [Act.put, List.setIfInBounds_toArray, List.set_cons_zero, List.set_cons_succ]
          refine wpAnyH_ready (rs := [11]) (by kernel_rfl) (by simp) ?_
          refine AllReadyH.cons rfl (fun K2 hK2 => ?_) AllReadyH.nil
          go_simp
          obtain ⟨w27, hw27⟩ : ∃ w27, w27 = sets3 w26 (w23.heap.size) (.int .i64 E) (.int .i64 0) (.slice none 0 0) := ⟨_, rfl⟩
          obtain ⟨sw27, kw27, lw27, XSn⟩ := XS.out.put3s rfl hw27
          unfold sets3 at hw27
          rw [← hw27]
          clear hw27
          clear cF0 cF1 cF2 cF3 cF4 cF5 cF6 cF7 cF8 cF9 cF10 cO0 cO1 cO2 cO3 cO4 cO5 cO6 cO7 cS0 cS1 cS2 fS0 fS1 fS2
          replace XS := Lib.hid XSn
          clear XSn
          replace XV := Lib.hid (XV.out.block (kw27 (W.heap.size) (by omega)))
          replace XO := Lib.hid (XO.out.block (kw27 (W.heap.size + 1) (by omega)))
          replace XF := Lib.hid (XF.out.block (kw27 (w3.heap.size) (by omega)))
          replace XR := Lib.hid (XR.out.block (kw27 (w6.heap.size) (by omega)))
          replace XM := Lib.hid (XM.out.block (kw27 (w22.heap.size) (by omega)))
          replace HB := Lib.hid (HB.out.trans (lw27 W.heap.size (by omega)))
          replace HB6 := Lib.hid (HB6.out.trans (lw27 w6.heap.size (by omega)))
          replace HGK := Lib.hid (And.intro ((kw27 gg (by omega)).trans HGK.out.1) (And.intro ((kw27 lb (by omega)).trans HGK.out.2.1) (Nat.le_trans HGK.out.2.2 (Nat.le_of_eq sw27.symm))))
          clear kw27 lw27
          obtain ⟨cF0, cF1, cF2, cF3, cF4, cF5, cF6, cF7, cF8, cF9, cF10⟩ := XF.out.c11
          obtain ⟨cO0, cO1, cO2, cO3, cO4, cO5, cO6, cO7⟩ := XO.out.c8
          refine hK2.out _ _ (⟨cF0, cF1, cF2, cF3, cF4, cF5, cF6, cF7, cF8, cF9, cF10, cO0, cO1, cO2, cO3, cO4, cO5, cO6, cO7⟩) (fun hHeld2 => ?_)
          clear hK2 K2 hHeld
          have hHeld := hHeld2
          clear hHeld2
          try simp (maxSteps := 4000000) only [Act.put, List.setIfInBounds_toArray, List.set_cons_zero, List.set_cons_succ]
          refine wpAnyH_done (by kernel_rfl) ?_ _
          go_wp2
          go_meet
          refine ⟨_, _, LL, ll, lc, gg, cap, rfl, rfl, Lib.hid ⟨⟨by omega, by omega, by omega, by omega⟩, XO.out, XR.out, XM.out, XS.out, HME.out.below HB6.out, fun w2 h2 => HRE.out w2 ((h2.block gg (by omega)).trans HGK.out.1) ((h2.block lb (by omega)).trans HGK.out.2.1) (by have h9 := HGK.out.2.2; have h8 := h2.size; omega), HB.out⟩⟩
      · clear cF0 cF1 cF2 cF3 cF4 cF5 cF6 cF7 cF8 cF9 cF10 cO0 cO1 cO2 cO3 cO4 cO5 cO6 cO7
        obtain ⟨w23, hw23⟩ : ∃ w23, w22.alloc (.cells #[.int .i64 0, .int .i64 0, .slice none 0 0] 39) = w23 := ⟨_, rfl⟩
        have bw23 : Below w22.heap.size w22 w23 := by rw [← hw23]; exact alc0 _ _
        have sw23 : w23.heap.size = w22.heap.size + 1 := by rw [← hw23]; simp
        have XS : Hid (BX (w22.heap.size) #[.int .i64 0, .int .i64 0, .slice none 0 0] w23) := Lib.hid (by rw [← hw23]; exact bx_new _ _ _)
        rw [hw23]
        clear hw23
        replace HB6 := Lib.hid (thn HB6.out bw23)
        replace HZ := Lib.hid (HZ.out.below bw23)
        replace XV := Lib.hid (XV.out.block (bw23.block (W.heap.size) (by omega)))
        replace XO := Lib.hid (XO.out.block (bw23.block (W.heap.size + 1) (by omega)))
        replace XF := Lib.hid (XF.out.block (bw23.block (w3.heap.size) (by omega)))
        replace XR := Lib.hid (XR.out.block (bw23.block (w6.heap.size) (by omega)))
        replace HB := Lib.hid (thn HB.out bw23)
        clear bw23
        replace sw23 := Nat.le_of_eq sw23.symm
        obtain ⟨cF0, cF1, cF2, cF3, cF4, cF5, cF6, cF7, cF8, cF9, cF10⟩ := XF.out.c11
        obtain ⟨cO0, cO1, cO2, cO3, cO4, cO5, cO6, cO7⟩ := XO.out.c8
        refine hK2.out _ _ (⟨cF0, cF1, cF2, cF3, cF4, cF5, cF6, cF7, cF8, cF9, cF10, cO0, cO1, cO2, cO3, cO4, cO5, cO6, cO7⟩) (fun hHeld2 => ?_)
        clear hK2 K2 hHeld
        have hHeld := hHeld2
        clear hHeld2
        try simp (maxSteps := 4000000) only [Act.put, List.setIfInBounds_toArray, List.set_cons_zero, List.set_cons_succ]
        refine wpAnyH_ready (rs := [4, 8]) (by kernel_rfl) (by simp) ?_
        refine AllReadyH.cons rfl (fun K2 hK2 => ?_) (AllReadyH.cons rfl (fun K2 hK2 => ?_) AllReadyH.nil)
        all_goals go_simp
        · have hrd := rdo_end K t a b v n mm P ln cp full hk64 HOK.out hmax HZ.out (kc := k)
          rw [hE] at hrd
          with_reducible refine Calls.mono hrd ?_
          rintro e w24 ⟨LL, ll, lc, gg, cap, lb, rfl, hre, hg1, hl1, hg2, hl2, bw24⟩
          clear hrd
          clear cF0 cF1 cF2 cF3 cF4 cF5 cF6 cF7 cF8 cF9 cF10 cO0 cO1 cO2 cO3 cO4 cO5 cO6 cO7
          have sw24 := bw24.size
          replace HB6 := Lib.hid (thn HB6.out bw24)
          replace HZ := Lib.hid (HZ.out.below bw24)
          replace XV := Lib.hid (XV.out.block (bw24.block (W.heap.size) (by omega)))
          replace XO := Lib.hid (XO.out.block (bw24.block (W.heap.size + 1) (by omega)))
          replace XF := Lib.hid (XF.out.block (bw24.block (w3.heap.size) (by omega)))
          replace XR := Lib.hid (XR.out.block (bw24.block (w6.heap.size) (by omega)))
          replace XS := Lib.hid (XS.out.block (bw24.block (w22.heap.size) (by omega)))
          replace HB := Lib.hid (thn HB.out bw24)
          clear bw24
          have HRE := Lib.hid hre
          clear hre
          have HGK : Hid (w24.heap[gg]? = w24.heap[gg]? ∧ w24.heap[lb]? = w24.heap[lb]? ∧ w24.heap.size ≤ w24.heap.size) := Lib.hid ⟨rfl, rfl, Nat.le_refl _⟩
          obtain ⟨cF0, cF1, cF2, cF3, cF4, cF5, cF6, cF7, cF8, cF9, cF10⟩ := XF.out.c11
          obtain ⟨cO0, cO1, cO2, cO3, cO4, cO5, cO6, cO7⟩ := XO.out.c8
          refine hK2.out _ _ (⟨cF0, cF1, cF2, cF3, cF4, cF5, cF6, cF7, cF8, cF9, cF10, cO0, cO1, cO2, cO3, cO4, cO5, cO6, cO7⟩) (fun hHeld2 => ?_)
          clear hK2 K2 hHeld
          have hHeld := hHeld2
          clear hHeld2
          try simp (maxSteps := 4000000) only [Act.put, List.setIfInBounds_toArray, List.set_cons_zero, List.set_cons_succ]
          refine wpAnyH_take (i := 5) (v := ?_) rfl (by kernel_rfl) (by kernel_rfl) (by kernel_rfl) (fun _ _ _ h => h) (Or.inl ⟨by kernel_rfl, ?_⟩) (by assumption) ?_
          rotate_left
          · (intro w hSw; (try dsimp only at hSw); go_simp)
            try (with_reducible rfl)
          rotate_left
          try simp (maxSteps := 4000000) only [Act.put, List.setIfInBounds_toArray, List.set_cons_zero, List.set_cons_succ, List.getElem_toArray, List.getElem_cons_zero, List.getElem_cons_succ]
          refine wpAnyH_take (i := 6) (v := ?_) rfl (by kernel_rfl) (by kernel_rfl) (by kernel_rfl) (fun _ _ _ h => h) (Or.inl ⟨by kernel_rfl, ?_⟩) (by assumption) ?_
          rotate_left
          · (intro w hSw; (try dsimp only at hSw); go_simp)
            try (with_reducible rfl)
          rotate_left
          try simp (maxSteps := 4000000) only [Act.put, List.setIfInBounds_toArray, List.set_cons_zero, List.set_cons_succ, List.getElem_toArray, List.getElem_cons_zero, List.getElem_cons_succ]
          refine wpAnyH_take (i := 7) (v := ?_) rfl (by kernel_rfl) (by kernel_rfl) (by kernel_rfl) (fun _ _ _ h => h) (Or.inl ⟨by kernel_rfl, ?_⟩) (by assumption) ?_
          rotate_left
          · (intro w hSw; (try dsimp only at hSw); go_simp)
            try (with_reducible rfl)
          rotate_left
          try simp (maxSteps := 4000000) only [Act.put, List.setIfInBounds_toArray, List.set_cons_zero, List.set_cons_succ, List.getElem_toArray, List.getElem_cons_zero, List.getElem_cons_succ]
          refine wpAnyH_ready (rs := [8]) (by kernel_rfl) (by simp) ?_
          refine AllReadyH.cons rfl (fun K2 hK2 => ?_) AllReadyH.nil
          go_simp
          clear cF0 cF1 cF2 cF3 cF4 cF5 cF6 cF7 cF8 cF9 cF10 cO0 cO1 cO2 cO3 cO4 cO5 cO6 cO7
          obtain ⟨w25, hw25⟩ : ∃ w25, w24.alloc (.cells #[.int .i64 0, .int .i64 0, .int .i64 0, .int .i64 0, .int .i64 0, .int .i64 0, .int .i64 0, .int .i64 0, .int .i64 0, .int .i64 0, .int .u64 0, .slice none 0 0, .slice none 0 0] 34) = w25 := ⟨_, rfl⟩
          have bw25 : Below w24.heap.size w24 w25 := by rw [← hw25]; exact alc0 _ _
          have sw25 : w25.heap.size = w24.heap.size + 1 := by rw [← hw25]; simp
          have XM : Hid (BX (w24.heap.size) #[.int .i64 0, .int .i64 0, .int .i64 0, .int .i64 0, .int .i64 0, .int .i64 0, .int .i64 0, .int .i64 0, .int .i64 0, .int .i64 0, .int .u64 0, .slice none 0 0, .slice none 0 0] w25) := Lib.hid (by rw [← hw25]; exact bx_new _ _ _)
          rw [hw25]
          clear hw25
          replace HB6 := Lib.hid (thn HB6.out bw25)
          replace HZ := Lib.hid (HZ.out.below bw25)
          replace HGK := Lib.hid (And.intro ((bw25.block gg (by omega)).trans HGK.out.1) (And.intro ((bw25.block lb (by omega)).trans HGK.out.2.1) (Nat.le_trans HGK.out.2.2 bw25.size)))
          replace XV := Lib.hid (XV.out.block (bw25.block (W.heap.size) (by omega)))
          replace XO := Lib.hid (XO.out.block (bw25.block (W.heap.size + 1) (by omega)))
          replace XF := Lib.hid (XF.out.block (bw25.block (w3.heap.size) (by omega)))
          replace XR := Lib.hid (XR.out.block (bw25.block (w6.heap.size) (by omega)))
          replace XS := Lib.hid (XS.out.block (bw25.block (w22.heap.size) (by omega)))
          replace HB := Lib.hid (thn HB.out bw25)
          clear bw25
          replace sw25 := Nat.le_of_eq sw25.symm
          obtain ⟨cF0, cF1, cF2, cF3, cF4, cF5, cF6, cF7, cF8, cF9, cF10⟩ := XF.out.c11
          obtain ⟨cO0, cO1, cO2, cO3, cO4, cO5, cO6, cO7⟩ := XO.out.c8
          refine hK2.out _ _ (⟨cF0, cF1, cF2, cF3, cF4, cF5, cF6, cF7, cF8, cF9, cF10, cO0, cO1, cO2, cO3, cO4, cO5, cO6, cO7⟩) (fun hHeld2 => ?_)
          clear hK2 K2 hHeld
          have hHeld := hHeld2
          clear hHeld2
          try simp (maxSteps := 4000000) only [Act.put, List.setIfInBounds_toArray, List.set_cons_zero, List.set_cons_succ]
          obtain ⟨cM0, cM1, cM2, cM3, cM4, cM5, cM6, cM7, cM8, cM9, cM10, cM11, cM12⟩ := XM.out.c13
          obtain ⟨cS0, cS1, cS2⟩ := XS.out.c3
          obtain ⟨fM0, fM1, fM2, fM3, fM4, fM5, fM6, fM7, fM8, fM9, fM10, fM11, fM12⟩ := XM.out.f13
          obtain ⟨fS0, fS1, fS2⟩ := XS.out.f3
          refine wpAnyH_ready (rs := [10]) (by kernel_rfl) (by simp) ?_
          refine AllReadyH.cons rfl (fun K2 hK2 => ?_) AllReadyH.nil
          go_simp
          obtain ⟨w26, hw26⟩ : ∃ w26, w26 = sets13 w25 (w24.heap.size) (.int .i64 C.pg) (.int .i64 C.rg) (.int .i64 C.lg) (.int .i64 C.th) (.int .i64 C.ca) (.int .i64 C.ba) (.int .i64 C.sh) (.int .i64 C.re) (.int .i64 C.mo) (.int .i64 C.fi) (.int .u64 C.ky) (.slice LL ll lc) (.slice (some ⟨gg, 0, none⟩) k cap) := ⟨_, rfl⟩
          obtain ⟨sw26, kw26, lw26, XMn⟩ := XM.out.put13s rfl hw26
          unfold sets13 at hw26
          rw [← hw26]
          clear hw26
          clear cF0 cF1 cF2 cF3 cF4 cF5 cF6 cF7 cF8 cF9 cF10 cO0 cO1 cO2 cO3 cO4 cO5 cO6 cO7 cM0 cM1 cM2 cM3 cM4 cM5 cM6 cM7 cM8 cM9 cM10 cM11 cM12 cS0 cS1 cS2 fM0 fM1 fM2 fM3 fM4 fM5 fM6 fM7 fM8 fM9 fM10 fM11 fM12 fS0 fS1 fS2
          replace XM := Lib.hid XMn
          clear XMn
          replace XV := Lib.hid (XV.out.block (kw26 (W.heap.size) (by omega)))
          replace XO := Lib.hid (XO.out.block (kw26 (W.heap.size + 1) (by omega)))
          replace XF := Lib.hid (XF.out.block (kw26 (w3.heap.size) (by omega)))
          replace XR := Lib.hid (XR.out.block (kw26 (w6.heap.size) (by omega)))
          replace XS := Lib.hid (XS.out.block (kw26 (w22.heap.size) (by omega)))
          replace HB := Lib.hid (HB.out.trans (lw26 W.heap.size (by omega)))
          replace HB6 := Lib.hid (HB6.out.trans (lw26 w6.heap.size (by omega)))
          replace HGK := Lib.hid (And.intro ((kw26 gg (by omega)).trans HGK.out.1) (And.intro ((kw26 lb (by omega)).trans HGK.out.2.1) (Nat.le_trans HGK.out.2.2 (Nat.le_of_eq sw26.symm))))
          clear kw26 lw26
          obtain ⟨cF0, cF1, cF2, cF3, cF4, cF5, cF6, cF7, cF8, cF9, cF10⟩ := XF.out.c11
          obtain ⟨cO0, cO1, cO2, cO3, cO4, cO5, cO6, cO7⟩ := XO.out.c8
          obtain ⟨cS0, cS1, cS2⟩ := XS.out.c3
          obtain ⟨fS0, fS1, fS2⟩ := XS.out.f3
          refine hK2.out _ _ (⟨cF0, cF1, cF2, cF3, cF4, cF5, cF6, cF7, cF8, cF9, cF10, cO0, cO1, cO2, cO3, cO4, cO5, cO6, cO7⟩) (fun hHeld2 => ?_)
          clear hK2 K2 hHeld
          have hHeld := hHeld2
          clear hHeld2
          try simp (maxSteps := 4000000) only [Act.put, List.setIfInBounds_toArray, List.set_cons_zero, List.set_cons_succ]
          refine wpAnyH_ready (rs := [11]) (by kernel_rfl) (by simp) ?_
          refine AllReadyH.cons rfl (fun K2 hK2 => ?_) AllReadyH.nil
          go_simp
          obtain ⟨w27, hw27⟩ : ∃ w27, w27 = sets3 w26 (w22.heap.size) (.int .i64 E) (.int .i64 0) (.slice none 0 0) := ⟨_, rfl⟩
          obtain ⟨sw27, kw27, lw27, XSn⟩ := XS.out.put3s rfl hw27
          unfold sets3 at hw27
          rw [← hw27]
          clear hw27
          clear cF0 cF1 cF2 cF3 cF4 cF5 cF6 cF7 cF8 cF9 cF10 cO0 cO1 cO2 cO3 cO4 cO5 cO6 cO7 cS0 cS1 cS2 fS0 fS1 fS2
          replace XS := Lib.hid XSn
          clear XSn
          replace XV := Lib.hid (XV.out.block (kw27 (W.heap.size) (by omega)))
          replace XO := Lib.hid (XO.out.block (kw27 (W.heap.size + 1) (by omega)))
          replace XF := Lib.hid (XF.out.block (kw27 (w3.heap.size) (by omega)))
          replace XR := Lib.hid (XR.out.block (kw27 (w6.heap.size) (by omega)))
          replace XM := Lib.hid (XM.out.block (kw27 (w24.heap.size) (by omega)))
          replace HB := Lib.hid (HB.out.trans (lw27 W.heap.size (by omega)))
          replace HB6 := Lib.hid (HB6.out.trans (lw27 w6.heap.size (by omega)))
          replace HGK := Lib.hid (And.intro ((kw27 gg (by omega)).trans HGK.out.1) (And.intro ((kw27 lb (by omega)).trans HGK.out.2.1) (Nat.le_trans HGK.out.2.2 (Nat.le_of_eq sw27.symm))))
          clear kw27 lw27
          obtain ⟨cF0, cF1, cF2, cF3, cF4, cF5, cF6, cF7, cF8, cF9, cF10⟩ := XF.out.c11
          obtain ⟨cO0, cO1, cO2, cO3, cO4, cO5, cO6, cO7⟩ := XO.out.c8
          refine hK2.out _ _ (⟨cF0, cF1, cF2, cF3, cF4, cF5, cF6, cF7, cF8, cF9, cF10, cO0, cO1, cO2, cO3, cO4, cO5, cO6, cO7⟩) (fun hHeld2 => ?_)
          clear hK2 K2 hHeld
          have hHeld := hHeld2
          clear hHeld2
          try simp (maxSteps := 4000000) only [Act.put, List.setIfInBounds_toArray, List.set_cons_zero, List.set_cons_succ]
          refine wpAnyH_done (by kernel_rfl) ?_ _
          go_wp2
          go_meet
          refine ⟨_, _, LL, ll, lc, gg, cap, rfl, rfl, Lib.hid ⟨⟨by omega, by omega, by omega, by omega⟩, XO.out, XR.out, XM.out, XS.out, HME.out.below HB6.out, fun w2 h2 => HRE.out w2 ((h2.block gg (by omega)).trans HGK.out.1) ((h2.block lb (by omega)).trans HGK.out.2.1) (by have h9 := HGK.out.2.2; have h8 := h2.size; omega), HB.out⟩⟩
        · clear cF0 cF1 cF2 cF3 cF4 cF5 cF6 cF7 cF8 cF9 cF10 cO0 cO1 cO2 cO3 cO4 cO5 cO6 cO7
          obtain ⟨w24, hw24⟩ : ∃ w24, w23.alloc (.cells #[.int .i64 0, .int .i64 0, .int .i64 0, .int .i64 0, .int .i64 0, .int .i64 0, .int .i64 0, .int .i64 0, .int .i64 0, .int .i64 0, .int .u64 0, .slice none 0 0, .slice none 0 0] 34) = w24 := ⟨_, rfl⟩
          have bw24 : Below w23.heap.size w23 w24 := by rw [← hw24]; exact alc0 _ _
          have sw24 : w24.heap.size = w23.heap.size + 1 := by rw [← hw24]; simp
          have XM : Hid (BX (w23.heap.size) #[.int .i64 0, .int .i64 0, .int .i64 0, .int .i64 0, .int .i64 0, .int .i64 0, .int .i64 0, .int .i64 0, .int .i64 0, .int .i64 0, .int .u64 0, .slice none 0 0, .slice none 0 0] w24) := Lib.hid (by rw [← hw24]; exact bx_new _ _ _)
          rw [hw24]
          clear hw24
          replace HB6 := Lib.hid (thn HB6.out bw24)
          replace HZ := Lib.hid (HZ.out.below bw24)
          replace XV := Lib.hid (XV.out.block (bw24.block (W.heap.size) (by omega)))
          replace XO := Lib.hid (XO.out.block (bw24.block (W.heap.size + 1) (by omega)))
          replace XF := Lib.hid (XF.out.block (bw24.block (w3.heap.size) (by omega)))
          replace XR := Lib.hid (XR.out.block (bw24.block (w6.heap.size) (by omega)))
          replace XS := Lib.hid (XS.out.block (bw24.block (w22.heap.size) (by omega)))
          replace HB := Lib.hid (thn HB.out bw24)
          clear bw24
          replace sw24 := Nat.le_of_eq sw24.symm
          obtain ⟨cF0, cF1, cF2, cF3, cF4, cF5, cF6, cF7, cF8, cF9, cF10⟩ := XF.out.c11
          obtain ⟨cO0, cO1, cO2, cO3, cO4, cO5, cO6, cO7⟩ := XO.out.c8
          refine hK2.out _ _ (⟨cF0, cF1, cF2, cF3, cF4, cF5, cF6, cF7, cF8, cF9, cF10, cO0, cO1, cO2, cO3, cO4, cO5, cO6, cO7⟩) (fun hHeld2 => ?_)
          clear hK2 K2 hHeld
          have hHeld := hHeld2
          clear hHeld2
          try simp (maxSteps := 4000000) only [Act.put, List.setIfInBounds_toArray, List.set_cons_zero, List.set_cons_succ]
          refine wpAnyH_ready (rs := [4]) (by kernel_rfl) (by simp) ?_
          refine AllReadyH.cons rfl (fun K2 hK2 => ?_) AllReadyH.nil
          go_simp
          have hrd := rdo_end K t a b v n mm P ln cp full hk64 HOK.out hmax HZ.out (kc := k)
          rw [hE] at hrd
          with_reducible refine Calls.mono hrd ?_
          rintro e w25 ⟨LL, ll, lc, gg, cap, lb, rfl, hre, hg1, hl1, hg2, hl2, bw25⟩
          clear hrd
          clear cF0 cF1 cF2 cF3 cF4 cF5 cF6 cF7 cF8 cF9 cF10 cO0 cO1 cO2 cO3 cO4 cO5 cO6 cO7
          have sw25 := bw25.size
          replace HB6 := Lib.hid (thn HB6.out bw25)
          replace HZ := Lib.hid (HZ.out.below bw25)
          replace XV := Lib.hid (XV.out.block (bw25.block (W.heap.size) (by omega)))
          replace XO := Lib.hid (XO.out.block (bw25.block (W.heap.size + 1) (by omega)))
          replace XF := Lib.hid (XF.out.block (bw25.block (w3.heap.size) (by omega)))
          replace XR := Lib.hid (XR.out.block (bw25.block (w6.heap.size) (by omega)))
          replace XS := Lib.hid (XS.out.block (bw25.block (w22.heap.size) (by omega)))
          replace XM := Lib.hid (XM.out.block (bw25.block (w23.heap.size) (by omega)))
          replace HB := Lib.hid (thn HB.out bw25)
          clear bw25
          have HRE := Lib.hid hre
          clear hre
          have HGK : Hid (w25.heap[gg]? = w25.heap[gg]? ∧ w25.heap[lb]? = w25.heap[lb]? ∧ w25.heap.size ≤ w25.heap.size) := Lib.hid ⟨rfl, rfl, Nat.le_refl _⟩
          obtain ⟨cF0, cF1, cF2, cF3, cF4, cF5, cF6, cF7, cF8, cF9, cF10⟩ := XF.out.c11
          obtain ⟨cO0, cO1, cO2, cO3, cO4, cO5, cO6, cO7⟩ := XO.out.c8
          refine hK2.out _ _ (⟨cF0, cF1, cF2, cF3, cF4, cF5, cF6, cF7, cF8, cF9, cF10, cO0, cO1, cO2, cO3, cO4, cO5, cO6, cO7⟩) (fun hHeld2 => ?_)
          clear hK2 K2 hHeld
          have hHeld := hHeld2
          clear hHeld2
          try simp (maxSteps := 4000000) only [Act.put, List.setIfInBounds_toArray, List.set_cons_zero, List.set_cons_succ]
          obtain ⟨cM0, cM1, cM2, cM3, cM4, cM5, cM6, cM7, cM8, cM9, cM10, cM11, cM12⟩ := XM.out.c13
          obtain ⟨cS0, cS1, cS2⟩ := XS.out.c3
          obtain ⟨fM0, fM1, fM2, fM3, fM4, fM5, fM6, fM7, fM8, fM9, fM10, fM11, fM12⟩ := XM.out.f13
          obtain ⟨fS0, fS1, fS2⟩ := XS.out.f3
          refine wpAnyH_take (i := 5) (v := ?_) rfl (by kernel_rfl) (by kernel_rfl) (by kernel_rfl) (fun _ _ _ h => h) (Or.inl ⟨by kernel_rfl, ?_⟩) (by assumption) ?_
          rotate_left
          · (intro w hSw; (try dsimp only at hSw); go_simp)
            try (with_reducible rfl)
          rotate_left
          try simp (maxSteps := 4000000) only [Act.put, List.setIfInBounds_toArray, List.set_cons_zero, List.set_cons_succ, List.getElem_toArray, List.getElem_cons_zero, List.getElem_cons_succ]
          refine wpAnyH_take (i := 6) (v := ?_) rfl (by kernel_rfl) (by kernel_rfl) (by kernel_rfl) (fun _ _ _ h => h) (Or.inl ⟨by kernel_rfl, ?_⟩) (by assumption) ?_
          rotate_left
          · (intro w hSw; (try dsimp only at hSw); go_simp)
            try (with_reducible rfl)
          rotate_left
          try simp (maxSteps := 4000000) only [Act.put, List.setIfInBounds_toArray, List.set_cons_zero, List.set_cons_succ, List.getElem_toArray, List.getElem_cons_zero, List.getElem_cons_succ]
          refine wpAnyH_take (i := 7) (v := ?_) rfl (by kernel_rfl) (by kernel_rfl) (by kernel_rfl) (fun _ _ _ h => h) (Or.inl ⟨by kernel_rfl, ?_⟩) (by assumption) ?_
          rotate_left
          · (intro w hSw; (try dsimp only at hSw); go_simp)
            try (with_reducible rfl)
          rotate_left
          try simp (maxSteps := 4000000) only [Act.put, List.setIfInBounds_toArray, List.set_cons_zero, List.set_cons_succ, List.getElem_toArray, List.getElem_cons_zero, List.getElem_cons_succ]
          refine wpAnyH_ready (rs := [10]) (by kernel_rfl) (by simp) ?_
          refine AllReadyH.cons rfl (fun K2 hK2 => ?_) AllReadyH.nil
          go_simp
          obtain ⟨w26, hw26⟩ : ∃ w26, w26 = sets13 w25 (w23.heap.size) (.int .i64 C.pg) (.int .i64 C.rg) (.int .i64 C.lg) (.int .i64 C.th) (.int .i64 C.ca) (.int .i64 C.ba) (.int .i64 C.sh) (.int .i64 C.re) (.int .i64 C.mo) (.int .i64 C.fi) (.int .u64 C.ky) (.slice LL ll lc) (.slice (some ⟨gg, 0, none⟩) k cap) := ⟨_, rfl⟩
          obtain ⟨sw26, kw26, lw26, XMn⟩ := XM.out.put13s rfl hw26
          unfold sets13 at hw26
          rw [← hw26]
          clear hw26
          clear cF0 cF1 cF2 cF3 cF4 cF5 cF6 cF7 cF8 cF9 cF10 cO0 cO1 cO2 cO3 cO4 cO5 cO6 cO7 cM0 cM1 cM2 cM3 cM4 cM5 cM6 cM7 cM8 cM9 cM10 cM11 cM12 cS0 cS1 cS2 fM0 fM1 fM2 fM3 fM4 fM5 fM6 fM7 fM8 fM9 fM10 fM11 fM12 fS0 fS1 fS2
          replace XM := Lib.hid XMn
          clear XMn
          replace XV := Lib.hid (XV.out.block (kw26 (W.heap.size) (by omega)))
          replace XO := Lib.hid (XO.out.block (kw26 (W.heap.size + 1) (by omega)))
          replace XF := Lib.hid (XF.out.block (kw26 (w3.heap.size) (by omega)))
          replace XR := Lib.hid (XR.out.block (kw26 (w6.heap.size) (by omega)))
          replace XS := Lib.hid (XS.out.block (kw26 (w22.heap.size) (by omega)))
          replace HB := Lib.hid (HB.out.trans (lw26 W.heap.size (by omega)))
          replace HB6 := Lib.hid (HB6.out.trans (lw26 w6.heap.size (by omega)))
          replace HGK := Lib.hid (And.intro ((kw26 gg (by omega)).trans HGK.out.1) (And.intro ((kw26 lb (by omega)).trans HGK.out.2.1) (Nat.le_trans HGK.out.2.2 (Nat.le_of_eq sw26.symm))))
          clear kw26 lw26
          obtain ⟨cF0, cF1, cF2, cF3, cF4, cF5, cF6, cF7, cF8, cF9, cF10⟩ := XF.out.c11
          obtain ⟨cO0, cO1, cO2, cO3, cO4, cO5, cO6, cO7⟩ := XO.out.c8
          obtain ⟨cS0, cS1, cS2⟩ := XS.out.c3
          obtain ⟨fS0, fS1, fS2⟩ := XS.out.f3
          refine hK2.out _ _ (⟨cF0, cF1, cF2, cF3, cF4, cF5, cF6, cF7, cF8, cF9, cF10, cO0, cO1, cO2, cO3, cO4, cO5, cO6, cO7⟩) (fun hHeld2 => ?_)
          clear hK2 K2 hHeld
          have hHeld := hHeld2
          clear hHeld2
          try simp (maxSteps := 4000000) only [Act.put, List.setIfInBounds_toArray, List.set_cons_zero, List.set_cons_succ]
          refine wpAnyH_ready (rs := [11]) (by kernel_rfl) (by simp) ?_
          refine AllReadyH.cons rfl (fun K2 hK2 => ?_) AllReadyH.nil
          go_simp
          obtain ⟨w27, hw27⟩ : ∃ w27, w27 = sets3 w26 (w22.heap.size) (.int .i64 E) (.int .i64 0) (.slice none 0 0) := ⟨_, rfl⟩
          obtain ⟨sw27, kw27, lw27, XSn⟩ := XS.out.put3s rfl hw27
          unfold sets3 at hw27
          rw [← hw27]
          clear hw27
          clear cF0 cF1 cF2 cF3 cF4 cF5 cF6 cF7 cF8 cF9 cF10 cO0 cO1 cO2 cO3 cO4 cO5 cO6 cO7 cS0 cS1 cS2 fS0 fS1 fS2
          replace XS := Lib.hid XSn
          clear XSn
          replace XV := Lib.hid (XV.out.block (kw27 (W.heap.size) (by omega)))
          replace XO := Lib.hid (XO.out.block (kw27 (W.heap.size + 1) (by omega)))
          replace XF := Lib.hid (XF.out.block (kw27 (w3.heap.size) (by omega)))
          replace XR := Lib.hid (XR.out.block (kw27 (w6.heap.size) (by omega)))
          replace XM := Lib.hid (XM.out.block (kw27 (w23.heap.size) (by omega)))
          replace HB := Lib.hid (HB.out.trans (lw27 W.heap.size (by omega)))
          replace HB6 := Lib.hid (HB6.out.trans (lw27 w6.heap.size (by omega)))
          replace HGK := Lib.hid (And.intro ((kw27 gg (by omega)).trans HGK.out.1) (And.intro ((kw27 lb (by omega)).trans HGK.out.2.1) (Nat.le_trans HGK.out.2.2 (Nat.le_of_eq sw27.symm))))
          clear kw27 lw27
          obtain ⟨cF0, cF1, cF2, cF3, cF4, cF5, cF6, cF7, cF8, cF9, cF10⟩ := XF.out.c11
          obtain ⟨cO0, cO1, cO2, cO3, cO4, cO5, cO6, cO7⟩ := XO.out.c8
          refine hK2.out _ _ (⟨cF0, cF1, cF2, cF3, cF4, cF5, cF6, cF7, cF8, cF9, cF10, cO0, cO1, cO2, cO3, cO4, cO5, cO6, cO7⟩) (fun hHeld2 => ?_)
          clear hK2 K2 hHeld
          have hHeld := hHeld2
          clear hHeld2
          try simp (maxSteps := 4000000) only [Act.put, List.setIfInBounds_toArray, List.set_cons_zero, List.set_cons_succ]
          refine wpAnyH_done (by kernel_rfl) ?_ _
          go_wp2
          go_meet
          refine ⟨_, _, LL, ll, lc, gg, cap, rfl, rfl, Lib.hid ⟨⟨by omega, by omega, by omega, by omega⟩, XO.out, XR.out, XM.out, XS.out, HME.out.below HB6.out, fun w2 h2 => HRE.out w2 ((h2.block gg (by omega)).trans HGK.out.1) ((h2.block lb (by omega)).trans HGK.out.2.1) (by have h9 := HGK.out.2.2; have h8 := h2.size; omega), HB.out⟩⟩
    · obtain ⟨w22, hw22⟩ : ∃ w22, w21.alloc (.cells #[.int .i64 0, .int .i64 0, .int .i64 0, .int .i64 0, .int .i64 0, .int .i64 0, .int .i64 0, .int .i64 0, .int .i64 0, .int .i64 0, .int .u64 0, .slice none 0 0, .slice none 0 0] 34) = w22 := ⟨_, rfl⟩
      have bw22 : Below w21.heap.size w21 w22 := by rw [← hw22]; exact alc0 _ _
      have sw22 : w22.heap.size = w21.heap.size + 1 := by rw [← hw22]; simp
      have XM : Hid (BX (w21.heap.size) #[.int .i64 0, .int .i64 0, .int .i64 0, .int .i64 0, .int .i64 0, .int .i64 0, .int .i64 0, .int .i64 0, .int .i64 0, .int .i64 0, .int .u64 0, .slice none 0 0, .slice none 0 0] w22) := Lib.hid (by rw [← hw22]; exact bx_new _ _ _)
      rw [hw22]
      clear hw22
      replace HB6 := Lib.hid (thn HB6.out bw22)
      replace XV := Lib.hid (XV.out.block (bw22.block (W.heap.size) (by omega)))
      replace XO := Lib.hid (XO.out.block (bw22.block (W.heap.size + 1) (by omega)))
      replace XF := Lib.hid (XF.out.block (bw22.block (w3.heap.size) (by omega)))
      replace XR := Lib.hid (XR.out.block (bw22.block (w6.heap.size) (by omega)))
      replace HB := Lib.hid (thn HB.out bw22)
      clear bw22
      replace sw22 := Nat.le_of_eq sw22.symm
      obtain ⟨cF0, cF1, cF2, cF3, cF4, cF5, cF6, cF7, cF8, cF9, cF10⟩ := XF.out.c11
      obtain ⟨cO0, cO1, cO2, cO3, cO4, cO5, cO6, cO7⟩ := XO.out.c8
      refine hK2.out _ _ (⟨cF0, cF1, cF2, cF3, cF4, cF5, cF6, cF7, cF8, cF9, cF10, cO0, cO1, cO2, cO3, cO4, cO5, cO6, cO7⟩) (fun hHeld2 => ?_)
      clear hK2 K2 hHeld
      have hHeld := hHeld2
      clear hHeld2
      try simp (maxSteps := 4000000) only [Act.put, List.setIfInBounds_toArray, List.set_cons_zero, List.set_cons_succ]
      refine wpAnyH_ready (rs := [1, 9]) (by kernel_rfl) (by simp) ?_
      refine AllReadyH.cons rfl (fun K2 hK2 => ?_) (AllReadyH.cons rfl (fun K2 hK2 => ?_) AllReadyH.nil)
      all_goals go_simp
      · with_reducible refine Calls.mono (rnew2 C k hk.symm _) ?_
        rintro e w23 ⟨rr, rfl, hz, hrr1, hrr2, bw23⟩
        clear cF0 cF1 cF2 cF3 cF4 cF5 cF6 cF7 cF8 cF9 cF10 cO0 cO1 cO2 cO3 cO4 cO5 cO6 cO7
        have sw23 := bw23.size
        replace HB6 := Lib.hid (thn HB6.out bw23)
        replace XV := Lib.hid (XV.out.block (bw23.block (W.heap.size) (by omega)))
        replace XO := Lib.hid (XO.out.block (bw23.block (W.heap.size + 1) (by omega)))
        replace XF := Lib.hid (XF.out.block (bw23.block (w3.heap.size) (by omega)))
        replace XR := Lib.hid (XR.out.block (bw23.block (w6.heap.size) (by omega)))
        replace XM := Lib.hid (XM.out.block (bw23.block (w21.heap.size) (by omega)))
        replace HB := Lib.hid (thn HB.out bw23)
        clear bw23
        have HZ : Hid (RZ rr k w23) := Lib.hid ⟨hz, hrr2⟩
        clear hz
        obtain ⟨cF0, cF1, cF2, cF3, cF4, cF5, cF6, cF7, cF8, cF9, cF10⟩ := XF.out.c11
        obtain ⟨cO0, cO1, cO2, cO3, cO4, cO5, cO6, cO7⟩ := XO.out.c8
        refine hK2.out _ _ (⟨cF0, cF1, cF2, cF3, cF4, cF5, cF6, cF7, cF8, cF9, cF10, cO0, cO1, cO2, cO3, cO4, cO5, cO6, cO7⟩) (fun hHeld2 => ?_)
        clear hK2 K2 hHeld
        have hHeld := hHeld2
        clear hHeld2
        try simp (maxSteps := 4000000) only [Act.put, List.setIfInBounds_toArray, List.set_cons_zero, List.set_cons_succ]
        refine wpAnyH_ready (rs := [4, 9]) (by kernel_rfl) (by simp) ?_
        refine AllReadyH.cons rfl (fun K2 hK2 => ?_) (AllReadyH.cons rfl (fun K2 hK2 => ?_) AllReadyH.nil)
        all_goals go_simp
        · have hrd := rdo_end K t a b v n mm P ln cp full hk64 HOK.out hmax HZ.out (kc := k)
          rw [hE] at hrd
          with_reducible refine Calls.mono hrd ?_
          rintro e w24 ⟨LL, ll, lc, gg, cap, lb, rfl, hre, hg1, hl1, hg2, hl2, bw24⟩
          clear hrd
          clear cF0 cF1 cF2 cF3 cF4 cF5 cF6 cF7 cF8 cF9 cF10 cO0 cO1 cO2 cO3 cO4 cO5 cO6 cO7
          have sw24 := bw24.size
          replace HB6 := Lib.hid (thn HB6.out bw24)
          replace HZ := Lib.hid (HZ.out.below bw24)
          replace XV := Lib.hid (XV.out.block (bw24.block (W.heap.size) (by omega)))
          replace XO := Lib.hid (XO.out.block (bw24.block (W.heap.size + 1) (by omega)))
          replace XF := Lib.hid (XF.out.block (bw24.block (w3.heap.size) (by omega)))
          replace XR := Lib.hid (XR.out.block (bw24.block (w6.heap.size) (by omega)))
          replace XM := Lib.hid (XM.out.block (bw24.block (w21.heap.size) (by omega)))
          replace HB := Lib.hid (thn HB.out bw24)
          clear bw24
          have HRE := Lib.hid hre
          clear hre
          have HGK : Hid (w24.heap[gg]? = w24.heap[gg]? ∧ w24.heap[lb]? = w24.heap[lb]? ∧ w24.heap.size ≤ w24.heap.size) := Lib.hid ⟨rfl, rfl, Nat.le_refl _⟩
          obtain ⟨cF0, cF1, cF2, cF3, cF4, cF5, cF6, cF7, cF8, cF9, cF10⟩ := XF.out.c11
          obtain ⟨cO0, cO1, cO2, cO3, cO4, cO5, cO6, cO7⟩ := XO.out.c8
          refine hK2.out _ _ (⟨cF0, cF1, cF2, cF3, cF4, cF5, cF6, cF7, cF8, cF9, cF10, cO0, cO1, cO2, cO3, cO4, cO5, cO6, cO7⟩) (fun hHeld2 => ?_)
          clear hK2 K2 hHeld
          have hHeld := hHeld2
          clear hHeld2
          try simp (maxSteps := 4000000) only [Act.put, List.setIfInBounds_toArray, List.set_cons_zero, List.set_cons_succ]
          refine wpAnyH_take (i := 5) (v := ?_) rfl (by kernel_rfl) (by kernel_rfl) (by kernel_rfl) (fun _ _ _ h => h) (Or.inl ⟨by kernel_rfl, ?_⟩) (by assumption) ?_
          rotate_left
          · (intro w hSw; (try dsimp only at hSw); go_simp)
            try (with_reducible rfl)
          rotate_left
          try simp (maxSteps := 4000000) only [Act.put, List.setIfInBounds_toArray, List.set_cons_zero, List.set_cons_succ, List.getElem_toArray, List.getElem_cons_zero, List.getElem_cons_succ]
          refine wpAnyH_take (i := 6) (v := ?_) rfl (by kernel_rfl) (by kernel_rfl) (by kernel_rfl) (fun _ _ _ h => h) (Or.inl ⟨by kernel_rfl, ?_⟩) (by assumption) ?_
          rotate_left
          · (intro w hSw; (try dsimp only at hSw); go_simp)
            try (with_reducible rfl)
          rotate_left
          try simp (maxSteps := 4000000) only [Act.put, List.setIfInBounds_toArray, List.set_cons_zero, List.set_cons_succ, List.getElem_toArray, List.getElem_cons_zero, List.getElem_cons_succ]
          refine wpAnyH_take (i := 7) (v := ?_) rfl (by kernel_rfl) (by kernel_rfl) (by kernel_rfl) (fun _ _ _ h => h) (Or.inl ⟨by kernel_rfl, ?_⟩) (by assumption) ?_
          rotate_left
          · (intro w hSw; (try dsimp only at hSw); go_simp)
            try (with_reducible rfl)
          rotate_left
          try simp (maxSteps := 4000000) only [Act.put, List.setIfInBounds_toArray, List.set_cons_zero, List.set_cons_succ, List.getElem_toArray, List.getElem_cons_zero, List.getElem_cons_succ]
          refine wpAnyH_ready (rs := [9]) (by kernel_rfl) (by simp) ?_
          refine AllReadyH.cons rfl (fun K2 hK2 => ?_) AllReadyH.nil
          go_simp
          clear cF0 cF1 cF2 cF3 cF4 cF5 cF6 cF7 cF8 cF9 cF10 cO0 cO1 cO2 cO3 cO4 cO5 cO6 cO7
          obtain ⟨w25, hw25⟩ : ∃ w25, w24.alloc (.cells #[.int .i64 0, .int .i64 0, .slice none 0 0] 39) = w25 := ⟨_, rfl⟩
          have bw25 : Below w24.heap.size w24 w25 := by rw [← hw25]; exact alc0 _ _
          have sw25 : w25.heap.size = w24.heap.size + 1 := by rw [← hw25]; simp
          have XS : Hid (BX (w24.heap.size) #[.int .i64 0, .int .i64 0, .slice none 0 0] w25) := Lib.hid (by rw [← hw25]; exact bx_new _ _ _)
          rw [hw25]
          clear hw25
          replace HB6 := Lib.hid (thn HB6.out bw25)
          replace HZ := Lib.hid (HZ.out.below bw25)
          replace HGK := Lib.hid (And.intro ((bw25.block gg (by omega)).trans HGK.out.1) (And.intro ((bw25.block lb (by omega)).trans HGK.out.2.1) (Nat.le_trans HGK.out.2.2 bw25.size)))
          replace XV := Lib.hid (XV.out.block (bw25.block (W.heap.size) (by omega)))
          replace XO := Lib.hid (XO.out.block (bw25.block (W.heap.size + 1) (by omega)))
          replace XF := Lib.hid (XF.out.block (bw25.block (w3.heap.size) (by omega)))
          replace XR := Lib.hid (XR.out.block (bw25.block (w6.heap.size) (by omega)))
          replace XM := Lib.hid (XM.out.block (bw25.block (w21.heap.size) (by omega)))
          replace HB := Lib.hid (thn HB.out bw25)
          clear bw25
          replace sw25 := Nat.le_of_eq sw25.symm
          obtain ⟨cF0, cF1, cF2, cF3, cF4, cF5, cF6, cF7, cF8, cF9, cF10⟩ := XF.out.c11
          obtain ⟨cO0, cO1, cO2, cO3, cO4, cO5, cO6, cO7⟩ := XO.out.c8
          refine hK2.out _ _ (⟨cF0, cF1, cF2, cF3, cF4, cF5, cF6, cF7, cF8, cF9, cF10, cO0, cO1, cO2, cO3, cO4, cO5, cO6, cO7⟩) (fun hHeld2 => ?_)
          clear hK2 K2 hHeld
          have hHeld := hHeld2
          clear hHeld2
          try simp (maxSteps := 4000000) only [Act.put, List.setIfInBounds_toArray, List.set_cons_zero, List.set_cons_succ]
          obtain ⟨cM0, cM1, cM2, cM3, cM4, cM5, cM6, cM7, cM8, cM9, cM10, cM11, cM12⟩ := XM.out.c13
          obtain ⟨cS0, cS1, cS2⟩ := XS.out.c3
          obtain ⟨fM0, fM1, fM2, fM3, fM4, fM5, fM6, fM7, fM8, fM9, fM10, fM11, fM12⟩ := XM.out.f13
          obtain ⟨fS0, fS1, fS2⟩ := XS.out.f3
          refine wpAnyH_ready (rs := [10]) (by kernel_rfl) (by simp) ?_
          refine AllReadyH.cons rfl (fun K2 hK2 => ?_) AllReadyH.nil
          go_simp
          obtain ⟨w26, hw26⟩ : ∃ w26, w26 = sets13 w25 (w21.heap.size) (.int .i64 C.pg) (.int .i64 C.rg) (.int .i64 C.lg) (.int .i64 C.th) (.int .i64 C.ca) (.int .i64 C.ba) (.int .i64 C.sh) (.int .i64 C.re) (.int .i64 C.mo) (.int .i64 C.fi) (.int .u64 C.ky) (.slice LL ll lc) (.slice (some ⟨gg, 0, none⟩) k cap) := ⟨_, rfl⟩
          obtain ⟨sw26, kw26, lw26, XMn⟩ := XM.out.put13s rfl hw26
          unfold sets13 at hw26
          rw [← hw26]
          clear hw26
          clear cF0 cF1 cF2 cF3 cF4 cF5 cF6 cF7 cF8 cF9 cF10 cO0 cO1 cO2 cO3 cO4 cO5 cO6 cO7 cM0 cM1 cM2 cM3 cM4 cM5 cM6 cM7 cM8 cM9 cM10 cM11 cM12 cS0 cS1 cS2 fM0 fM1 fM2 fM3 fM4 fM5 fM6 fM7 fM8 fM9 fM10 fM11 fM12 fS0 fS1 fS2
          replace XM := Lib.hid XMn
          clear XMn
          replace XV := Lib.hid (XV.out.block (kw26 (W.heap.size) (by omega)))
          replace XO := Lib.hid (XO.out.block (kw26 (W.heap.size + 1) (by omega)))
          replace XF := Lib.hid (XF.out.block (kw26 (w3.heap.size) (by omega)))
          replace XR := Lib.hid (XR.out.block (kw26 (w6.heap.size) (by omega)))
          replace XS := Lib.hid (XS.out.block (kw26 (w24.heap.size) (by omega)))
          replace HB := Lib.hid (HB.out.trans (lw26 W.heap.size (by omega)))
          replace HB6 := Lib.hid (HB6.out.trans (lw26 w6.heap.size (by omega)))
          replace HGK := Lib.hid (And.intro ((kw26 gg (by omega)).trans HGK.out.1) (And.intro ((kw26 lb (by omega)).trans HGK.out.2.1) (Nat.le_trans HGK.out.2.2 (Nat.le_of_eq sw26.symm))))
          clear kw26 lw26
          obtain ⟨cF0, cF1, cF2, cF3, cF4, cF5, cF6, cF7, cF8, cF9, cF10⟩ := XF.out.c11
          obtain ⟨cO0, cO1, cO2, cO3, cO4, cO5, cO6, cO7⟩ := XO.out.c8
          obtain ⟨cS0, cS1, cS2⟩ := XS.out.c3
          obtain ⟨fS0, fS1, fS2⟩ := XS.out.f3
          refine hK2.out _ _ (⟨cF0, cF1, cF2, cF3, cF4, cF5, cF6, cF7, cF8, cF9, cF10, cO0, cO1, cO2, cO3, cO4, cO5, cO6, cO7⟩) (fun hHeld2 => ?_)
          clear hK2 K2 hHeld
          have hHeld := hHeld2
          clear hHeld2
          try simp (maxSteps := 4000000) only [Act.put, List.setIfInBounds_toArray, List.set_cons_zero, List.set_cons_succ]
          refine wpAnyH_ready (rs := [11]) (by kernel_rfl) (by simp) ?_
          refine AllReadyH.cons rfl (fun K2 hK2 => ?_) AllReadyH.nil
          go_simp
          obtain ⟨w27, hw27⟩ : ∃ w27, w27 = sets3 w26 (w24.heap.size) (.int .i64 E) (.int .i64 0) (.slice none 0 0) := ⟨_, rfl⟩
          obtain ⟨sw27, kw27, lw27, XSn⟩ := XS.out.put3s rfl hw27
          unfold sets3 at hw27
          rw [← hw27]
          clear hw27
          clear cF0 cF1 cF2 cF3 cF4 cF5 cF6 cF7 cF8 cF9 cF10 cO0 cO1 cO2 cO3 cO4 cO5 cO6 cO7 cS0 cS1 cS2 fS0 fS1 fS2
          replace XS := Lib.hid XSn
          clear XSn
          replace XV := Lib.hid (XV.out.block (kw27 (W.heap.size) (by omega)))
          replace XO := Lib.hid (XO.out.block (kw27 (W.heap.size + 1) (by omega)))
          replace XF := Lib.hid (XF.out.block (kw27 (w3.heap.size) (by omega)))
          replace XR := Lib.hid (XR.out.block (kw27 (w6.heap.size) (by omega)))
          replace XM := Lib.hid (XM.out.block (kw27 (w21.heap.size) (by omega)))
          replace HB := Lib.hid (HB.out.trans (lw27 W.heap.size (by omega)))
          replace HB6 := Lib.hid (HB6.out.trans (lw27 w6.heap.size (by omega)))
          replace HGK := Lib.hid (And.intro ((kw27 gg (by omega)).trans HGK.out.1) (And.intro ((kw27 lb (by omega)).trans HGK.out.2.1) (Nat.le_trans HGK.out.2.2 (Nat.le_of_eq sw27.symm))))
          clear kw27 lw27
          obtain ⟨cF0, cF1, cF2, cF3, cF4, cF5, cF6, cF7, cF8, cF9, cF10⟩ := XF.out.c11
          obtain ⟨cO0, cO1, cO2, cO3, cO4, cO5, cO6, cO7⟩ := XO.out.c8
          refine hK2.out _ _ (⟨cF0, cF1, cF2, cF3, cF4, cF5, cF6, cF7, cF8, cF9, cF10, cO0, cO1, cO2, cO3, cO4, cO5, cO6, cO7⟩) (fun hHeld2 => ?_)
          clear hK2 K2 hHeld
          have hHeld := hHeld2
          clear hHeld2
          try simp (maxSteps := 4000000) only [Act.put, List.setIfInBounds_toArray, List.set_cons_zero, List.set_cons_succ]
          refine wpAnyH_done (by kernel_rfl) ?_ _
          go_wp2
          go_meet
          refine ⟨_, _, LL, ll, lc, gg, cap, rfl, rfl, Lib.hid ⟨⟨by omega, by omega, by omega, by omega⟩, XO.out, XR.out, XM.out, XS.out, HME.out.below HB6.out, fun w2 h2 => HRE.out w2 ((h2.block gg (by omega)).trans HGK.out.1) ((h2.block lb (by omega)).trans HGK.out.2.1) (by have h9 := HGK.out.2.2; have h8 := h2.size; omega), HB.out⟩⟩
        · clear cF0 cF1 cF2 cF3 cF4 cF5 cF6 cF7 cF8 cF9 cF10 cO0 cO1 cO2 cO3 cO4 cO5 cO6 cO7
          obtain ⟨w24, hw24⟩ : ∃ w24, w23.alloc (.cells #[.int .i64 0, .int .i64 0, .slice none 0 0] 39) = w24 := ⟨_, rfl⟩
          have bw24 : Below w23.heap.size w23 w24 := by rw [← hw24]; exact alc0 _ _
          have sw24 : w24.heap.size = w23.heap.size + 1 := by rw [← hw24]; simp
          have XS : Hid (BX (w23.heap.size) #[.int .i64 0, .int .i64 0, .slice none 0 0] w24) := Lib.hid (by rw [← hw24]; exact bx_new _ _ _)
          rw [hw24]
          clear hw24
          replace HB6 := Lib.hid (thn HB6.out bw24)
          replace HZ := Lib.hid (HZ.out.below bw24)
          replace XV := Lib.hid (XV.out.block (bw24.block (W.heap.size) (by omega)))
          replace XO := Lib.hid (XO.out.block (bw24.block (W.heap.size + 1) (by omega)))
          replace XF := Lib.hid (XF.out.block (bw24.block (w3.heap.size) (by omega)))
          replace XR := Lib.hid (XR.out.block (bw24.block (w6.heap.size) (by omega)))
          replace XM := Lib.hid (XM.out.block (bw24.block (w21.heap.size) (by omega)))
          replace HB := Lib.hid (thn HB.out bw24)
          clear bw24
          replace sw24 := Nat.le_of_eq sw24.symm
          obtain ⟨cF0, cF1, cF2, cF3, cF4, cF5, cF6, cF7, cF8, cF9, cF10⟩ := XF.out.c11
          obtain ⟨cO0, cO1, cO2, cO3, cO4, cO5, cO6, cO7⟩ := XO.out.c8
          refine hK2.out _ _ (⟨cF0, cF1, cF2, cF3, cF4, cF5, cF6, cF7, cF8, cF9, cF10, cO0, cO1, cO2, cO3, cO4, cO5, cO6, cO7⟩) (fun hHeld2 => ?_)
          clear hK2 K2 hHeld
          have hHeld := hHeld2
          clear hHeld2
          try simp (maxSteps := 4000000) only [Act.put, List.setIfInBounds_toArray, List.set_cons_zero, List.set_cons_succ]
          refine wpAnyH_ready (rs := [4]) (by kernel_rfl) (by simp) ?_
          refine AllReadyH.cons rfl (fun K2 hK2 => ?_) AllReadyH.nil
          go_simp
          have hrd := rdo_end K t a b v n mm P ln cp full hk64 HOK.out hmax HZ.out (kc := k)
          rw [hE] at hrd
          with_reducible refine Calls.mono hrd ?_
          rintro e w25 ⟨LL, ll, lc, gg, cap, lb, rfl, hre, hg1, hl1, hg2, hl2, bw25⟩
          clear hrd
          clear cF0 cF1 cF2 cF3 cF4 cF5 cF6 cF7 cF8 cF9 cF10 cO0 cO1 cO2 cO3 cO4 cO5 cO6 cO7
          have sw25 := bw25.size
          replace HB6 := Lib.hid (thn HB6.out bw25)
          replace HZ := Lib.hid (HZ.out.below bw25)
          replace XV := Lib.hid (XV.out.block (bw25.block (W.heap.size) (by omega)))
          replace XO := Lib.hid (XO.out.block (bw25.block (W.heap.size + 1) (by omega)))
          replace XF := Lib.hid (XF.out.block (bw25.block (w3.heap.size) (by omega)))
          replace XR := Lib.hid (XR.out.block (bw25.block (w6.heap.size) (by omega)))
          replace XM := Lib.hid (XM.out.block (bw25.block (w21.heap.size) (by omega)))
          replace XS := Lib.hid (XS.out.block (bw25.block (w23.heap.size) (by omega)))
          replace HB := Lib.hid (thn HB.out bw25)
          clear bw25
          have HRE := Lib.hid hre
          clear hre
          have HGK : Hid (w25.heap[gg]? = w25.heap[gg]? ∧ w25.heap[lb]? = w25.heap[lb]? ∧ w25.heap.size ≤ w25.heap.size) := Lib.hid ⟨rfl, rfl, Nat.le_refl _⟩
          obtain ⟨cF0, cF1, cF2, cF3, cF4, cF5, cF6, cF7, cF8, cF9, cF10⟩ := XF.out.c11
          obtain ⟨cO0, cO1, cO2, cO3, cO4, cO5, cO6, cO7⟩ := XO.out.c8
          refine hK2.out _ _ (⟨cF0, cF1, cF2, cF3, cF4, cF5, cF6, cF7, cF8, cF9, cF10, cO0, cO1, cO2, cO3, cO4, cO5, cO6, cO7⟩) (fun hHeld2 => ?_)
          clear hK2 K2 hHeld
          have hHeld := hHeld2
          clear hHeld2
          try simp (maxSteps := 4000000) only [Act.put, List.setIfInBounds_toArray, List.set_cons_zero, List.set_cons_succ]
          obtain ⟨cM0, cM1, cM2, cM3, cM4, cM5, cM6, cM7, cM8, cM9, cM10, cM11, cM12⟩ := XM.out.c13
          obtain ⟨cS0, cS1, cS2⟩ := XS.out.c3
          obtain ⟨fM0, fM1, fM2, fM3, fM4, fM5, fM6, fM7, fM8, fM9, fM10, fM11, fM12⟩ := XM.out.f13
          obtain ⟨fS0, fS1, fS2⟩ := XS.out.f3
          refine wpAnyH_take (i := 5) (v := ?_) rfl (by kernel_rfl) (by kernel_rfl) (by kernel_rfl) (fun _ _ _ h => h) (Or.inl ⟨by kernel_rfl, ?_⟩) (by assumption) ?_
          rotate_left
          · (intro w hSw; (try dsimp only at hSw); go_simp)
            try (with_reducible rfl)
          rotate_left
          try simp (maxSteps := 4000000) only [Act.put, List.setIfInBounds_toArray, List.set_cons_zero, List.set_cons_succ, List.getElem_toArray, List.getElem_cons_zero, List.getElem_cons_succ]
          refine wpAnyH_take (i := 6) (v := ?_) rfl (by kernel_rfl) (by kernel_rfl) (by kernel_rfl) (fun _ _ _ h => h) (Or.inl ⟨by kernel_rfl, ?_⟩) (by assumption) ?_
          rotate_left
          · (intro w hSw; (try dsimp only at hSw); go_simp)
            try (with_reducible rfl)
          rotate_left
          try simp (maxSteps := 4000000) only [Act.put, List.setIfInBounds_toArray, List.set_cons_zero, List.set_cons_succ, List.getElem_toArray, List.getElem_cons_zero, List.getElem_cons_succ]
          refine wpAnyH_take (i := 7) (v := ?_) rfl (by kernel_rfl) (by kernel_rfl) (by kernel_rfl) (fun _ _ _ h => h) (Or.inl ⟨by kernel_rfl, ?_⟩) (by assumption) ?_
          rotate_left
          · (intro w hSw; (try dsimp only at hSw); go_simp)
            try (with_reducible rfl)
          rotate_left
          try simp (maxSteps := 4000000) only [Act.put, List.setIfInBounds_toArray, List.set_cons_zero, List.set_cons_succ, List.getElem_toArray, List.getElem_cons_zero, List.getElem_cons_succ]
          refine wpAnyH_ready (rs := [10]) (by kernel_rfl) (by simp) ?_
          refine AllReadyH.cons rfl (fun K2 hK2 => ?_) AllReadyH.nil
          go_simp
          obtain ⟨w26, hw26⟩ : ∃ w26, w26 = sets13 w25 (w21.heap.size) (.int .i64 C.pg) (.int .i64 C.rg) (.int .i64 C.lg) (.int .i64 C.th) (.int .i64 C.ca) (.int .i64 C.ba) (.int .i64 C.sh) (.int .i64 C.re) (.int .i64 C.mo) (.int .i64 C.fi) (.int .u64 C.ky) (.slice LL ll lc) (.slice (some ⟨gg, 0, none⟩) k cap) := ⟨_, rfl⟩
          obtain ⟨sw26, kw26, lw26, XMn⟩ := XM.out.put13s rfl hw26
          unfold sets13 at hw26
          rw [← hw26]
          clear hw26
          clear cF0 cF1 cF2 cF3 cF4 cF5 cF6 cF7 cF8 cF9 cF10 cO0 cO1 cO2 cO3 cO4 cO5 cO6 cO7 cM0 cM1 cM2 cM3 cM4 cM5 cM6 cM7 cM8 cM9 cM10 cM11 cM12 cS0 cS1 cS2 fM0 fM1 fM2 fM3 fM4 fM5 fM6 fM7 fM8 fM9 fM10 fM11 fM12 fS0 fS1 fS2
          replace XM := Lib.hid XMn
          clear XMn
          replace XV := Lib.hid (XV.out.block (kw26 (W.heap.size) (by omega)))
          replace XO := Lib.hid (XO.out.block (kw26 (W.heap.size + 1) (by omega)))
          replace XF := Lib.hid (XF.out.block (kw26 (w3.heap.size) (by omega)))
          replace XR := Lib.hid (XR.out.block (kw26 (w6.heap.size) (by omega)))
          replace XS := Lib.hid (XS.out.block (kw26 (w23.heap.size) (by omega)))
          replace HB := Lib.hid (HB.out.trans (lw26 W.heap.size (by omega)))
          replace HB6 := Lib.hid (HB6.out.trans (lw26 w6.heap.size (by omega)))
          replace HGK := Lib.hid (And.intro ((kw26 gg (by omega)).trans HGK.out.1) (And.intro ((kw26 lb (by omega)).trans HGK.out.2.1) (Nat.le_trans HGK.out.2.2 (Nat.le_of_eq sw26.symm))))
          clear kw26 lw26
          obtain ⟨cF0, cF1, cF2, cF3, cF4, cF5, cF6, cF7, cF8, cF9, cF10⟩ := XF.out.c11
          obtain ⟨cO0, cO1, cO2, cO3, cO4, cO5, cO6, cO7⟩ := XO.out.c8
          obtain ⟨cS0, cS1, cS2⟩ := XS.out.c3
          obtain ⟨fS0, fS1, fS2⟩ := XS.out.f3
          refine hK2.out _ _ (⟨cF0, cF1, cF2, cF3, cF4, cF5, cF6, cF7, cF8, cF9, cF10, cO0, cO1, cO2, cO3, cO4, cO5, cO6, cO7⟩) (fun hHeld2 => ?_)
          clear hK2 K2 hHeld
          have hHeld := hHeld2
          clear hHeld2
          try simp (maxSteps := 4000000) only [Act.put, List.setIfInBounds_toArray, List.set_cons_zero, List.set_cons_succ]
          refine wpAnyH_ready (rs := [11]) (by kernel_rfl) (by simp) ?_
          refine AllReadyH.cons rfl (fun K2 hK2 => ?_) AllReadyH.nil
          go_simp
          obtain ⟨w27, hw27⟩ : ∃ w27, w27 = sets3 w26 (w23.heap.size) (.int .i64 E) (.int .i64 0) (.slice none 0 0) := ⟨_, rfl⟩
          obtain ⟨sw27, kw27, lw27, XSn⟩ := XS.out.put3s rfl hw27
          unfold sets3 at hw27
          rw [← hw27]
          clear hw27
          clear cF0 cF1 cF2 cF3 cF4 cF5 cF6 cF7 cF8 cF9 cF10 cO0 cO1 cO2 cO3 cO4 cO5 cO6 cO7 cS0 cS1 cS2 fS0 fS1 fS2
          replace XS := Lib.hid XSn
          clear XSn
          replace XV := Lib.hid (XV.out.block (kw27 (W.heap.size) (by omega)))
          replace XO := Lib.hid (XO.out.block (kw27 (W.heap.size + 1) (by omega)))
          replace XF := Lib.hid (XF.out.block (kw27 (w3.heap.size) (by omega)))
          replace XR := Lib.hid (XR.out.block (kw27 (w6.heap.size) (by omega)))
          replace XM := Lib.hid (XM.out.block (kw27 (w21.heap.size) (by omega)))
          replace HB := Lib.hid (HB.out.trans (lw27 W.heap.size (by omega)))
          replace HB6 := Lib.hid (HB6.out.trans (lw27 w6.heap.size (by omega)))
          replace HGK := Lib.hid (And.intro ((kw27 gg (by omega)).trans HGK.out.1) (And.intro ((kw27 lb (by omega)).trans HGK.out.2.1) (Nat.le_trans HGK.out.2.2 (Nat.le_of_eq sw27.symm))))
          clear kw27 lw27
          obtain ⟨cF0, cF1, cF2, cF3, cF4, cF5, cF6, cF7, cF8, cF9, cF10⟩ := XF.out.c11
          obtain ⟨cO0, cO1, cO2, cO3, cO4, cO5, cO6, cO7⟩ := XO.out.c8
          refine hK2.out _ _ (⟨cF0, cF1, cF2, cF3, cF4, cF5, cF6, cF7, cF8, cF9, cF10, cO0, cO1, cO2, cO3, cO4, cO5, cO6, cO7⟩) (fun hHeld2 => ?_)
          clear hK2 K2 hHeld
          have hHeld := hHeld2
          clear hHeld2
          try simp (maxSteps := 4000000) only [Act.put, List.setIfInBounds_toArray, List.set_cons_zero, List.set_cons_succ]
          refine wpAnyH_done (by kernel_rfl) ?_ _
          go_wp2
          go_meet
          refine ⟨_, _, LL, ll, lc, gg, cap, rfl, rfl, Lib.hid ⟨⟨by omega, by omega, by omega, by omega⟩, XO.out, XR.out, XM.out, XS.out, HME.out.below HB6.out, fun w2 h2 => HRE.out w2 ((h2.block gg (by omega)).trans HGK.out.1) ((h2.block lb (by omega)).trans HGK.out.2.1) (by have h9 := HGK.out.2.2; have h8 := h2.size; omega), HB.out⟩⟩
      · clear cF0 cF1 cF2 cF3 cF4 cF5 cF6 cF7 cF8 cF9 cF10 cO0 cO1 cO2 cO3 cO4 cO5 cO6 cO7
        obtain ⟨w23, hw23⟩ : ∃ w23, w22.alloc (.cells #[.int .i64 0, .int .i64 0, .slice none 0 0] 39) = w23 := ⟨_, rfl⟩
        have bw23 : Below w22.heap.size w22 w23 := by rw [← hw23]; exact alc0 _ _
        have sw23 : w23.heap.size = w22.heap.size + 1 := by rw [← hw23]; simp
        have XS : Hid (BX (w22.heap.size) #[.int .i64 0, .int .i64 0, .slice none 0 0] w23) := Lib.hid (by rw [← hw23]; exact bx_new _ _ _)
        rw [hw23]
        clear hw23
        replace HB6 := Lib.hid (thn HB6.out bw23)
        replace XV := Lib.hid (XV.out.block (bw23.block (W.heap.size) (by omega)))
        replace XO := Lib.hid (XO.out.block (bw23.block (W.heap.size + 1) (by omega)))
        replace XF := Lib.hid (XF.out.block (bw23.block (w3.heap.size) (by omega)))
        replace XR := Lib.hid (XR.out.block (bw23.block (w6.heap.size) (by omega)))
        replace XM := Lib.hid (XM.out.block (bw23.block (w21.heap.size) (by omega)))
        replace HB := Lib.hid (thn HB.out bw23)
        clear bw23
        replace sw23 := Nat.le_of_eq sw23.symm
        obtain ⟨cF0, cF1, cF2, cF3, cF4, cF5, cF6, cF7, cF8, cF9, cF10⟩ := XF.out.c11
        obtain ⟨cO0, cO1, cO2, cO3, cO4, cO5, cO6, cO7⟩ := XO.out.c8
        refine hK2.out _ _ (⟨cF0, cF1, cF2, cF3, cF4, cF5, cF6, cF7, cF8, cF9, cF10, cO0, cO1, cO2, cO3, cO4, cO5, cO6, cO7⟩) (fun hHeld2 => ?_)
        clear hK2 K2 hHeld
        have hHeld := hHeld2
        clear hHeld2
        try simp (maxSteps := 4000000) only [Act.put, List.setIfInBounds_toArray, List.set_cons_zero, List.set_cons_succ]
        refine wpAnyH_ready (rs := [1]) (by kernel_rfl) (by simp) ?_
        refine AllReadyH.cons rfl (fun K2 hK2 => ?_) AllReadyH.nil
        go_simp
        with_reducible refine Calls.mono (rnew2 C k hk.symm _) ?_
        rintro e w24 ⟨rr, rfl, hz, hrr1, hrr2, bw24⟩
        clear cF0 cF1 cF2 cF3 cF4 cF5 cF6 cF7 cF8 cF9 cF10 cO0 cO1 cO2 cO3 cO4 cO5 cO6 cO7
        have sw24 := bw24.size
        replace HB6 := Lib.hid (thn HB6.out bw24)
        replace XV := Lib.hid (XV.out.block (bw24.block (W.heap.size) (by omega)))
        replace XO := Lib.hid (XO.out.block (bw24.block (W.heap.size + 1) (by omega)))
        replace XF := Lib.hid (XF.out.block (bw24.block (w3.heap.size) (by omega)))
        replace XR := Lib.hid (XR.out.block (bw24.block (w6.heap.size) (by omega)))
        replace XM := Lib.hid (XM.out.block (bw24.block (w21.heap.size) (by omega)))
        replace XS := Lib.hid (XS.out.block (bw24.block (w22.heap.size) (by omega)))
        replace HB := Lib.hid (thn HB.out bw24)
        clear bw24
        have HZ : Hid (RZ rr k w24) := Lib.hid ⟨hz, hrr2⟩
        clear hz
        obtain ⟨cF0, cF1, cF2, cF3, cF4, cF5, cF6, cF7, cF8, cF9, cF10⟩ := XF.out.c11
        obtain ⟨cO0, cO1, cO2, cO3, cO4, cO5, cO6, cO7⟩ := XO.out.c8
        refine hK2.out _ _ (⟨cF0, cF1, cF2, cF3, cF4, cF5, cF6, cF7, cF8, cF9, cF10, cO0, cO1, cO2, cO3, cO4, cO5, cO6, cO7⟩) (fun hHeld2 => ?_)
        clear hK2 K2 hHeld
        have hHeld := hHeld2
        clear hHeld2
        try simp (maxSteps := 4000000) only [Act.put, List.setIfInBounds_toArray, List.set_cons_zero, List.set_cons_succ]
        refine wpAnyH_ready (rs := [4]) (by kernel_rfl) (by simp) ?_
        refine AllReadyH.cons rfl (fun K2 hK2 => ?_) AllReadyH.nil
        go_simp
        have hrd := rdo_end K t a b v n mm P ln cp full hk64 HOK.out hmax HZ.out (kc := k)
        rw [hE] at hrd
        with_reducible refine Calls.mono hrd ?_
        rintro e w25 ⟨LL, ll, lc, gg, cap, lb, rfl, hre, hg1, hl1, hg2, hl2, bw25⟩
        clear hrd
        clear cF0 cF1 cF2 cF3 cF4 cF5 cF6 cF7 cF8 cF9 cF10 cO0 cO1 cO2 cO3 cO4 cO5 cO6 cO7
        have sw25 := bw25.size
        replace HB6 := Lib.hid (thn HB6.out bw25)
        replace HZ := Lib.hid (HZ.out.below bw25)
        replace XV := Lib.hid (XV.out.block (bw25.block (W.heap.size) (by omega)))
        replace XO := Lib.hid (XO.out.block (bw25.block (W.heap.size + 1) (by omega)))
        replace XF := Lib.hid (XF.out.block (bw25.block (w3.heap.size) (by omega)))
        replace XR := Lib.hid (XR.out.block (bw25.block (w6.heap.size) (by omega)))
        replace XM := Lib.hid (XM.out.block (bw25.block (w21.heap.size) (by omega)))
        replace XS := Lib.hid (XS.out.block (bw25.block (w22.heap.size) (by omega)))
        replace HB := Lib.hid (thn HB.out bw25)
        clear bw25
        have HRE := Lib.hid hre
        clear hre
        have HGK : Hid (w25.heap[gg]? = w25.heap[gg]? ∧ w25.heap[lb]? = w25.heap[lb]? ∧ w25.heap.size ≤ w25.heap.size) := Lib.hid ⟨rfl, rfl, Nat.le_refl _⟩
        obtain ⟨cF0, cF1, cF2, cF3, cF4, cF5, cF6, cF7, cF8, cF9, cF10⟩ := XF.out.c11
        obtain ⟨cO0, cO1, cO2, cO3, cO4, cO5, cO6, cO7⟩ := XO.out.c8
        refine hK2.out _ _ (⟨cF0, cF1, cF2, cF3, cF4, cF5, cF6, cF7, cF8, cF9, cF10, cO0, cO1, cO2, cO3, cO4, cO5, cO6, cO7⟩) (fun hHeld2 => ?_)
        clear hK2 K2 hHeld
        have hHeld := hHeld2
        clear hHeld2
        try simp (maxSteps := 4000000) only [Act.put, List.setIfInBounds_toArray, List.set_cons_zero, List.set_cons_succ]
        obtain ⟨cM0, cM1, cM2, cM3, cM4, cM5, cM6, cM7, cM8, cM9, cM10, cM11, cM12⟩ := XM.out.c13
        obtain ⟨cS0, cS1, cS2⟩ := XS.out.c3
        obtain ⟨fM0, fM1, fM2, fM3, fM4, fM5, fM6, fM7, fM8, fM9, fM10, fM11, fM12⟩ := XM.out.f13
        obtain ⟨fS0, fS1, fS2⟩ := XS.out.f3
        refine wpAnyH_take (i := 5) (v := ?_) rfl (by kernel_rfl) (by kernel_rfl) (by kernel_rfl) (fun _ _ _ h => h) (Or.inl ⟨by kernel_rfl, ?_⟩) (by assumption) ?_
        rotate_left
        · (intro w hSw; (try dsimp only at hSw); go_simp)
          try (with_reducible rfl)
        rotate_left
        try simp (maxSteps := 4000000) only [Act.put, List.setIfInBounds_toArray, List.set_cons_zero, List.set_cons_succ, List.getElem_toArray, List.getElem_cons_zero, List.getElem_cons_succ]
        refine wpAnyH_take (i := 6) (v := ?_) rfl (by kernel_rfl) (by kernel_rfl) (by kernel_rfl) (fun _ _ _ h => h) (Or.inl ⟨by kernel_rfl, ?_⟩) (by assumption) ?_
        rotate_left
        · (intro w hSw; (try dsimp only at hSw); go_simp)
          try (with_reducible rfl)
        rotate_left
        try simp (maxSteps := 4000000) only [Act.put, List.setIfInBounds_toArray, List.set_cons_zero, List.set_cons_succ, List.getElem_toArray, List.getElem_cons_zero, List.getElem_cons_succ]
        refine wpAnyH_take (i := 7) (v := ?_) rfl (by kernel_rfl) (by kernel_rfl) (by kernel_rfl) (fun _ _ _ h => h) (Or.inl ⟨by kernel_rfl, ?_⟩) (by assumption) ?_
        rotate_left
        · (intro w hSw; (try dsimp only at hSw); go_simp)
          try (with_reducible rfl)
        rotate_left
        try simp (maxSteps := 4000000) only [Act.put, List.setIfInBounds_toArray, List.set_cons_zero, List.set_cons_succ, List.getElem_toArray, List.getElem_cons_zero, List.getElem_cons_succ]
        refine wpAnyH_ready (rs := [10]) (by kernel_rfl) (by simp) ?_
        refine AllReadyH.cons rfl (fun K2 hK2 => ?_) AllReadyH.nil
        go_simp
        obtain ⟨w26, hw26⟩ : ∃ w26, w26 = sets13 w25 (w21.heap.size) (.int .i64 C.pg) (.int .i64 C.rg) (.int .i64 C.lg) (.int .i64 C.th) (.int .i64 C.ca) (.int .i64 C.ba) (.int .i64 C.sh) (.int .i64 C.re) (.int .i64 C.mo) (.int .i64 C.fi) (.int .u64 C.ky) (.slice LL ll lc) (.slice (some ⟨gg, 0, none⟩) k cap) := ⟨_, rfl⟩
        obtain ⟨sw26, kw26, lw26, XMn⟩ := XM.out.put13s rfl hw26
        unfold sets13 at hw26
        rw [← hw26]
        clear hw26
        clear cF0 cF1 cF2 cF3 cF4 cF5 cF6 cF7 cF8 cF9 cF10 cO0 cO1 cO2 cO3 cO4 cO5 cO6 cO7 cM0 cM1 cM2 cM3 cM4 cM5 cM6 cM7 cM8 cM9 cM10 cM11 cM12 cS0 cS1 cS2 fM0 fM1 fM2 fM3 fM4 fM5 fM6 fM7 fM8 fM9 fM10 fM11 fM12 fS0 fS1 fS2
        replace XM := Lib.hid XMn
        clear XMn
        replace XV := Lib.hid (XV.out.block (kw26 (W.heap.size) (by omega)))
        replace XO := Lib.hid (XO.out.block (kw26 (W.heap.size + 1) (by omega)))
        replace XF := Lib.hid (XF.out.block (kw26 (w3.heap.size) (by omega)))
        replace XR := Lib.hid (XR.out.block (kw26 (w6.heap.size) (by omega)))
        replace XS := Lib.hid (XS.out.block (kw26 (w22.heap.size) (by omega)))
        replace HB := Lib.hid (HB.out.trans (lw26 W.heap.size (by omega)))
        replace HB6 := Lib.hid (HB6.out.trans (lw26 w6.heap.size (by omega)))
        replace HGK := Lib.hid (And.intro ((kw26 gg (by omega)).trans HGK.out.1) (And.intro ((kw26 lb (by omega)).trans HGK.out.2.1) (Nat.le_trans HGK.out.2.2 (Nat.le_of_eq sw26.symm))))
        clear kw26 lw26
        obtain ⟨cF0, cF1, cF2, cF3, cF4, cF5, cF6, cF7, cF8, cF9, cF10⟩ := XF.out.c11
        obtain ⟨cO0, cO1, cO2, cO3, cO4, cO5, cO6, cO7⟩ := XO.out.c8
        obtain ⟨cS0, cS1, cS2⟩ := XS.out.c3
        obtain ⟨fS0, fS1, fS2⟩ := XS.out.f3
        refine hK2.out _ _ (⟨cF0, cF1, cF2, cF3, cF4, cF5, cF6, cF7, cF8, cF9, cF10, cO0, cO1, cO2, cO3, cO4, cO5, cO6, cO7⟩) (fun hHeld2 => ?_)
        clear hK2 K2 hHeld
        have hHeld := hHeld2
        clear hHeld2
        try simp (maxSteps := 4000000) only [Act.put, List.setIfInBounds_toArray, List.set_cons_zero, List.set_cons_succ]
        refine wpAnyH_ready (rs := [11]) (by kernel_rfl) (by simp) ?_
        refine AllReadyH.cons rfl (fun K2 hK2 => ?_) AllReadyH.nil
        go_simp
        obtain ⟨w27, hw27⟩ : ∃ w27, w27 = sets3 w26 (w22.heap.size) (.int .i64 E) (.int .i64 0) (.slice none 0 0) := ⟨_, rfl⟩
        obtain ⟨sw27, kw27, lw27, XSn⟩ := XS.out.put3s rfl hw27
        unfold sets3 at hw27
        rw [← hw27]
        clear hw27
        clear cF0 cF1 cF2 cF3 cF4 cF5 cF6 cF7 cF8 cF9 cF10 cO0 cO1 cO2 cO3 cO4 cO5 cO6 cO7 cS0 cS1 cS2 fS0 fS1 fS2
        replace XS := Lib.hid XSn
        clear XSn
        replace XV := Lib.hid (XV.out.block (kw27 (W.heap.size) (by omega)))
        replace XO := Lib.hid (XO.out.block (kw27 (W.heap.size + 1) (by omega)))
        replace XF := Lib.hid (XF.out.block (kw27 (w3.heap.size) (by omega)))
        replace XR := Lib.hid (XR.out.block (kw27 (w6.heap.size) (by omega)))
        replace XM := Lib.hid (XM.out.block (kw27 (w21.heap.size) (by omega)))
        replace HB := Lib.hid (HB.out.trans (lw27 W.heap.size (by omega)))
        replace HB6 := Lib.hid (HB6.out.trans (lw27 w6.heap.size (by omega)))
        replace HGK := Lib.hid (And.intro ((kw27 gg (by omega)).trans HGK.out.1) (And.intro ((kw27 lb (by omega)).trans HGK.out.2.1) (Nat.le_trans HGK.out.2.2 (Nat.le_of_eq sw27.symm))))
        clear kw27 lw27
        obtain ⟨cF0, cF1, cF2, cF3, cF4, cF5, cF6, cF7, cF8, cF9, cF10⟩ := XF.out.c11
        obtain ⟨cO0, cO1, cO2, cO3, cO4, cO5, cO6, cO7⟩ := XO.out.c8
        refine hK2.out _ _ (⟨cF0, cF1, cF2, cF3, cF4, cF5, cF6, cF7, cF8, cF9, cF10, cO0, cO1, cO2, cO3, cO4, cO5, cO6, cO7⟩) (fun hHeld2 => ?_)
        clear hK2 K2 hHeld
        have hHeld := hHeld2
        clear hHeld2
        try simp (maxSteps := 4000000) only [Act.put, List.setIfInBounds_toArray, List.set_cons_zero, List.set_cons_succ]
        refine wpAnyH_done (by kernel_rfl) ?_ _
        go_wp2
        go_meet
        refine ⟨_, _, LL, ll, lc, gg, cap, rfl, rfl, Lib.hid ⟨⟨by omega, by omega, by omega, by omega⟩, XO.out, XR.out, XM.out, XS.out, HME.out.below HB6.out, fun w2 h2 => HRE.out w2 ((h2.block gg (by omega)).trans HGK.out.1) ((h2.block lb (by omega)).trans HGK.out.2.1) (by have h9 := HGK.out.2.2; have h8 := h2.size; omega), HB.out⟩⟩
    · obtain ⟨w22, hw22⟩ : ∃ w22, w21.alloc (.cells #[.int .i64 0, .int .i64 0, .slice none 0 0] 39) = w22 := ⟨_, rfl⟩
      have bw22 : Below w21.heap.size w21 w22 := by rw [← hw22]; exact alc0 _ _
      have sw22 : w22.heap.size = w21.heap.size + 1 := by rw [← hw22]; simp
      have XS : Hid (BX (w21.heap.size) #[.int .i64 0, .int .i64 0, .slice none 0 0] w22) := Lib.hid (by rw [← hw22]; exact bx_new _ _ _)
      rw [hw22]
      clear hw22
      replace HB6 := Lib.hid (thn HB6.out bw22)
      replace XV := Lib.hid (XV.out.block (bw22.block (W.heap.size) (by omega)))
      replace XO := Lib.hid (XO.out.block (bw22.block (W.heap.size + 1) (by omega)))
      replace XF := Lib.hid (XF.out.block (bw22.block (w3.heap.size) (by omega)))
      replace XR := Lib.hid (XR.out.block (bw22.block (w6.heap.size) (by omega)))
      replace HB := Lib.hid (thn HB.out bw22)
      clear bw22
      replace sw22 := Nat.le_of_eq sw22.symm
      obtain ⟨cF0, cF1, cF2, cF3, cF4, cF5, cF6, cF7, cF8, cF9, cF10⟩ := XF.out.c11
      obtain ⟨cO0, cO1, cO2, cO3, cO4, cO5, cO6, cO7⟩ := XO.out.c8
      refine hK2.out _ _ (⟨cF0, cF1, cF2, cF3, cF4, cF5, cF6, cF7, cF8, cF9, cF10, cO0, cO1, cO2, cO3, cO4, cO5, cO6, cO7⟩) (fun hHeld2 => ?_)
      clear hK2 K2 hHeld
      have hHeld := hHeld2
      clear hHeld2
      try simp (maxSteps := 4000000) only [Act.put, List.setIfInBounds_toArray, List.set_cons_zero, List.set_cons_succ]
      refine wpAnyH_ready (rs := [1, 8]) (by kernel_rfl) (by simp) ?_
      refine AllReadyH.cons rfl (fun K2 hK2 => ?_) (AllReadyH.cons rfl (fun K2 hK2 => ?_) AllReadyH.nil)
      all_goals go_simp
      · with_reducible refine Calls.mono (rnew2 C k hk.symm _) ?_
        rintro e w23 ⟨rr, rfl, hz, hrr1, hrr2, bw23⟩
        clear cF0 cF1 cF2 cF3 cF4 cF5 cF6 cF7 cF8 cF9 cF10 cO0 cO1 cO2 cO3 cO4 cO5 cO6 cO7
        have sw23 := bw23.size
        replace HB6 := Lib.hid (thn HB6.out bw23)
        replace XV := Lib.hid (XV.out.block (bw23.block (W.heap.size) (by omega)))
        replace XO := Lib.hid (XO.out.block (bw23.block (W.heap.size + 1) (by omega)))
        replace XF := Lib.hid (XF.out.block (bw23.block (w3.heap.size) (by omega)))
        replace XR := Lib.hid (XR.out.block (bw23.block (w6.heap.size) (by omega)))
        replace XS := Lib.hid (XS.out.block (bw23.block (w21.heap.size) (by omega)))
        replace HB := Lib.hid (thn HB.out bw23)
        clear bw23
        have HZ : Hid (RZ rr k w23) := Lib.hid ⟨hz, hrr2⟩
        clear hz
        obtain ⟨cF0, cF1, cF2, cF3, cF4, cF5, cF6, cF7, cF8, cF9, cF10⟩ := XF.out.c11
        obtain ⟨cO0, cO1, cO2, cO3, cO4, cO5, cO6, cO7⟩ := XO.out.c8
        refine hK2.out _ _ (⟨cF0, cF1, cF2, cF3, cF4, cF5, cF6, cF7, cF8, cF9, cF10, cO0, cO1, cO2, cO3, cO4, cO5, cO6, cO7⟩) (fun hHeld2 => ?_)
        clear hK2 K2 hHeld
        have hHeld := hHeld2
        clear hHeld2
        try simp (maxSteps := 4000000) only [Act.put, List.setIfInBounds_toArray, List.set_cons_zero, List.set_cons_succ]
        refine wpAnyH_ready (rs := [4, 8]) (by kernel_rfl) (by simp) ?_
        refine AllReadyH.cons rfl (fun K2 hK2 => ?_) (AllReadyH.cons rfl (fun K2 hK2 => ?_) AllReadyH.nil)
        all_goals go_simp
        · have hrd := rdo_end K t a b v n mm P ln cp full hk64 HOK.out hmax HZ.out (kc := k)
          rw [hE] at hrd
          with_reducible refine Calls.mono hrd ?_
          rintro e w24 ⟨LL, ll, lc, gg, cap, lb, rfl, hre, hg1, hl1, hg2, hl2, bw24⟩
          clear hrd
          clear cF0 cF1 cF2 cF3 cF4 cF5 cF6 cF7 cF8 cF9 cF10 cO0 cO1 cO2 cO3 cO4 cO5 cO6 cO7
          have sw24 := bw24.size
          replace HB6 := Lib.hid (thn HB6.out bw24)
          replace HZ := Lib.hid (HZ.out.below bw24)
          replace XV := Lib.hid (XV.out.block (bw24.block (W.heap.size) (by omega)))
          replace XO := Lib.hid (XO.out.block (bw24.block (W.heap.size + 1) (by omega)))
          replace XF := Lib.hid (XF.out.block (bw24.block (w3.heap.size) (by omega)))
          replace XR := Lib.hid (XR.out.block (bw24.block (w6.heap.size) (by omega)))
          replace XS := Lib.hid (XS.out.block (bw24.block (w21.heap.size) (by omega)))
          replace HB := Lib.hid (thn HB.out bw24)
          clear bw24
          have HRE := Lib.hid hre
          clear hre
          have HGK : Hid (w24.heap[gg]? = w24.heap[gg]? ∧ w24.heap[lb]? = w24.heap[lb]? ∧ w24.heap.size ≤ w24.heap.size) := Lib.hid ⟨rfl, rfl, Nat.le_refl _⟩
          obtain ⟨cF0, cF1, cF2, cF3, cF4, cF5, cF6, cF7, cF8, cF9, cF10⟩ := XF.out.c11
          obtain ⟨cO0, cO1, cO2, cO3, cO4, cO5, cO6, cO7⟩ := XO.out.c8
          refine hK2.out _ _ (⟨cF0, cF1, cF2, cF3, cF4, cF5, cF6, cF7, cF8, cF9, cF10, cO0, cO1, cO2, cO3, cO4, cO5, cO6, cO7⟩) (fun hHeld2 => ?_)
          clear hK2 K2 hHeld
          have hHeld := hHeld2
          clear hHeld2
          try simp (maxSteps := 4000000) only [Act.put, List.setIfInBounds_toArray, List.set_cons_zero, List.set_cons_succ]
          refine wpAnyH_take (i := 5) (v := ?_) rfl (by kernel_rfl) (by kernel_rfl) (by kernel_rfl) (fun _ _ _ h => h) (Or.inl ⟨by kernel_rfl, ?_⟩) (by assumption) ?_
          rotate_left
          · (intro w hSw; (try dsimp only at hSw); go_simp)
            try (with_reducible rfl)
          rotate_left
          try simp (maxSteps := 4000000) only [Act.put, List.setIfInBounds_toArray, List.set_cons_zero, List.set_cons_succ, List.getElem_toArray, List.getElem_cons_zero, List.getElem_cons_succ]
          refine wpAnyH_take (i := 6) (v := ?_) rfl (by kernel_rfl) (by kernel_rfl) (by kernel_rfl) (fun _ _ _ h => h) (Or.inl ⟨by kernel_rfl, ?_⟩) (by assumption) ?_
          rotate_left
          · (intro w hSw; (try dsimp only at hSw); go_simp)
            try (with_reducible rfl)
          rotate_left
          try simp (maxSteps := 4000000) only [Act.put, List.setIfInBounds_toArray, List.set_cons_zero, List.set_cons_succ, List.getElem_toArray, List.getElem_cons_zero, List.getElem_cons_succ]
          refine wpAnyH_take (i := 7) (v := ?_) rfl (by kernel_rfl) (by kernel_rfl) (by kernel_rfl) (fun _ _ _ h => h) (Or.inl ⟨by kernel_rfl, ?_⟩) (by assumption) ?_
          rotate_left
          · (intro w hSw; (try dsimp only at hSw); go_simp)
            try (with_reducible rfl)
          rotate_left
          try simp (maxSteps := 4000000) only [Act.put, List.setIfInBounds_toArray, List.set_cons_zero, List.set_cons_succ, List.getElem_toArray, List.getElem_cons_zero, List.getElem_cons_succ]
          refine wpAnyH_ready (rs := [8]) (by kernel_rfl) (by simp) ?_
          refine AllReadyH.cons rfl (fun K2 hK2 => ?_) AllReadyH.nil
          go_simp
          clear cF0 cF1 cF2 cF3 cF4 cF5 cF6 cF7 cF8 cF9 cF10 cO0 cO1 cO2 cO3 cO4 cO5 cO6 cO7
          obtain ⟨w25, hw25⟩ : ∃ w25, w24.alloc (.cells #[.int .i64 0, .int .i64 0, .int .i64 0, .int .i64 0, .int .i64 0, .int .i64 0, .int .i64 0, .int .i64 0, .int .i64 0, .int .i64 0, .int .u64 0, .slice none 0 0, .slice none 0 0] 34) = w25 := ⟨_, rfl⟩
          have bw25 : Below w24.heap.size w24 w25 := by rw [← hw25]; exact alc0 _ _
          have sw25 : w25.heap.size = w24.heap.size + 1 := by rw [← hw25]; simp
          have XM : Hid (BX (w24.heap.size) #[.int .i64 0, .int .i64 0, .int .i64 0, .int .i64 0, .int .i64 0, .int .i64 0, .int .i64 0, .int .i64 0, .int .i64 0, .int .i64 0, .int .u64 0, .slice none 0 0, .slice none 0 0] w25) := Lib.hid (by rw [← hw25]; exact bx_new _ _ _)
          rw [hw25]
          clear hw25
          replace HB6 := Lib.hid (thn HB6.out bw25)
          replace HZ := Lib.hid (HZ.out.below bw25)
          replace HGK := Lib.hid (And.intro ((bw25.block gg (by omega)).trans HGK.out.1) (And.intro ((bw25.block lb (by omega)).trans HGK.out.2.1) (Nat.le_trans HGK.out.2.2 bw25.size)))
          replace XV := Lib.hid (XV.out.block (bw25.block (W.heap.size) (by omega)))
          replace XO := Lib.hid (XO.out.block (bw25.block (W.heap.size + 1) (by omega)))
          replace XF := Lib.hid (XF.out.block (bw25.block (w3.heap.size) (by omega)))
          replace XR := Lib.hid (XR.out.block (bw25.block (w6.heap.size) (by omega)))
          replace XS := Lib.hid (XS.out.block (bw25.block (w21.heap.size) (by omega)))
          replace HB := Lib.hid (thn HB.out bw25)
          clear bw25
          replace sw25 := Nat.le_of_eq sw25.symm
          obtain ⟨cF0, cF1, cF2, cF3, cF4, cF5, cF6, cF7, cF8, cF9, cF10⟩ := XF.out.c11
          obtain ⟨cO0, cO1, cO2, cO3, cO4, cO5, cO6, cO7⟩ := XO.out.c8
          refine hK2.out _ _ (⟨cF0, cF1, cF2, cF3, cF4, cF5, cF6, cF7, cF8, cF9, cF10, cO0, cO1, cO2, cO3, cO4, cO5, cO6, cO7⟩) (fun hHeld2 => ?_)
          clear hK2 K2 hHeld
          have hHeld := hHeld2
          clear hHeld2
          try simp (maxSteps := 4000000) only [Act.put, List.setIfInBounds_toArray, List.set_cons_zero, List.set_cons_succ]
          obtain ⟨cM0, cM1, cM2, cM3, cM4, cM5, cM6, cM7, cM8, cM9, cM10, cM11, cM12⟩ := XM.out.c13
          obtain ⟨cS0, cS1, cS2⟩ := XS.out.c3
          obtain ⟨fM0, fM1, fM2, fM3, fM4, fM5, fM6, fM7, fM8, fM9, fM10, fM11, fM12⟩ := XM.out.f13
          obtain ⟨fS0, fS1, fS2⟩ := XS.out.f3
          refine wpAnyH_ready (rs := [10]) (by kernel_rfl) (by simp) ?_
          refine AllReadyH.cons rfl (fun K2 hK2 => ?_) AllReadyH.nil
          go_simp
          obtain ⟨w26, hw26⟩ : ∃ w26, w26 = sets13 w25 (w24.heap.size) (.int .i64 C.pg) (.int .i64 C.rg) (.int .i64 C.lg) (.int .i64 C.th) (.int .i64 C.ca) (.int .i64 C.ba) (.int .i64 C.sh) (.int .i64 C.re) (.int .i64 C.mo) (.int .i64 C.fi) (.int .u64 C.ky) (.slice LL ll lc) (.slice (some ⟨gg, 0, none⟩) k cap) := ⟨_, rfl⟩
          obtain ⟨sw26, kw26, lw26, XMn⟩ := XM.out.put13s rfl hw26
          unfold sets13 at hw26
          rw [← hw26]
          clear hw26
          clear cF0 cF1 cF2 cF3 cF4 cF5 cF6 cF7 cF8 cF9 cF10 cO0 cO1 cO2 cO3 cO4 cO5 cO6 cO7 cM0 cM1 cM2 cM3 cM4 cM5 cM6 cM7 cM8 cM9 cM10 cM11 cM12 cS0 cS1 cS2 fM0 fM1 fM2 fM3 fM4 fM5 fM6 fM7 fM8 fM9 fM10 fM11 fM12 fS0 fS1 fS2
          replace XM := Lib.hid XMn
          clear XMn
          replace XV := Lib.hid (XV.out.block (kw26 (W.heap.size) (by omega)))
          replace XO := Lib.hid (XO.out.block (kw26 (W.heap.size + 1) (by omega)))
          replace XF := Lib.hid (XF.out.block (kw26 (w3.heap.size) (by omega)))
          replace XR := Lib.hid (XR.out.block (kw26 (w6.heap.size) (by omega)))
          replace XS := Lib.hid (XS.out.block (kw26 (w21.heap.size) (by omega)))
          replace HB := Lib.hid (HB.out.trans (lw26 W.heap.size (by omega)))
          replace HB6 := Lib.hid (HB6.out.trans (lw26 w6.heap.size (by omega)))
          replace HGK := Lib.hid (And.intro ((kw26 gg (by omega)).trans HGK.out.1) (And.intro ((kw26 lb (by omega)).trans HGK.out.2.1) (Nat.le_trans HGK.out.2.2 (Nat.le_of_eq sw26.symm))))
          clear kw26 lw26
          obtain ⟨cF0, cF1, cF2, cF3, cF4, cF5, cF6, cF7, cF8, cF9, cF10⟩ := XF.out.c11
          obtain ⟨cO0, cO1, cO2, cO3, cO4, cO5, cO6, cO7⟩ := XO.out.c8
          obtain ⟨cS0, cS1, cS2⟩ := XS.out.c3
          obtain ⟨fS0, fS1, fS2⟩ := XS.out.f3
          refine hK2.out _ _ (⟨cF0, cF1, cF2, cF3, cF4, cF5, cF6, cF7, cF8, cF9, cF10, cO0, cO1, cO2, cO3, cO4, cO5, cO6, cO7⟩) (fun hHeld2 => ?_)
          clear hK2 K2 hHeld
          have hHeld := hHeld2
          clear hHeld2
          try simp (maxSteps := 4000000) only [Act.put, List.setIfInBounds_toArray, List.set_cons_zero, List.set_cons_succ]
          refine wpAnyH_ready (rs := [11]) (by kernel_rfl) (by simp) ?_
          refine AllReadyH.cons rfl (fun K2 hK2 => ?_) AllReadyH.nil
          go_simp
          obtain ⟨w27, hw27⟩ : ∃ w27, w27 = sets3 w26 (w21.heap.size) (.int .i64 E) (.int .i64 0) (.slice none 0 0) := ⟨_, rfl⟩
          obtain ⟨sw27, kw27, lw27, XSn⟩ := XS.out.put3s rfl hw27
          unfold sets3 at hw27
          rw [← hw27]
          clear hw27
          clear cF0 cF1 cF2 cF3 cF4 cF5 cF6 cF7 cF8 cF9 cF10 cO0 cO1 cO2 cO3 cO4 cO5 cO6 cO7 cS0 cS1 cS2 fS0 fS1 fS2
          replace XS := Lib.hid XSn
          clear XSn
          replace XV := Lib.hid (XV.out.block (kw27 (W.heap.size) (by omega)))
          replace XO := Lib.hid (XO.out.block (kw27 (W.heap.size + 1) (by omega)))
          replace XF := Lib.hid (XF.out.block (kw27 (w3.heap.size) (by omega)))
          replace XR := Lib.hid (XR.out.block (kw27 (w6.heap.size) (by omega)))
          replace XM := Lib.hid (XM.out.block (kw27 (w24.heap.size) (by omega)))
          replace HB := Lib.hid (HB.out.trans (lw27 W.heap.size (by omega)))
          replace HB6 := Lib.hid (HB6.out.trans (lw27 w6.heap.size (by omega)))
          replace HGK := Lib.hid (And.intro ((kw27 gg (by omega)).trans HGK.out.1) (And.intro ((kw27 lb (by omega)).trans HGK.out.2.1) (Nat.le_trans HGK.out.2.2 (Nat.le_of_eq sw27.symm))))
          clear kw27 lw27
          obtain ⟨cF0, cF1, cF2, cF3, cF4, cF5, cF6, cF7, cF8, cF9, cF10⟩ := XF.out.c11
          obtain ⟨cO0, cO1, cO2, cO3, cO4, cO5, cO6, cO7⟩ := XO.out.c8
          refine hK2.out _ _ (⟨cF0, cF1, cF2, cF3, cF4, cF5, cF6, cF7, cF8, cF9, cF10, cO0, cO1, cO2, cO3, cO4, cO5, cO6, cO7⟩) (fun hHeld2 => ?_)
          clear hK2 K2 hHeld
          have hHeld := hHeld2
          clear hHeld2
          try simp (maxSteps := 4000000) only [Act.put, List.setIfInBounds_toArray, List.set_cons_zero, List.set_cons_succ]
          refine wpAnyH_done (by kernel_rfl) ?_ _
          go_wp2
          go_meet
          refine ⟨_, _, LL, ll, lc, gg, cap, rfl, rfl, Lib.hid ⟨⟨by omega, by omega, by omega, by omega⟩, XO.out, XR.out, XM.out, XS.out, HME.out.below HB6.out, fun w2 h2 => HRE.out w2 ((h2.block gg (by omega)).trans HGK.out.1) ((h2.block lb (by omega)).trans HGK.out.2.1) (by have h9 := HGK.out.2.2; have h8 := h2.size; omega), HB.out⟩⟩
        · clear cF0 cF1 cF2 cF3 cF4 cF5 cF6 cF7 cF8 cF9 cF10 cO0 cO1 cO2 cO3 cO4 cO5 cO6 cO7
          obtain ⟨w24, hw24⟩ : ∃ w24, w23.alloc (.cells #[.int .i64 0, .int .i64 0, .int .i64 0, .int .i64 0, .int .i64 0, .int .i64 0, .int .i64 0, .int .i64 0, .int .i64 0, .int .i64 0, .int .u64 0, .slice none 0 0, .slice none 0 0] 34) = w24 := ⟨_, rfl⟩
          have bw24 : Below w23.heap.size w23 w24 := by rw [← hw24]; exact alc0 _ _
          have sw24 : w24.heap.size = w23.heap.size + 1 := by rw [← hw24]; simp
          have XM : Hid (BX (w23.heap.size) #[.int .i64 0, .int .i64 0, .int .i64 0, .int .i64 0, .int .i64 0, .int .i64 0, .int .i64 0, .int .i64 0, .int .i64 0, .int .i64 0, .int .u64 0, .slice none 0 0, .slice none 0 0] w24) := Lib.hid (by rw [← hw24]; exact bx_new _ _ _)
          rw [hw24]
          clear hw24
          replace HB6 := Lib.hid (thn HB6.out bw24)
          replace HZ := Lib.hid (HZ.out.below bw24)
          replace XV := Lib.hid (XV.out.block (bw24.block (W.heap.size) (by omega)))
          replace XO := Lib.hid (XO.out.block (bw24.block (W.heap.size + 1) (by omega)))
          replace XF := Lib.hid (XF.out.block (bw24.block (w3.heap.size) (by omega)))
          replace XR := Lib.hid (XR.out.block (bw24.block (w6.heap.size) (by omega)))
          replace XS := Lib.hid (XS.out.block (bw24.block (w21.heap.size) (by omega)))
          replace HB := Lib.hid (thn HB.out bw24)
          clear bw24
          replace sw24 := Nat.le_of_eq sw24.symm
          obtain ⟨cF0, cF1, cF2, cF3, cF4, cF5, cF6, cF7, cF8, cF9, cF10⟩ := XF.out.c11
          obtain ⟨cO0, cO1, cO2, cO3, cO4, cO5, cO6, cO7⟩ := XO.out.c8
          refine hK2.out _ _ (⟨cF0, cF1, cF2, cF3, cF4, cF5, cF6, cF7, cF8, cF9, cF10, cO0, cO1, cO2, cO3, cO4, cO5, cO6, cO7⟩) (fun hHeld2 => ?_)
          clear hK2 K2 hHeld
          have hHeld := hHeld2
          clear hHeld2
          try simp (maxSteps := 4000000) only [Act.put, List.setIfInBounds_toArray, List.set_cons_zero, List.set_cons_succ]
          refine wpAnyH_ready (rs := [4]) (by kernel_rfl) (by simp) ?_
          refine AllReadyH.cons rfl (fun K2 hK2 => ?_) AllReadyH.nil
          go_simp
          have hrd := rdo_end K t a b v n mm P ln cp full hk64 HOK.out hmax HZ.out (kc := k)
          rw [hE] at hrd
          with_reducible refine Calls.mono hrd ?_
          rintro e w25 ⟨LL, ll, lc, gg, cap, lb, rfl, hre, hg1, hl1, hg2, hl2, bw25⟩
          clear hrd
          clear cF0 cF1 cF2 cF3 cF4 cF5 cF6 cF7 cF8 cF9 cF10 cO0 cO1 cO2 cO3 cO4 cO5 cO6 cO7
          have sw25 := bw25.size
          replace HB6 := Lib.hid (thn HB6.out bw25)
          replace HZ := Lib.hid (HZ.out.below bw25)
          replace XV := Lib.hid (XV.out.block (bw25.block (W.heap.size) (by omega)))
          replace XO := Lib.hid (XO.out.block (bw25.block (W.heap.size + 1) (by omega)))
          replace XF := Lib.hid (XF.out.block (bw25.block (w3.heap.size) (by omega)))
          replace XR := Lib.hid (XR.out.block (bw25.block (w6.heap.size) (by omega)))
          replace XS := Lib.hid (XS.out.block (bw25.block (w21.heap.size) (by omega)))
          replace XM := Lib.hid (XM.out.block (bw25.block (w23.heap.size) (by omega)))
          replace HB := Lib.hid (thn HB.out bw25)
          clear bw25
          have HRE := Lib.hid hre
          clear hre
          have HGK : Hid (w25.heap[gg]? = w25.heap[gg]? ∧ w25.heap[lb]? = w25.heap[lb]? ∧ w25.heap.size ≤ w25.heap.size) := Lib.hid ⟨rfl, rfl, Nat.le_refl _⟩
          obtain ⟨cF0, cF1, cF2, cF3, cF4, cF5, cF6, cF7, cF8, cF9, cF10⟩ := XF.out.c11
          obtain ⟨cO0, cO1, cO2, cO3, cO4, cO5, cO6, cO7⟩ := XO.out.c8
          refine hK2.out _ _ (⟨cF0, cF1, cF2, cF3, cF4, cF5, cF6, cF7, cF8, cF9, cF10, cO0, cO1, cO2, cO3, cO4, cO5, cO6, cO7⟩) (fun hHeld2 => ?_)
          clear hK2 K2 hHeld
          have hHeld := hHeld2
          clear hHeld2
          try simp (maxSteps := 4000000) only [Act.put, List.setIfInBounds_toArray, List.set_cons_zero, List.set_cons_succ]
          obtain ⟨cM0, cM1, cM2, cM3, cM4, cM5, cM6, cM7, cM8, cM9, cM10, cM11, cM12⟩ := XM.out.c13
          obtain ⟨cS0, cS1, cS2⟩ := XS.out.c3
          obtain ⟨fM0, fM1, fM2, fM3, fM4, fM5, fM6, fM7, fM8, fM9, fM10, fM11, fM12⟩ := XM.out.f13
          obtain ⟨fS0, fS1, fS2⟩ := XS.out.f3
          refine wpAnyH_take (i := 5) (v := ?_) rfl (by kernel_rfl) (by kernel_rfl) (by kernel_rfl) (fun _ _ _ h => h) (Or.inl ⟨by kernel_rfl, ?_⟩) (by assumption) ?_
          rotate_left
          · (intro w hSw; (try dsimp only at hSw); go_simp)
            try (with_reducible rfl)
          rotate_left
          try simp (maxSteps := 4000000) only [Act.put, List.setIfInBounds_toArray, List.set_cons_zero, List.set_cons_succ, List.getElem_toArray, List.getElem_cons_zero, List.getElem_cons_succ]
          refine wpAnyH_take (i := 6) (v := ?_) rfl (by kernel_rfl) (by kernel_rfl) (by kernel_rfl) (fun _ _ _ h => h) (Or.inl ⟨by kernel_rfl, ?_⟩) (by assumption) ?_
          rotate_left
          · (intro w hSw; (try dsimp only at hSw); go_simp)
            try (with_reducible rfl)
          rotate_left
          try simp (maxSteps := 4000000) only [Act.put, List.setIfInBounds_toArray, List.set_cons_zero, List.set_cons_succ, List.getElem_toArray, List.getElem_cons_zero, List.getElem_cons_succ]
          refine wpAnyH_take (i := 7) (v := ?_) rfl (by kernel_rfl) (by kernel_rfl) (by kernel_rfl) (fun _ _ _ h => h) (Or.inl ⟨by kernel_rfl, ?_⟩) (by assumption) ?_
          rotate_left
          · (intro w hSw; (try dsimp only at hSw); go_simp)
            try (with_reducible rfl)
          rotate_left
          try simp (maxSteps := 4000000) only [Act.put, List.setIfInBounds_toArray, List.set_cons_zero, List.set_cons_succ, List.getElem_toArray, List.getElem_cons_zero, List.getElem_cons_succ]
          refine wpAnyH_ready (rs := [10]) (by kernel_rfl) (by simp) ?_
          refine AllReadyH.cons rfl (fun K2 hK2 => ?_) AllReadyH.nil
          go_simp
          obtain ⟨w26, hw26⟩ : ∃ w26, w26 = sets13 w25 (w23.heap.size) (.int .i64 C.pg) (.int .i64 C.rg) (.int .i64 C.lg) (.int .i64 C.th) (.int .i64 C.ca) (.int .i64 C.ba) (.int .i64 C.sh) (.int .i64 C.re) (.int .i64 C.mo) (.int .i64 C.fi) (.int .u64 C.ky) (.slice LL ll lc) (.slice (some ⟨gg, 0, none⟩) k cap) := ⟨_, rfl⟩
          obtain ⟨sw26, kw26, lw26, XMn⟩ := XM.out.put13s rfl hw26
          unfold sets13 at hw26
          rw [← hw26]
          clear hw26
          clear cF0 cF1 cF2 cF3 cF4 cF5 cF6 cF7 cF8 cF9 cF10 cO0 cO1 cO2 cO3 cO4 cO5 cO6 cO7 cM0 cM1 cM2 cM3 cM4 cM5 cM6 cM7 cM8 cM9 cM10 cM11 cM12 cS0 cS1 cS2 fM0 fM1 fM2 fM3 fM4 fM5 fM6 fM7 fM8 fM9 fM10 fM11 fM12 fS0 fS1 fS2
          replace XM := Lib.hid XMn
          clear XMn
          replace XV := Lib.hid (XV.out.block (kw26 (W.heap.size) (by omega)))
          replace XO := Lib.hid (XO.out.block (kw26 (W.heap.size + 1) (by omega)))
          replace XF := Lib.hid (XF.out.block (kw26 (w3.heap.size) (by omega)))
          replace XR := Lib.hid (XR.out.block (kw26 (w6.heap.size) (by omega)))
          replace XS := Lib.hid (XS.out.block (kw26 (w21.heap.size) (by omega)))
          replace HB := Lib.hid (HB.out.trans (lw26 W.heap.size (by omega)))
          replace HB6 := Lib.hid (HB6.out.trans (lw26 w6.heap.size (by omega)))
          replace HGK := Lib.hid (And.intro ((kw26 gg (by omega)).trans HGK.out.1) (And.intro ((kw26 lb (by omega)).trans HGK.out.2.1) (Nat.le_trans HGK.out.2.2 (Nat.le_of_eq sw26.symm))))
          clear kw26 lw26
          obtain ⟨cF0, cF1, cF2, cF3, cF4, cF5, cF6, cF7, cF8, cF9, cF10⟩ := XF.out.c11
          obtain ⟨cO0, cO1, cO2, cO3, cO4, cO5, cO6, cO7⟩ := XO.out.c8
          obtain ⟨cS0, cS1, cS2⟩ := XS.out.c3
          obtain ⟨fS0, fS1, fS2⟩ := XS.out.f3
          refine hK2.out _ _ (⟨cF0, cF1, cF2, cF3, cF4, cF5, cF6, cF7, cF8, cF9, cF10, cO0, cO1, cO2, cO3, cO4, cO5, cO6, cO7⟩) (fun hHeld2 => ?_)
          clear hK2 K2 hHeld
          have hHeld := hHeld2
          clear hHeld2
          try simp (maxSteps := 4000000) only [Act.put, List.setIfInBounds_toArray, List.set_cons_zero, List.set_cons_succ]
          refine wpAnyH_ready (rs := [11]) (by kernel_rfl) (by simp) ?_
          refine AllReadyH.cons rfl (fun K2 hK2 => ?_) AllReadyH.nil
          go_simp
          obtain ⟨w27, hw27⟩ : ∃ w27, w27 = sets3 w26 (w21.heap.size) (.int .i64 E) (.int .i64 0) (.slice none 0 0) := ⟨_, rfl⟩
          obtain ⟨sw27, kw27, lw27, XSn⟩ := XS.out.put3s rfl hw27
          unfold sets3 at hw27
          rw [← hw27]
          clear hw27
          clear cF0 cF1 cF2 cF3 cF4 cF5 cF6 cF7 cF8 cF9 cF10 cO0 cO1 cO2 cO3 cO4 cO5 cO6 cO7 cS0 cS1 cS2 fS0 fS1 fS2
          replace XS := Lib.hid XSn
          clear XSn
          replace XV := Lib.hid (XV.out.block (kw27 (W.heap.size) (by omega)))
          replace XO := Lib.hid (XO.out.block (kw27 (W.heap.size + 1) (by omega)))
          replace XF := Lib.hid (XF.out.block (kw27 (w3.heap.size) (by omega)))
          replace XR := Lib.hid (XR.out.block (kw27 (w6.heap.size) (by omega)))
          replace XM := Lib.hid (XM.out.block (kw27 (w23.heap.size) (by omega)))
          replace HB := Lib.hid (HB.out.trans (lw27 W.heap.size (by omega)))
          replace HB6 := Lib.hid (HB6.out.trans (lw27 w6.heap.size (by omega)))
          replace HGK := Lib.hid (And.intro ((kw27 gg (by omega)).trans HGK.out.1) (And.intro ((kw27 lb (by omega)).trans HGK.out.2.1) (Nat.le_trans HGK.out.2.2 (Nat.le_of_eq sw27.symm))))
          clear kw27 lw27
          obtain ⟨cF0, cF1, cF2, cF3, cF4, cF5, cF6, cF7, cF8, cF9, cF10⟩ := XF.out.c11
          obtain ⟨cO0, cO1, cO2, cO3, cO4, cO5, cO6, cO7⟩ := XO.out.c8
          refine hK2.out _ _ (⟨cF0, cF1, cF2, cF3, cF4, cF5, cF6, cF7, cF8, cF9, cF10, cO0, cO1, cO2, cO3, cO4, cO5, cO6, cO7⟩) (fun hHeld2 => ?_)
          clear hK2 K2 hHeld
          have hHeld := hHeld2
          clear hHeld2
          try simp (maxSteps := 4000000) only [Act.put, List.setIfInBounds_toArray, List.set_cons_zero, List.set_cons_succ]
          refine wpAnyH_done (by kernel_rfl) ?_ _
          go_wp2
          go_meet
          refine ⟨_, _, LL, ll, lc, gg, cap, rfl, rfl, Lib.hid ⟨⟨by omega, by omega, by omega, by omega⟩, XO.out, XR.out, XM.out, XS.out, HME.out.below HB6.out, fun w2 h2 => HRE.out w2 ((h2.block gg (by omega)).trans HGK.out.1) ((h2.block lb (by omega)).trans HGK.out.2.1) (by have h9 := HGK.out.2.2; have h8 := h2.size; omega), HB.out⟩⟩
      · clear cF0 cF1 cF2 cF3 cF4 cF5 cF6 cF7 cF8 cF9 cF10 cO0 cO1 cO2 cO3 cO4 cO5 cO6 cO7
        obtain ⟨w23, hw23⟩ : ∃ w23, w22.alloc (.cells #[.int .i64 0, .int .i64 0, .int .i64 0, .int .i64 0, .int .i64 0, .int .i64 0, .int .i64 0, .int .i64 0, .int .i64 0, .int .i64 0, .int .u64 0, .slice none 0 0, .slice none 0 0] 34) = w23 := ⟨_, rfl⟩
        have bw23 : Below w22.heap.size w22 w23 := by rw [← hw23]; exact alc0 _ _
        have sw23 : w23.heap.size = w22.heap.size + 1 := by rw [← hw23]; simp
        have XM : Hid (BX (w22.heap.size) #[.int .i64 0, .int .i64 0, .int .i64 0, .int .i64 0, .int .i64 0, .int .i64 0, .int .i64 0, .int .i64 0, .int .i64 0, .int .i64 0, .int .u64 0, .slice none 0 0, .slice none 0 0] w23) := Lib.hid (by rw [← hw23]; exact bx_new _ _ _)
        rw [hw23]
        clear hw23
        replace HB6 := Lib.hid (thn HB6.out bw23)
        replace XV := Lib.hid (XV.out.block (bw23.block (W.heap.size) (by omega)))
        replace XO := Lib.hid (XO.out.block (bw23.block (W.heap.size + 1) (by omega)))
        replace XF := Lib.hid (XF.out.block (bw23.block (w3.heap.size) (by omega)))
        replace XR := Lib.hid (XR.out.block (bw23.block (w6.heap.size) (by omega)))
        replace XS := Lib.hid (XS.out.block (bw23.block (w21.heap.size) (by omega)))
        replace HB := Lib.hid (thn HB.out bw23)
        clear bw23
        replace sw23 := Nat.le_of_eq sw23.symm
        obtain ⟨cF0, cF1, cF2, cF3, cF4, cF5, cF6, cF7, cF8, cF9, cF10⟩ := XF.out.c11
        obtain ⟨cO0, cO1, cO2, cO3, cO4, cO5, cO6, cO7⟩ := XO.out.c8
        refine hK2.out _ _ (⟨cF0, cF1, cF2, cF3, cF4, cF5, cF6, cF7, cF8, cF9, cF10, cO0, cO1, cO2, cO3, cO4, cO5, cO6, cO7⟩) (fun hHeld2 => ?_)
        clear hK2 K2 hHeld
        have hHeld := hHeld2
        clear hHeld2
        try simp (maxSteps := 4000000) only [Act.put, List.setIfInBounds_toArray, List.set_cons_zero, List.set_cons_succ]
        refine wpAnyH_ready (rs := [1]) (by kernel_rfl) (by simp) ?_
        refine AllReadyH.cons rfl (fun K2 hK2 => ?_) AllReadyH.nil
        go_simp
        with_reducible refine Calls.mono (rnew2 C k hk.symm _) ?_
        rintro e w24 ⟨rr, rfl, hz, hrr1, hrr2, bw24⟩
        clear cF0 cF1 cF2 cF3 cF4 cF5 cF6 cF7 cF8 cF9 cF10 cO0 cO1 cO2 cO3 cO4 cO5 cO6 cO7
        have sw24 := bw24.size
        replace HB6 := Lib.hid (thn HB6.out bw24)
        replace XV := Lib.hid (XV.out.block (bw24.block (W.heap.size) (by omega)))
        replace XO := Lib.hid (XO.out.block (bw24.block (W.heap.size + 1) (by omega)))
        replace XF := Lib.hid (XF.out.block (bw24.block (w3.heap.size) (by omega)))
        replace XR := Lib.hid (XR.out.block (bw24.block (w6.heap.size) (by omega)))
        replace XS := Lib.hid (XS.out.block (bw24.block (w21.heap.size) (by omega)))
        replace XM := Lib.hid (XM.out.block (bw24.block (w22.heap.size) (by omega)))
        replace HB := Lib.hid (thn HB.out bw24)
        clear bw24
        have HZ : Hid (RZ rr k w24) := Lib.hid ⟨hz, hrr2⟩
        clear hz
        obtain ⟨cF0, cF1, cF2, cF3, cF4, cF5, cF6, cF7, cF8, cF9, cF10⟩ := XF.out.c11
        obtain ⟨cO0, cO1, cO2, cO3, cO4, cO5, cO6, cO7⟩ := XO.out.c8
        refine hK2.out _ _ (⟨cF0, cF1, cF2, cF3, cF4, cF5, cF6, cF7, cF8, cF9, cF10, cO0, cO1, cO2, cO3, cO4, cO5, cO6, cO7⟩) (fun hHeld2 => ?_)
        clear hK2 K2 hHeld
        have hHeld := hHeld2
        clear hHeld2
        try simp (maxSteps := 4000000) only [Act.put, List.setIfInBounds_toArray, List.set_cons_zero, List.set_cons_succ]
        refine wpAnyH_ready (rs := [4]) (by kernel_rfl) (by simp) ?_
        refine AllReadyH.cons rfl (fun K2 hK2 => ?_) AllReadyH.nil
        go_simp
        have hrd := rdo_end K t a b v n mm P ln cp full hk64 HOK.out hmax HZ.out (kc := k)
        rw [hE] at hrd
        with_reducible refine Calls.mono hrd ?_
        rintro e w25 ⟨LL, ll, lc, gg, cap, lb, rfl, hre, hg1, hl1, hg2, hl2, bw25⟩
        clear hrd
        clear cF0 cF1 cF2 cF3 cF4 cF5 cF6 cF7 cF8 cF9 cF10 cO0 cO1 cO2 cO3 cO4 cO5 cO6 cO7
        have sw25 := bw25.size
        replace HB6 := Lib.hid (thn HB6.out bw25)
        replace HZ := Lib.hid (HZ.out.below bw25)
        replace XV := Lib.hid (XV.out.block (bw25.block (W.heap.size) (by omega)))
        replace XO := Lib.hid (XO.out.block (bw25.block (W.heap.size + 1) (by omega)))
        replace XF := Lib.hid (XF.out.block (bw25.block (w3.heap.size) (by omega)))
        replace XR := Lib.hid (XR.out.block (bw25.block (w6.heap.size) (by omega)))
        replace XS := Lib.hid (XS.out.block (bw25.block (w21.heap.size) (by omega)))
        replace XM := Lib.hid (XM.out.block (bw25.block (w22.heap.size) (by omega)))
        replace HB := Lib.hid (thn HB.out bw25)
        clear bw25
        have HRE := Lib.hid hre
        clear hre
        have HGK : Hid (w25.heap[gg]? = w25.heap[gg]? ∧ w25.heap[lb]? = w25.heap[lb]? ∧ w25.heap.size ≤ w25.heap.size) := Lib.hid ⟨rfl, rfl, Nat.le_refl _⟩
        obtain ⟨cF0, cF1, cF2, cF3, cF4, cF5, cF6, cF7, cF8, cF9, cF10⟩ := XF.out.c11
        obtain ⟨cO0, cO1, cO2, cO3, cO4, cO5, cO6, cO7⟩ := XO.out.c8
        refine hK2.out _ _ (⟨cF0, cF1, cF2, cF3, cF4, cF5, cF6, cF7, cF8, cF9, cF10, cO0, cO1, cO2, cO3, cO4, cO5, cO6, cO7⟩) (fun hHeld2 => ?_)
        clear hK2 K2 hHeld
        have hHeld := hHeld2
        clear hHeld2
        try simp (maxSteps := 4000000) only [Act.put, List.setIfInBounds_toArray, List.set_cons_zero, List.set_cons_succ]
        obtain ⟨cM0, cM1, cM2, cM3, cM4, cM5, cM6, cM7, cM8, cM9, cM10, cM11, cM12⟩ := XM.out.c13
        obtain ⟨cS0, cS1, cS2⟩ := XS.out.c3
        obtain ⟨fM0, fM1, fM2, fM3, fM4, fM5, fM6, fM7, fM8, fM9, fM10, fM11, fM12⟩ := XM.out.f13
        obtain ⟨fS0, fS1, fS2⟩ := XS.out.f3
        refine wpAnyH_take (i := 5) (v := ?_) rfl (by kernel_rfl) (by kernel_rfl) (by kernel_rfl) (fun _ _ _ h => h) (Or.inl ⟨by kernel_rfl, ?_⟩) (by assumption) ?_
        rotate_left
        · (intro w hSw; (try dsimp only at hSw); go_simp)
          try (with_reducible rfl)
        rotate_left
        try simp (maxSteps := 4000000) only [Act.put, List.setIfInBounds_toArray, List.set_cons_zero, List.set_cons_succ, List.getElem_toArray, List.getElem_cons_zero, List.getElem_cons_succ]
        refine wpAnyH_take (i := 6) (v := ?_) rfl (by kernel_rfl) (by kernel_rfl) (by kernel_rfl) (fun _ _ _ h => h) (Or.inl ⟨by kernel_rfl, ?_⟩) (by assumption) ?_
        rotate_left
        · (intro w hSw; (try dsimp only at hSw); go_simp)
          try (with_reducible rfl)
        rotate_left
        try simp (maxSteps := 4000000) only [Act.put, List.setIfInBounds_toArray, List.set_cons_zero, List.set_cons_succ, List.getElem_toArray, List.getElem_cons_zero, List.getElem_cons_succ]
        refine wpAnyH_take (i := 7) (v := ?_) rfl (by kernel_rfl) (by kernel_rfl) (by kernel_rfl) (fun _ _ _ h => h) (Or.inl ⟨by kernel_rfl, ?_⟩) (by assumption) ?_
        rotate_left
        · (intro w hSw; (try dsimp only at hSw); go_simp)
          try (with_reducible rfl)
        rotate_left
        try simp (maxSteps := 4000000) only [Act.put, List.setIfInBounds_toArray, List.set_cons_zero, List.set_cons_succ, List.getElem_toArray, List.getElem_cons_zero, List.getElem_cons_succ]
        refine wpAnyH_ready (rs := [10]) (by kernel_rfl) (by simp) ?_
        refine AllReadyH.cons rfl (fun K2 hK2 => ?_) AllReadyH.nil
        go_simp
        obtain ⟨w26, hw26⟩ : ∃ w26, w26 = sets13 w25 (w22.heap.size) (.int .i64 C.pg) (.int .i64 C.rg) (.int .i64 C.lg) (.int .i64 C.th) (.int .i64 C.ca) (.int .i64 C.ba) (.int .i64 C.sh) (.int .i64 C.re) (.int .i64 C.mo) (.int .i64 C.fi) (.int .u64 C.ky) (.slice LL ll lc) (.slice (some ⟨gg, 0, none⟩) k cap) := ⟨_, rfl⟩
        obtain ⟨sw26, kw26, lw26, XMn⟩ := XM.out.put13s rfl hw26
        unfold sets13 at hw26
        rw [← hw26]
        clear hw26
        clear cF0 cF1 cF2 cF3 cF4 cF5 cF6 cF7 cF8 cF9 cF10 cO0 cO1 cO2 cO3 cO4 cO5 cO6 cO7 cM0 cM1 cM2 cM3 cM4 cM5 cM6 cM7 cM8 cM9 cM10 cM11 cM12 cS0 cS1 cS2 fM0 fM1 fM2 fM3 fM4 fM5 fM6 fM7 fM8 fM9 fM10 fM11 fM12 fS0 fS1 fS2
        replace XM := Lib.hid XMn
        clear XMn
        replace XV := Lib.hid (XV.out.block (kw26 (W.heap.size) (by omega)))
        replace XO := Lib.hid (XO.out.block (kw26 (W.heap.size + 1) (by omega)))
        replace XF := Lib.hid (XF.out.block (kw26 (w3.heap.size) (by omega)))
        replace XR := Lib.hid (XR.out.block (kw26 (w6.heap.size) (by omega)))
        replace XS := Lib.hid (XS.out.block (kw26 (w21.heap.size) (by omega)))
        replace HB := Lib.hid (HB.out.trans (lw26 W.heap.size (by omega)))
        replace HB6 := Lib.hid (HB6.out.trans (lw26 w6.heap.size (by omega)))
        replace HGK := Lib.hid (And.intro ((kw26 gg (by omega)).trans HGK.out.1) (And.intro ((kw26 lb (by omega)).trans HGK.out.2.1) (Nat.le_trans HGK.out.2.2 (Nat.le_of_eq sw26.symm))))
        clear kw26 lw26
        obtain ⟨cF0, cF1, cF2, cF3, cF4, cF5, cF6, cF7, cF8, cF9, cF10⟩ := XF.out.c11
        obtain ⟨cO0, cO1, cO2, cO3, cO4, cO5, cO6, cO7⟩ := XO.out.c8
        obtain ⟨cS0, cS1, cS2⟩ := XS.out.c3
        obtain ⟨fS0, fS1, fS2⟩ := XS.out.f3
        refine hK2.out _ _ (⟨cF0, cF1, cF2, cF3, cF4, cF5, cF6, cF7, cF8, cF9, cF10, cO0, cO1, cO2, cO3, cO4, cO5, cO6, cO7⟩) (fun hHeld2 => ?_)
        clear hK2 K2 hHeld
        have hHeld := hHeld2
        clear hHeld2
        try simp (maxSteps := 4000000) only [Act.put, List.setIfInBounds_toArray, List.set_cons_zero, List.set_cons_succ]
        refine wpAnyH_ready (rs := [11]) (by kernel_rfl) (by simp) ?_
        refine AllReadyH.cons rfl (fun K2 hK2 => ?_) AllReadyH.nil
        go_simp
        obtain ⟨w27, hw27⟩ : ∃ w27, w27 = sets3 w26 (w21.heap.size) (.int .i64 E) (.int .i64 0) (.slice none 0 0) := ⟨_, rfl⟩
        obtain ⟨sw27, kw27, lw27, XSn⟩ := XS.out.put3s rfl hw27
        unfold sets3 at hw27
        rw [← hw27]
        clear hw27
        clear cF0 cF1 cF2 cF3 cF4 cF5 cF6 cF7 cF8 cF9 cF10 cO0 cO1 cO2 cO3 cO4 cO5 cO6 cO7 cS0 cS1 cS2 fS0 fS1 fS2
        replace XS := Lib.hid XSn
        clear XSn
        replace XV := Lib.hid (XV.out.block (kw27 (W.heap.size) (by omega)))
        replace XO := Lib.hid (XO.out.block (kw27 (W.heap.size + 1) (by omega)))
        replace XF := Lib.hid (XF.out.block (kw27 (w3.heap.size) (by omega)))
        replace XR := Lib.hid (XR.out.block (kw27 (w6.heap.size) (by omega)))
        replace XM := Lib.hid (XM.out.block (kw27 (w22.heap.size) (by omega)))
        replace HB := Lib.hid (HB.out.trans (lw27 W.heap.size (by omega)))
        replace HB6 := Lib.hid (HB6.out.trans (lw27 w6.heap.size (by omega)))
        replace HGK := Lib.hid (And.intro ((kw27 gg (by omega)).trans HGK.out.1) (And.intro ((kw27 lb (by omega)).trans HGK.out.2.1) (Nat.le_trans HGK.out.2.2 (Nat.le_of_eq sw27.symm))))
        clear kw27 lw27
        obtain ⟨cF0, cF1, cF2, cF3, cF4, cF5, cF6, cF7, cF8, cF9, cF10⟩ := XF.out.c11
        obtain ⟨cO0, cO1, cO2, cO3, cO4, cO5, cO6, cO7⟩ := XO.out.c8
        refine hK2.out _ _ (⟨cF0, cF1, cF2, cF3, cF4, cF5, cF6, cF7, cF8, cF9, cF10, cO0, cO1, cO2, cO3, cO4, cO5, cO6, cO7⟩) (fun hHeld2 => ?_)
        clear hK2 K2 hHeld
        have hHeld := hHeld2
        clear hHeld2
        try simp (maxSteps := 4000000) only [Act.put, List.setIfInBounds_toArray, List.set_cons_zero, List.set_cons_succ]
        refine wpAnyH_done (by kernel_rfl) ?_ _
        go_wp2
        go_meet
        refine ⟨_, _, LL, ll, lc, gg, cap, rfl, rfl, Lib.hid ⟨⟨by omega, by omega, by omega, by omega⟩, XO.out, XR.out, XM.out, XS.out, HME.out.below HB6.out, fun w2 h2 => HRE.out w2 ((h2.block gg (by omega)).trans HGK.out.1) ((h2.block lb (by omega)).trans HGK.out.2.1) (by have h9 := HGK.out.2.2; have h8 := h2.size; omega), HB.out⟩⟩
  case rest =>
  obtain ⟨x, y, LL, ll, lc, gg, cap, rfl, rfl, HFIN⟩ := hcut
  obtain ⟨⟨z1, z2, z3, z4⟩, xo, xr, xx, xy, hme, hre, hbw⟩ := HFIN.out
  clear HFIN XV XF XR XO HB HB6 HME
  clear cF0 cF1 cF2 cF3 cF4 cF5 cF6 cF7 cF8 cF9 cF10 cO0 cO1 cO2 cO3 cO4 cO5 cO6 cO7
  have XO : Hid (BX (W.heap.size + 1) #[.int .i64 K, .int .i64 t, .int .i64 a, .int .i64 b, .int .i64 v, .int .i64 n, .int .i64 mm, .slice P ln cp] wc) := Lib.hid xo
  have XR : Hid (BX (w6.heap.size) #[.int .i64 E, .int .i64 0, .slice none 0 0] wc) := Lib.hid xr
  have XX : Hid (BX (x) #[.int .i64 C.pg, .int .i64 C.rg, .int .i64 C.lg, .int .i64 C.th, .int .i64 C.ca, .int .i64 C.ba, .int .i64 C.sh, .int .i64 C.re, .int .i64 C.mo, .int .i64 C.fi, .int .u64 C.ky, .slice LL ll lc, .slice (some ⟨gg, 0, none⟩) k cap] wc) := Lib.hid xx
  have XY : Hid (BX (y) #[.int .i64 E, .int .i64 0, .slice none 0 0] wc) := Lib.hid xy
  have HB : Hid (Below W.heap.size W wc) := Lib.hid hbw
  have HM := Lib.hid hme
  have HR := Lib.hid hre
  have HBC : Hid (Below wc.heap.size wc wc) := Lib.hid (Below.refl _ _)
  clear xo xr xx xy hme hre hbw
  obtain ⟨cO0, cO1, cO2, cO3, cO4, cO5, cO6, cO7⟩ := XO.out.c8
  obtain ⟨cR0, cR1, cR2⟩ := XR.out.c3
  obtain ⟨cX0, cX1, cX2, cX3, cX4, cX5, cX6, cX7, cX8, cX9, cX10, cX11, cX12⟩ := XX.out.c13
  obtain ⟨cY0, cY1, cY2⟩ := XY.out.c3
  go_upto_region 7 with (fail)
  refine wp_region_held_drew (S := fun w' => w'.cell? ⟨W.heap.size + 1, 0, none⟩ = some (.int .i64 K) ∧ w'.cell? ⟨W.heap.size + 1, 1, none⟩ = some (.int .i64 t) ∧ w'.cell? ⟨W.heap.size + 1, 2, none⟩ = some (.int .i64 a) ∧ w'.cell? ⟨W.heap.size + 1, 3, none⟩ = some (.int .i64 b) ∧ w'.cell? ⟨W.heap.size + 1, 4, none⟩ = some (.int .i64 v) ∧ w'.cell? ⟨W.heap.size + 1, 5, none⟩ = some (.int .i64 n) ∧ w'.cell? ⟨W.heap.size + 1, 6, none⟩ = some (.int .i64 mm) ∧ w'.cell? ⟨W.heap.size + 1, 7, none⟩ = some (.slice P ln cp) ∧ w'.cell? ⟨w6.heap.size, 0, none⟩ = some (.int .i64 E) ∧ w'.cell? ⟨w6.heap.size, 1, none⟩ = some (.int .i64 0) ∧ w'.cell? ⟨w6.heap.size, 2, none⟩ = some (.slice none 0 0) ∧ w'.cell? ⟨x, 0, none⟩ = some (.int .i64 C.pg) ∧ w'.cell? ⟨x, 1, none⟩ = some (.int .i64 C.rg) ∧ w'.cell? ⟨x, 2, none⟩ = some (.int .i64 C.lg) ∧ w'.cell? ⟨x, 3, none⟩ = some (.int .i64 C.th) ∧ w'.cell? ⟨x, 4, none⟩ = some (.int .i64 C.ca) ∧ w'.cell? ⟨x, 5, none⟩ = some (.int .i64 C.ba) ∧ w'.cell? ⟨x, 6, none⟩ = some (.int .i64 C.sh) ∧ w'.cell? ⟨x, 7, none⟩ = some (.int .i64 C.re) ∧ w'.cell? ⟨x, 8, none⟩ = some (.int .i64 C.mo) ∧ w'.cell? ⟨x, 9, none⟩ = some (.int .i64 C.fi) ∧ w'.cell? ⟨x, 10, none⟩ = some (.int .u64 C.ky) ∧ w'.cell? ⟨x, 11, none⟩ = some (.slice LL ll lc) ∧ w'.cell? ⟨x, 12, none⟩ = some (.slice (some ⟨gg, 0, none⟩) k cap) ∧ w'.cell? ⟨y, 0, none⟩ = some (.int .i64 E) ∧ w'.cell? ⟨y, 1, none⟩ = some (.int .i64 0) ∧ w'.cell? ⟨y, 2, none⟩ = some (.slice none 0 0)) (by kernel_rfl) ?_ (fun hHeld => ?_)
  · exact ⟨cO0, cO1, cO2, cO3, cO4, cO5, cO6, cO7, cR0, cR1, cR2, cX0, cX1, cX2, cX3, cX4, cX5, cX6, cX7, cX8, cX9, cX10, cX11, cX12, cY0, cY1, cY2⟩
  obtain ⟨w41, hw41⟩ : ∃ w41, wc.drew = w41 := ⟨_, rfl⟩
  rw [hw41] at hHeld ⊢
  have bw41 : Below wc.heap.size wc w41 := by rw [← hw41]; exact (Below.refl _ wc).drew
  have sw41 := bw41.size
  clear hw41
  clear cO0 cO1 cO2 cO3 cO4 cO5 cO6 cO7 cR0 cR1 cR2 cX0 cX1 cX2 cX3 cX4 cX5 cX6 cX7 cX8 cX9 cX10 cX11 cX12 cY0 cY1 cY2
  replace HBC := Lib.hid (thn HBC.out bw41)
  replace XO := Lib.hid (XO.out.block (bw41.block (W.heap.size + 1) (by omega)))
  replace XR := Lib.hid (XR.out.block (bw41.block (w6.heap.size) (by omega)))
  replace XX := Lib.hid (XX.out.block (bw41.block (x) (by omega)))
  replace XY := Lib.hid (XY.out.block (bw41.block (y) (by omega)))
  replace HB := Lib.hid (thn HB.out bw41)
  clear bw41
  refine wpAnyH_take (i := 0) (v := ?_) rfl (by kernel_rfl) (by kernel_rfl) (by kernel_rfl) (fun _ _ _ h => h) (Or.inl ⟨by kernel_rfl, ?_⟩) (by assumption) ?_
  rotate_left
  · (intro w hSw; (try dsimp only at hSw); go_simp)
    try (with_reducible rfl)
  rotate_left
  try simp (maxSteps := 4000000) only [Act.put, List.setIfInBounds_toArray, List.set_cons_zero, List.set_cons_succ, List.getElem_toArray, List.getElem_cons_zero, List.getElem_cons_succ]
  refine wpAnyH_take (i := 1) (v := ?_) rfl (by kernel_rfl) (by kernel_rfl) (by kernel_rfl) (fun _ _ _ h => h) (Or.inl ⟨by kernel_rfl, ?_⟩) (by assumption) ?_
  rotate_left
  · (intro w hSw; (try dsimp only at hSw); go_simp)
    try (with_reducible rfl)
  rotate_left
  try simp (maxSteps := 4000000) only [Act.put, List.setIfInBounds_toArray, List.set_cons_zero, List.set_cons_succ, List.getElem_toArray, List.getElem_cons_zero, List.getElem_cons_succ]
  refine wpAnyH_ready (rs := [2]) (by kernel_rfl) (by simp) ?_
  refine AllReadyH.cons rfl (fun K2 hK2 => ?_) AllReadyH.nil
  go_simp
  with_reducible refine Calls.mono (rsame2 E _) ?_
  rintro e w42 ⟨rfl, bw42⟩
  have sw42 := bw42.size
  replace HBC := Lib.hid (thn HBC.out bw42)
  replace XO := Lib.hid (XO.out.block (bw42.block (W.heap.size + 1) (by omega)))
  replace XR := Lib.hid (XR.out.block (bw42.block (w6.heap.size) (by omega)))
  replace XX := Lib.hid (XX.out.block (bw42.block (x) (by omega)))
  replace XY := Lib.hid (XY.out.block (bw42.block (y) (by omega)))
  replace HB := Lib.hid (thn HB.out bw42)
  clear bw42
  obtain ⟨cO0, cO1, cO2, cO3, cO4, cO5, cO6, cO7⟩ := XO.out.c8
  obtain ⟨cR0, cR1, cR2⟩ := XR.out.c3
  obtain ⟨cX0, cX1, cX2, cX3, cX4, cX5, cX6, cX7, cX8, cX9, cX10, cX11, cX12⟩ := XX.out.c13
  obtain ⟨cY0, cY1, cY2⟩ := XY.out.c3
  refine hK2.out _ _ (⟨cO0, cO1, cO2, cO3, cO4, cO5, cO6, cO7, cR0, cR1, cR2, cX0, cX1, cX2, cX3, cX4, cX5, cX6, cX7, cX8, cX9, cX10, cX11, cX12, cY0, cY1, cY2⟩) (fun hHeld2 => ?_)
  clear hK2 K2 hHeld
  have hHeld := hHeld2
  clear hHeld2
  try simp (maxSteps := 4000000) only [Act.put, List.setIfInBounds_toArray, List.set_cons_zero, List.set_cons_succ]
  clear cO0 cO1 cO2 cO3 cO4 cO5 cO6 cO7 cR0 cR1 cR2 cX0 cX1 cX2 cX3 cX4 cX5 cX6 cX7 cX8 cX9 cX10 cX11 cX12 cY0 cY1 cY2
  refine wpAnyH_take (i := 3) (v := ?_) rfl (by kernel_rfl) (by kernel_rfl) (by kernel_rfl) (fun _ _ _ h => h) (Or.inl ⟨by kernel_rfl, ?_⟩) (by assumption) ?_
  rotate_left
  · (intro w hSw; (try dsimp only at hSw); go_simp)
    try (with_reducible rfl)
  rotate_left
  try simp (maxSteps := 4000000) only [Act.put, List.setIfInBounds_toArray, List.set_cons_zero, List.set_cons_succ, List.getElem_toArray, List.getElem_cons_zero, List.getElem_cons_succ]
  refine wpAnyH_take (i := 4) (v := ?_) rfl (by kernel_rfl) (by kernel_rfl) (by kernel_rfl) (fun _ _ _ h => h) (Or.inl ⟨by kernel_rfl, ?_⟩) (by assumption) ?_
  rotate_left
  · (intro w hSw; (try dsimp only at hSw); go_simp)
    try (with_reducible rfl)
  rotate_left
  try simp (maxSteps := 4000000) only [Act.put, List.setIfInBounds_toArray, List.set_cons_zero, List.set_cons_succ, List.getElem_toArray, List.getElem_cons_zero, List.getElem_cons_succ]
  refine wpAnyH_take (i := 6) (v := ?_) rfl (by kernel_rfl) (by kernel_rfl) (by kernel_rfl) (fun _ _ _ h => h) (Or.inl ⟨by kernel_rfl, ?_⟩) (by assumption) ?_
  rotate_left
  · (intro w hSw; (try dsimp only at hSw); go_simp)
    try (with_reducible rfl)
  rotate_left
  try simp (maxSteps := 4000000) only [Act.put, List.setIfInBounds_toArray, List.set_cons_zero, List.set_cons_succ, List.getElem_toArray, List.getElem_cons_zero, List.getElem_cons_succ]
  refine wpAnyH_ready (rs := [5]) (by kernel_rfl) (by simp) ?_
  refine AllReadyH.cons rfl (fun K2 hK2 => ?_) AllReadyH.nil
  go_simp
  with_reducible refine Calls.mono ((HM.out.at_ HBC.out).1) ?_
  rintro e w43 ⟨rfl, bw43⟩
  have sw43 := bw43.size
  replace HBC := Lib.hid (thn HBC.out bw43)
  replace XO := Lib.hid (XO.out.block (bw43.block (W.heap.size + 1) (by omega)))
  replace XR := Lib.hid (XR.out.block (bw43.block (w6.heap.size) (by omega)))
  replace XX := Lib.hid (XX.out.block (bw43.block (x) (by omega)))
  replace XY := Lib.hid (XY.out.block (bw43.block (y) (by omega)))
  replace HB := Lib.hid (thn HB.out bw43)
  clear bw43
  obtain ⟨cO0, cO1, cO2, cO3, cO4, cO5, cO6, cO7⟩ := XO.out.c8
  obtain ⟨cR0, cR1, cR2⟩ := XR.out.c3
  obtain ⟨cX0, cX1, cX2, cX3, cX4, cX5, cX6, cX7, cX8, cX9, cX10, cX11, cX12⟩ := XX.out.c13
  obtain ⟨cY0, cY1, cY2⟩ := XY.out.c3
  refine hK2.out _ _ (⟨cO0, cO1, cO2, cO3, cO4, cO5, cO6, cO7, cR0, cR1, cR2, cX0, cX1, cX2, cX3, cX4, cX5, cX6, cX7, cX8, cX9, cX10, cX11, cX12, cY0, cY1, cY2⟩) (fun hHeld2 => ?_)
  clear hK2 K2 hHeld
  have hHeld := hHeld2
  clear hHeld2
  try simp (maxSteps := 4000000) only [Act.put, List.setIfInBounds_toArray, List.set_cons_zero, List.set_cons_succ]
  clear cO0 cO1 cO2 cO3 cO4 cO5 cO6 cO7 cR0 cR1 cR2 cX0 cX1 cX2 cX3 cX4 cX5 cX6 cX7 cX8 cX9 cX10 cX11 cX12 cY0 cY1 cY2
  refine wpAnyH_ready (rs := [7]) (by kernel_rfl) (by simp) ?_
  refine AllReadyH.cons rfl (fun K2 hK2 => ?_) AllReadyH.nil
  go_simp
  with_reducible refine Calls.mono ((HR.out _ HBC.out).1) ?_
  rintro e w44 ⟨rfl, bw44⟩
  have sw44 := bw44.size
  replace HBC := Lib.hid (thn HBC.out bw44)
  replace XO := Lib.hid (XO.out.block (bw44.block (W.heap.size + 1) (by omega)))
  replace XR := Lib.hid (XR.out.block (bw44.block (w6.heap.size) (by omega)))
  replace XX := Lib.hid (XX.out.block (bw44.block (x) (by omega)))
  replace XY := Lib.hid (XY.out.block (bw44.block (y) (by omega)))
  replace HB := Lib.hid (thn HB.out bw44)
  clear bw44
  obtain ⟨cO0, cO1, cO2, cO3, cO4, cO5, cO6, cO7⟩ := XO.out.c8
  obtain ⟨cR0, cR1, cR2⟩ := XR.out.c3
  obtain ⟨cX0, cX1, cX2, cX3, cX4, cX5, cX6, cX7, cX8, cX9, cX10, cX11, cX12⟩ := XX.out.c13
  obtain ⟨cY0, cY1, cY2⟩ := XY.out.c3
  refine hK2.out _ _ (⟨cO0, cO1, cO2, cO3, cO4, cO5, cO6, cO7, cR0, cR1, cR2, cX0, cX1, cX2, cX3, cX4, cX5, cX6, cX7, cX8, cX9, cX10, cX11, cX12, cY0, cY1, cY2⟩) (fun hHeld2 => ?_)
  clear hK2 K2 hHeld
  have hHeld := hHeld2
  clear hHeld2
  try simp (maxSteps := 4000000) only [Act.put, List.setIfInBounds_toArray, List.set_cons_zero, List.set_cons_succ]
  clear cO0 cO1 cO2 cO3 cO4 cO5 cO6 cO7 cR0 cR1 cR2 cX0 cX1 cX2 cX3 cX4 cX5 cX6 cX7 cX8 cX9 cX10 cX11 cX12 cY0 cY1 cY2
  refine wpAnyH_take (i := 8) (v := ?_) rfl (by kernel_rfl) (by kernel_rfl) (by kernel_rfl) (fun _ _ _ h => h) (Or.inl ⟨by kernel_rfl, ?_⟩) (by assumption) ?_
  rotate_left
  · (intro w hSw; (try dsimp only at hSw); go_simp)
    try (with_reducible rfl)
  rotate_left
  try simp (maxSteps := 4000000) only [Act.put, List.setIfInBounds_toArray, List.set_cons_zero, List.set_cons_succ, List.getElem_toArray, List.getElem_cons_zero, List.getElem_cons_succ]
  refine wpAnyH_take (i := 9) (v := ?_) rfl (by kernel_rfl) (by kernel_rfl) (by kernel_rfl) (fun _ _ _ h => h) (Or.inl ⟨by kernel_rfl, ?_⟩) (by assumption) ?_
  rotate_left
  · (intro w hSw; (try dsimp only at hSw); go_simp)
    try (with_reducible rfl)
  rotate_left
  try simp (maxSteps := 4000000) only [Act.put, List.setIfInBounds_toArray, List.set_cons_zero, List.set_cons_succ, List.getElem_toArray, List.getElem_cons_zero, List.getElem_cons_succ]
  refine wpAnyH_take (i := 10) (v := ?_) rfl (by kernel_rfl) (by kernel_rfl) (by kernel_rfl) (fun _ _ _ h => h) (Or.inl ⟨by kernel_rfl, ?_⟩) (by assumption) ?_
  rotate_left
  · (intro w hSw; (try dsimp only at hSw); go_simp)
    try (with_reducible rfl)
  rotate_left
  try simp (maxSteps := 4000000) only [Act.put, List.setIfInBounds_toArray, List.set_cons_zero, List.set_cons_succ, List.getElem_toArray, List.getElem_cons_zero, List.getElem_cons_succ]
  refine wpAnyH_take (i := 11) (v := ?_) rfl (by kernel_rfl) (by kernel_rfl) (by kernel_rfl) (fun _ _ _ h => h) (Or.inl ⟨by kernel_rfl, ?_⟩) (by assumption) ?_
  rotate_left
  · (intro w hSw; (try dsimp only at hSw); go_simp)
    try (with_reducible rfl)
  rotate_left
  try simp (maxSteps := 4000000) only [Act.put, List.setIfInBounds_toArray, List.set_cons_zero, List.set_cons_succ, List.getElem_toArray, List.getElem_cons_zero, List.getElem_cons_succ]
  refine wpAnyH_take (i := 12) (v := ?_) rfl (by kernel_rfl) (by kernel_rfl) (by kernel_rfl) (fun _ _ _ h => h) (Or.inl ⟨by kernel_rfl, ?_⟩) (by assumption) ?_
  rotate_left
  · (intro w hSw; (try dsimp only at hSw); go_simp)
    try (with_reducible rfl)
  rotate_left
  try simp (maxSteps := 4000000) only [Act.put, List.setIfInBounds_toArray, List.set_cons_zero, List.set_cons_succ, List.getElem_toArray, List.getElem_cons_zero, List.getElem_cons_succ]
  refine wpAnyH_take (i := 13) (v := ?_) rfl (by kernel_rfl) (by kernel_rfl) (by kernel_rfl) (fun _ _ _ h => h) (Or.inl ⟨by kernel_rfl, ?_⟩) (by assumption) ?_
  rotate_left
  · (intro w hSw; (try dsimp only at hSw); go_simp)
    try (with_reducible rfl)
  rotate_left
  try simp (maxSteps := 4000000) only [Act.put, List.setIfInBounds_toArray, List.set_cons_zero, List.set_cons_succ, List.getElem_toArray, List.getElem_cons_zero, List.getElem_cons_succ]
  refine wpAnyH_take (i := 15) (v := ?_) rfl (by kernel_rfl) (by kernel_rfl) (by kernel_rfl) (fun _ _ _ h => h) (Or.inl ⟨by kernel_rfl, ?_⟩) (by assumption) ?_
  rotate_left
  · (intro w hSw; (try dsimp only at hSw); go_simp)
    try (with_reducible rfl)
  rotate_left
  try simp (maxSteps := 4000000) only [Act.put, List.setIfInBounds_toArray, List.set_cons_zero, List.set_cons_succ, List.getElem_toArray, List.getElem_cons_zero, List.getElem_cons_succ]
  refine wpAnyH_take (i := 16) (v := ?_) rfl (by kernel_rfl) (by kernel_rfl) (by kernel_rfl) (fun _ _ _ h => h) (Or.inl ⟨by kernel_rfl, ?_⟩) (by assumption) ?_
  rotate_left
  · (intro w hSw; (try dsimp only at hSw); go_simp)
    try (with_reducible rfl)
  rotate_left
  try simp (maxSteps := 4000000) only [Act.put, List.setIfInBounds_toArray, List.set_cons_zero, List.set_cons_succ, List.getElem_toArray, List.getElem_cons_zero, List.getElem_cons_succ]
  refine wpAnyH_take (i := 17) (v := ?_) rfl (by kernel_rfl) (by kernel_rfl) (by kernel_rfl) (fun _ _ _ h => h) (Or.inl ⟨by kernel_rfl, ?_⟩) (by assumption) ?_
  rotate_left
  · (intro w hSw; (try dsimp only at hSw); go_simp)
    try (with_reducible rfl)
  rotate_left
  try simp (maxSteps := 4000000) only [Act.put, List.setIfInBounds_toArray, List.set_cons_zero, List.set_cons_succ, List.getElem_toArray, List.getElem_cons_zero, List.getElem_cons_succ]
  refine wpAnyH_ready (rs := [14]) (by kernel_rfl) (by simp) ?_
  refine AllReadyH.cons rfl (fun K2 hK2 => ?_) AllReadyH.nil
  go_simp
  with_reducible refine Calls.mono ((HM.out.at_ HBC.out).2) ?_
  rintro e w45 ⟨rfl, bw45⟩
  have sw45 := bw45.size
  replace HBC := Lib.hid (thn HBC.out bw45)
  replace XO := Lib.hid (XO.out.block (bw45.block (W.heap.size + 1) (by omega)))
  replace XR := Lib.hid (XR.out.block (bw45.block (w6.heap.size) (by omega)))
  replace XX := Lib.hid (XX.out.block (bw45.block (x) (by omega)))
  replace XY := Lib.hid (XY.out.block (bw45.block (y) (by omega)))
  replace HB := Lib.hid (thn HB.out bw45)
  clear bw45
  obtain ⟨cO0, cO1, cO2, cO3, cO4, cO5, cO6, cO7⟩ := XO.out.c8
  obtain ⟨cR0, cR1, cR2⟩ := XR.out.c3
  obtain ⟨cX0, cX1, cX2, cX3, cX4, cX5, cX6, cX7, cX8, cX9, cX10, cX11, cX12⟩ := XX.out.c13
  obtain ⟨cY0, cY1, cY2⟩ := XY.out.c3
  refine hK2.out _ _ (⟨cO0, cO1, cO2, cO3, cO4, cO5, cO6, cO7, cR0, cR1, cR2, cX0, cX1, cX2, cX3, cX4, cX5, cX6, cX7, cX8, cX9, cX10, cX11, cX12, cY0, cY1, cY2⟩) (fun hHeld2 => ?_)
  clear hK2 K2 hHeld
  have hHeld := hHeld2
  clear hHeld2
  try simp (maxSteps := 4000000) only [Act.put, List.setIfInBounds_toArray, List.set_cons_zero, List.set_cons_succ]
  clear cO0 cO1 cO2 cO3 cO4 cO5 cO6 cO7 cR0 cR1 cR2 cX0 cX1 cX2 cX3 cX4 cX5 cX6 cX7 cX8 cX9 cX10 cX11 cX12 cY0 cY1 cY2
  refine wpAnyH_ready (rs := [18]) (by kernel_rfl) (by simp) ?_
  refine AllReadyH.cons rfl (fun K2 hK2 => ?_) AllReadyH.nil
  go_simp
  with_reducible refine Calls.mono ((HR.out _ HBC.out).2) ?_
  rintro e w46 ⟨rfl, bw46⟩
  have sw46 := bw46.size
  replace HBC := Lib.hid (thn HBC.out bw46)
  replace XO := Lib.hid (XO.out.block (bw46.block (W.heap.size + 1) (by omega)))
  replace XR := Lib.hid (XR.out.block (bw46.block (w6.heap.size) (by omega)))
  replace XX := Lib.hid (XX.out.block (bw46.block (x) (by omega)))
  replace XY := Lib.hid (XY.out.block (bw46.block (y) (by omega)))
  replace HB := Lib.hid (thn HB.out bw46)
  clear bw46
  obtain ⟨cO0, cO1, cO2, cO3, cO4, cO5, cO6, cO7⟩ := XO.out.c8
  obtain ⟨cR0, cR1, cR2⟩ := XR.out.c3
  obtain ⟨cX0, cX1, cX2, cX3, cX4, cX5, cX6, cX7, cX8, cX9, cX10, cX11, cX12⟩ := XX.out.c13
  obtain ⟨cY0, cY1, cY2⟩ := XY.out.c3
  refine hK2.out _ _ (⟨cO0, cO1, cO2, cO3, cO4, cO5, cO6, cO7, cR0, cR1, cR2, cX0, cX1, cX2, cX3, cX4, cX5, cX6, cX7, cX8, cX9, cX10, cX11, cX12, cY0, cY1, cY2⟩) (fun hHeld2 => ?_)
  clear hK2 K2 hHeld
  have hHeld := hHeld2
  clear hHeld2
  try simp (maxSteps := 4000000) only [Act.put, List.setIfInBounds_toArray, List.set_cons_zero, List.set_cons_succ]
  clear cO0 cO1 cO2 cO3 cO4 cO5 cO6 cO7 cR0 cR1 cR2 cX0 cX1 cX2 cX3 cX4 cX5 cX6 cX7 cX8 cX9 cX10 cX11 cX12 cY0 cY1 cY2
  refine wpAnyH_ready (rs := [19]) (by kernel_rfl) (by simp) ?_
  refine AllReadyH.cons rfl (fun K2 hK2 => ?_) AllReadyH.nil
  go_simp
  with_reducible refine Calls.mono (rsame3 (gE E K n mm) _) ?_
  rintro e w47 ⟨rfl, bw47⟩
  have sw47 := bw47.size
  replace HBC := Lib.hid (thn HBC.out bw47)
  replace XO := Lib.hid (XO.out.block (bw47.block (W.heap.size + 1) (by omega)))
  replace XR := Lib.hid (XR.out.block (bw47.block (w6.heap.size) (by omega)))
  replace XX := Lib.hid (XX.out.block (bw47.block (x) (by omega)))
  replace XY := Lib.hid (XY.out.block (bw47.block (y) (by omega)))
  replace HB := Lib.hid (thn HB.out bw47)
  clear bw47
  obtain ⟨cO0, cO1, cO2, cO3, cO4, cO5, cO6, cO7⟩ := XO.out.c8
  obtain ⟨cR0, cR1, cR2⟩ := XR.out.c3
  obtain ⟨cX0, cX1, cX2, cX3, cX4, cX5, cX6, cX7, cX8, cX9, cX10, cX11, cX12⟩ := XX.out.c13
  obtain ⟨cY0, cY1, cY2⟩ := XY.out.c3
  refine hK2.out _ _ (⟨cO0, cO1, cO2, cO3, cO4, cO5, cO6, cO7, cR0, cR1, cR2, cX0, cX1, cX2, cX3, cX4, cX5, cX6, cX7, cX8, cX9, cX10, cX11, cX12, cY0, cY1, cY2⟩) (fun hHeld2 => ?_)
  clear hK2 K2 hHeld
  have hHeld := hHeld2
  clear hHeld2
  try simp (maxSteps := 4000000) only [Act.put, List.setIfInBounds_toArray, List.set_cons_zero, List.set_cons_succ]
  clear cO0 cO1 cO2 cO3 cO4 cO5 cO6 cO7 cR0 cR1 cR2 cX0 cX1 cX2 cX3 cX4 cX5 cX6 cX7 cX8 cX9 cX10 cX11 cX12 cY0 cY1 cY2
  refine wpAnyH_take (i := 20) (v := ?_) rfl (by kernel_rfl) (by kernel_rfl) (by kernel_rfl) (fun _ _ _ h => h) (Or.inl ⟨by kernel_rfl, ?_⟩) (by assumption) ?_
  rotate_left
  · (intro w hSw; (try dsimp only at hSw); go_simp)
    try (with_reducible rfl)
  rotate_left
  try simp (maxSteps := 4000000) only [Act.put, List.setIfInBounds_toArray, List.set_cons_zero, List.set_cons_succ, List.getElem_toArray, List.getElem_cons_zero, List.getElem_cons_succ]
  refine wpAnyH_take (i := 21) (v := ?_) rfl (by kernel_rfl) (by kernel_rfl) (by kernel_rfl) (fun _ _ _ h => h) (Or.inl ⟨by kernel_rfl, ?_⟩) (by assumption) ?_
  rotate_left
  · (intro w hSw; (try dsimp only at hSw); go_simp)
    try (with_reducible rfl)
  rotate_left
  try simp (maxSteps := 4000000) only [Act.put, List.setIfInBounds_toArray, List.set_cons_zero, List.set_cons_succ, List.getElem_toArray, List.getElem_cons_zero, List.getElem_cons_succ]
  refine wpAnyH_done (by kernel_rfl) ?_ _
  go_wp2
  go_ret
  exact ⟨rfl, HB.out⟩
end Go.Proofs.Ytanmmhbnjmglhaa
