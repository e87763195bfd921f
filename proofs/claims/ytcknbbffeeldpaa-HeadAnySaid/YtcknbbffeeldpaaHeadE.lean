/- The walk of HeadBack. -/
import Derived.Test.YtcknbbffeeldpaaHeadD
namespace Go.Proofs.Ytcknbbffeeldpaa
open Go.RowKit
set_option linter.unusedVariables false
set_option linter.unusedSimpArgs false

theorem bounds_u64 {n : Int} (h : (Lit.int .u64 n).wf = true) : 0 ≤ n ∧ n < 18446744073709551616 := by
  simp [Lit.wf, IntKind.min, IntKind.max, IntKind.signed, IntKind.bits] at h; omega
theorem headF_lo (key at_ : Int) (s c t n e y : Nat) (h : y < 14) : headF key at_ s c t n e y = headC s c t n e y := by
  unfold headF headE headD
  rw [if_neg (by omega), if_neg (by omega)]
theorem headF_lt (key at_ : Int) {s c t : Nat} (n e : Nat) (hs : s < 256) (hc : c < 256) (ht : t < 256) : ∀ i, headF key at_ s c t n e i < 256 := headE_lt (headC_lt n e hs hc ht) (sumR_lt _ _ _)
theorem headF_seal (key at_ : Int) (s c t n e : Nat) : sealB key at_ (headF key at_ s c t n e) = true := by
  unfold sealB
  rw [sumR_congr key at_ (fun i hi => headF_lo key at_ s c t n e i hi)]
  have hl := sumR_lt key at_ (headC s c t n e)
  have h14 : headF key at_ s c t n e 14 = sumR key at_ (headC s c t n e) % 256 := by unfold headF headE headD; rw [if_neg (by omega), if_pos rfl]
  have h15 : headF key at_ s c t n e 15 = sumR key at_ (headC s c t n e) / 256 := by unfold headF headE; rw [if_pos rfl]
  rw [h14, h15]
  exact decide_eq_true (by omega)
theorem headF_parts (key at_ : Int) (s c t n e : Nat) (hn : n < 16777216) (he : e < 16777216) :
    headF key at_ s c t n e 1 = s ∧ headF key at_ s c t n e 2 = c ∧ headF key at_ s c t n e 3 = t ∧ get3 (headF key at_ s c t n e) 4 = n ∧ get3 (headF key at_ s c t n e) 7 = e := by
  have hd : ∀ y, y < 4 → headF key at_ s c t n e y = headS s c t 4 y := fun y hy => by rw [headF_lo _ _ _ _ _ _ _ _ (by omega)]; unfold headC; rw [put3_out (by omega), put3_out (by omega)]
  have hn2 : ∀ y, 4 ≤ y → y < 7 → headF key at_ s c t n e y = n / 256 ^ (y - 4) % 256 := fun y h1 h2 => by rw [headF_lo _ _ _ _ _ _ _ _ (by omega)]; unfold headC; rw [put3_out (by omega), put3_in (by omega)]
  have he2 : ∀ y, 7 ≤ y → y < 10 → headF key at_ s c t n e y = e / 256 ^ (y - 7) % 256 := fun y h1 h2 => by rw [headF_lo _ _ _ _ _ _ _ _ (by omega)]; unfold headC; rw [put3_in (by omega)]
  refine ⟨hd 1 (by omega), hd 2 (by omega), hd 3 (by omega), ?_, ?_⟩
  · unfold get3
    rw [hn2 4 (by omega) (by omega), hn2 5 (by omega) (by omega), hn2 6 (by omega) (by omega)]; exact sum3 n hn
  · unfold get3
    rw [he2 7 (by omega) (by omega), he2 8 (by omega) (by omega), he2 9 (by omega) (by omega)]; exact sum3 e he
theorem sealed_is (r : Bool) (key at_ : Int) (g cap : Nat) (f : Nat → Nat) (w : World) (H : RowU g 16 w f) (hf : ∀ i, f i < 256) (hcap : 16 ≤ cap) (hk0 : 0 ≤ key) (hk1 : key < 18446744073709551616) (h : sealB key at_ f = r) :
    Calls Try.prog 26 #[.int .u64 key, .int .i64 at_, .slice (some ⟨g, 0, none⟩) 16 cap] w fun e w' => e = .returned (.bool r) ∧ Below w.heap.size w w' :=
  (sealed_any key at_ g cap f w H hf hcap hk0 hk1).mono fun e w' ⟨h1, q, h2⟩ => ⟨by rw [h1, h], by rw [h2]; exact below_drewN (Below.refl _ _) q⟩
theorem hread_back (key at_ : Int) (g cap : Nat) (s c t n e : Nat) (w : World) (H : RowU g 16 w (headF key at_ s c t n e)) (hok : headOkB s c t n e = true) (hs : s < 256) (hc : c < 256) (ht : t < 256) (hn : n < 16777216) (he : e < 16777216) (hcap : 16 ≤ cap) (hk0 : 0 ≤ key) (hk1 : key < 18446744073709551616) :
    Calls Try.prog 22 #[.int .u64 key, .int .i64 at_, .slice (some ⟨g, 0, none⟩) 16 cap] w fun e' w' => e' = .returned (.tuple #[.agg #[.int .i64 s, .int .i64 c, .int .i64 t, .int .i64 n, .int .i64 e], .int .i64 0]) ∧ Below w.heap.size w w' := by
  refine (hread key at_ g cap _ w H (headF_lt key at_ n e hs hc ht) hcap hk0 hk1).mono fun e' w' h => ?_
  obtain ⟨p1, p2, p3, p4, p5⟩ := headF_parts key at_ s c t n e hn he
  have hr : readOk key at_ (headF key at_ s c t n e) = true := by
    unfold readOk
    rw [headF_seal, p1, p2, p3, p4, p5, hok]
    simp
  unfold HReadPost at h
  rw [hr, if_pos rfl, p1, p2, p3, p4, p5] at h
  exact h
theorem hbytes_any (key at_ s c t n e : Int) (w : World) (r : Bool) (h : headOkB s c t n e = r) (hk0 : 0 ≤ key) (hk1 : key < 18446744073709551616) :
    Calls Try.prog 21 #[.int .u64 key, .int .i64 at_, .agg #[.int .i64 s, .int .i64 c, .int .i64 t, .int .i64 n, .int .i64 e]] w fun e' w' => ∃ A cap, e' = .returned (.slice A (if r then 16 else 0) cap) ∧ Below w.heap.size w w' := by
  cases r
  · exact (hbytes_no key at_ s c t n e w h).mono fun e' w' ⟨h1, h2⟩ => ⟨none, 0, h1, h2⟩
  · obtain ⟨S, C, T, N, E, rfl, rfl, rfl, rfl, rfl, h1, h2, h3, h4, h5⟩ := headOk_nat h
    exact (hbytes_yes key at_ S C T N E w h h1 h2 h3 h4 h5 hk0 hk1).mono fun e' w' ⟨g, q1, _, _, q4⟩ => ⟨_, 16, q1, q4⟩
set_option maxHeartbeats 1600000 in
theorem h18awake (w : World) :
    Calls Try.prog 23 #[] w fun e w' => e = .returned (.bool true) ∧ Below w.heap.size w w' := by
  have hok : headOkB (2 : Nat) (3 : Nat) (5 : Nat) (60 : Nat) (7 : Nat) = true := by decide
  have HY := Lib.hid (fun W => hbytes_yes 9 32 2 3 5 60 7 W hok (by omega) (by omega) (by omega) (by omega) (by omega) (by omega) (by omega))
  have HOK := Lib.hid hok
  have HSB := Lib.hid (headF_seal 9 32 2 3 5 60 7)
  clear hok
  go_enter Try.func23, Try.ntmps23
  go_upto_region 2 with (fail)
  obtain ⟨W1, hW1⟩ : ∃ W1, w.alloc (.cells #[.int .i64 2, .int .i64 3, .int .i64 5, .int .i64 60, .int .i64 7] 47) = W1 := ⟨_, rfl⟩
  have hX := HeadAt.new w 2 3 5 60 7 47
  have hB := alc0 w (.cells #[.int .i64 2, .int .i64 3, .int .i64 5, .int .i64 60, .int .i64 7] 47)
  rw [hW1] at hX hB ⊢
  clear hW1
  have HX := Lib.hid hX; have HB := Lib.hid hB
  obtain ⟨_, k0, k1, k2, k3, k4, kf⟩ := hX
  clear hB
  go_wp2_with fail
  refine (HY.out _).mono ?_
  rintro e w2 ⟨g, rfl, hg, hr, hb⟩
  have HR := Lib.hid hr
  have HX2 := Lib.hid (HX.out.below hb)
  have HB2 := Lib.hid (thn HB.out hb)
  clear hr hb k0 k1 k2 k3 k4 kf HX HB
  go_wp2_with fail
  refine (hread_back 9 32 g 16 2 3 5 60 7 _ HR.out HOK.out (by omega) (by omega) (by omega) (by omega) (by omega) (by omega) (by omega) (by omega)).mono ?_
  rintro e w3 ⟨rfl, hb⟩
  have HX3 := Lib.hid (HX2.out.below hb)
  have HB3 := Lib.hid (thn HB2.out hb)
  clear hb HX2 HB2 HR
  go_upto_region 3 with (fail)
  obtain ⟨W4, hW4⟩ : ∃ W4, w3.alloc (.cells #[.int .i64 2, .int .i64 3, .int .i64 5, .int .i64 60, .int .i64 7] 47) = W4 := ⟨_, rfl⟩
  have hY := HeadAt.new w3 2 3 5 60 7 47
  have hX4 := HX3.out.below (alc0 w3 (.cells #[.int .i64 2, .int .i64 3, .int .i64 5, .int .i64 60, .int .i64 7] 47))
  have HB4 := Lib.hid (alc HB3.out (.cells #[.int .i64 2, .int .i64 3, .int .i64 5, .int .i64 60, .int .i64 7] 47))
  rw [hW4] at hY hX4 HB4 ⊢
  clear hW4 HX3 HB3
  obtain ⟨_, k0, k1, k2, k3, k4, kf⟩ := hX4
  obtain ⟨_, j0, j1, j2, j3, j4, jf⟩ := hY
  go_wp2_with fail
  refine (HY.out _).mono ?_
  rintro e w5 ⟨g5, rfl, _, hr5, hb⟩
  have HR5 := Lib.hid hr5
  have HB5 := Lib.hid (thn HB4.out hb)
  clear hr5 hb k0 k1 k2 k3 k4 kf j0 j1 j2 j3 j4 jf HB4
  go_wp2_with fail
  refine (sealed_any 9 32 g5 16 _ _ HR5.out (headF_lt 9 32 60 7 (by omega) (by omega) (by omega)) (by omega) (by omega) (by omega)).mono ?_
  rintro e w6 ⟨rfl, q, rfl⟩
  rw [HSB.out]
  go_wp2
  go_ret
  exact ⟨ret_bool (by simp), below_drewN HB5.out q⟩
set_option maxRecDepth 8000 in
set_option maxHeartbeats 8000000 in
theorem walkHeadBackX (key a1 a2_0 a2_1 a2_2 a2_3 a2_4 : Int) (w : World) (hk0 : 0 ≤ key) (hk1 : key < 18446744073709551616) :
    Calls Try.prog 7 #[.int .u64 key, .int .i64 a1, .agg #[.int .i64 a2_0, .int .i64 a2_1, .int .i64 a2_2, .int .i64 a2_3, .int .i64 a2_4]] w fun e w' => e = .returned (.bool true) ∧ Below w.heap.size w w' := by
  have HK := Lib.hid (And.intro hk0 hk1)
  obtain ⟨r, hr⟩ : ∃ r, headOkB a2_0 a2_1 a2_2 a2_3 a2_4 = r := ⟨_, rfl⟩
  have HRR := Lib.hid hr
  clear hr hk0 hk1
  go_enter Try.func7, Try.ntmps7
  go_wp2_with fail
  refine (rhead_any _ _ _ _ _ _).mono ?_
  rintro e w1 ⟨S, C, T, N, E, rfl, hok, hb⟩
  obtain ⟨S', C', T', N', E', d1, d2, d3, d4, d5, b1, b2, b3, b4, b5⟩ := headOk_nat hok
  have HBD : Hid (S < 256 ∧ C < 256 ∧ T < 256 ∧ N < 16777216 ∧ E < 16777216) := Lib.hid (by omega)
  have HOK := Lib.hid hok
  have HP1 := Lib.hid ((HeadAt.new w a2_0 a2_1 a2_2 a2_3 a2_4 47).below hb)
  have HB1 := Lib.hid (thn (alc0 w (.cells #[.int .i64 a2_0, .int .i64 a2_1, .int .i64 a2_2, .int .i64 a2_3, .int .i64 a2_4] 47)) hb)
  clear hok d1 d2 d3 d4 d5 b1 b2 b3 b4 b5 hb
  go_upto_region 2 with (fail)
  obtain ⟨W2, hW2⟩ : ∃ W2, w1.alloc (.cells #[.int .i64 S, .int .i64 C, .int .i64 T, .int .i64 N, .int .i64 E] 47) = W2 := ⟨_, rfl⟩
  have HX2 := Lib.hid (HeadAt.new w1 S C T N E 47)
  have HP2 := Lib.hid (HP1.out.below (alc0 w1 (.cells #[.int .i64 S, .int .i64 C, .int .i64 T, .int .i64 N, .int .i64 E] 47)))
  have HB2 := Lib.hid (alc HB1.out (.cells #[.int .i64 S, .int .i64 C, .int .i64 T, .int .i64 N, .int .i64 E] 47))
  rw [hW2] at HX2 HP2 HB2 ⊢
  obtain ⟨x, hx⟩ : ∃ x, w1.heap.size = x := ⟨_, rfl⟩
  obtain ⟨p, hp⟩ : ∃ p, w.heap.size = p := ⟨_, rfl⟩
  have HPE := Lib.hid hp
  rw [hx] at HX2 ⊢
  simp only [hp] at HP2 ⊢
  clear hW2 hx hp HP1 HB1
  obtain ⟨_, k0, k1, k2, k3, k4, kf⟩ := HX2.out
  go_wp2_with fail
  refine (hbytes_yes key a1 S C T N E _ HOK.out HBD.out.1 HBD.out.2.1 HBD.out.2.2.1 HBD.out.2.2.2.1 HBD.out.2.2.2.2 HK.out.1 HK.out.2).mono ?_
  rintro e w3 ⟨g, rfl, hg, hr, hb⟩
  have HR := Lib.hid hr
  have HX3 := Lib.hid (HX2.out.below hb)
  have HP3 := Lib.hid (HP2.out.below hb)
  have HB3 := Lib.hid (thn HB2.out hb)
  clear hr hb k0 k1 k2 k3 k4 kf HX2 HP2 HB2
  go_wp2_with fail
  refine (hread_back key a1 g 16 S C T N E _ HR.out HOK.out HBD.out.1 HBD.out.2.1 HBD.out.2.2.1 HBD.out.2.2.2.1 HBD.out.2.2.2.2 (by omega) HK.out.1 HK.out.2).mono ?_
  rintro e w4 ⟨rfl, hb⟩
  have HR4' := Lib.hid (HR.out.below hb)
  have HX4' := Lib.hid (HX3.out.below hb)
  have HP4' := Lib.hid (HP3.out.below hb)
  have HB4' := Lib.hid (thn HB3.out hb)
  clear hb HR HX3 HP3 HB3
  go_upto_region 4 with (fail)
  obtain ⟨W5, hW5⟩ : ∃ W5, w4.alloc (.cells #[.int .i64 S, .int .i64 C, .int .i64 T, .int .i64 N, .int .i64 E] 47) = W5 := ⟨_, rfl⟩
  have HY4 := Lib.hid (HeadAt.new w4 S C T N E 47)
  have HX4 := Lib.hid (HX4'.out.below (alc0 w4 (.cells #[.int .i64 S, .int .i64 C, .int .i64 T, .int .i64 N, .int .i64 E] 47)))
  have HP4 := Lib.hid (HP4'.out.below (alc0 w4 (.cells #[.int .i64 S, .int .i64 C, .int .i64 T, .int .i64 N, .int .i64 E] 47)))
  have HR4 := Lib.hid (HR4'.out.below (alc0 w4 (.cells #[.int .i64 S, .int .i64 C, .int .i64 T, .int .i64 N, .int .i64 E] 47)))
  have HB4 := Lib.hid (alc HB4'.out (.cells #[.int .i64 S, .int .i64 C, .int .i64 T, .int .i64 N, .int .i64 E] 47))
  rw [hW5] at HY4 HX4 HP4 HR4 HB4 ⊢
  obtain ⟨y, hy⟩ : ∃ y, w4.heap.size = y := ⟨_, rfl⟩
  rw [hy] at HY4 ⊢
  clear hW5 hy HR4' HX4' HP4' HB4'
  have HFL := Lib.hid (headF_lt key a1 N E HBD.out.1 HBD.out.2.1 HBD.out.2.2.1)
  have HSB := Lib.hid (headF_seal key a1 S C T N E)
  obtain ⟨f, hf⟩ : ∃ f, headF key a1 S C T N E = f := ⟨_, rfl⟩
  have HF := Lib.hid hf
  rw [hf] at HFL HSB HR4
  clear hf
  obtain ⟨hpz, jp0, jp1, jp2, jp3, jp4, _⟩ := HP4.out
  obtain ⟨hxz, jx0, jx1, jx2, jx3, jx4, _⟩ := HX4.out
  obtain ⟨hyz, jy0, jy1, jy2, jy3, jy4, _⟩ := HY4.out
  obtain ⟨S0, hS0⟩ : ∃ S0, strU f 16 = S0 := ⟨_, rfl⟩
  refine wp_region_held_drew (S := (fun w' => w'.cell? ⟨p, 0, none⟩ = some (.int .i64 a2_0) ∧ w'.cell? ⟨p, 1, none⟩ = some (.int .i64 a2_1) ∧ w'.cell? ⟨p, 2, none⟩ = some (.int .i64 a2_2) ∧ w'.cell? ⟨p, 3, none⟩ = some (.int .i64 a2_3) ∧ w'.cell? ⟨p, 4, none⟩ = some (.int .i64 a2_4) ∧ w'.cell? ⟨x, 0, none⟩ = some (.int .i64 S) ∧ w'.cell? ⟨x, 1, none⟩ = some (.int .i64 C) ∧ w'.cell? ⟨x, 2, none⟩ = some (.int .i64 T) ∧ w'.cell? ⟨x, 3, none⟩ = some (.int .i64 N) ∧ w'.cell? ⟨x, 4, none⟩ = some (.int .i64 E) ∧ w'.cell? ⟨y, 0, none⟩ = some (.int .i64 S) ∧ w'.cell? ⟨y, 1, none⟩ = some (.int .i64 C) ∧ w'.cell? ⟨y, 2, none⟩ = some (.int .i64 T) ∧ w'.cell? ⟨y, 3, none⟩ = some (.int .i64 N) ∧ w'.cell? ⟨y, 4, none⟩ = some (.int .i64 E) ∧ Hid (RowU g 16 w' f) ∧ Hid (Below w.heap.size w w') ∧ p < w'.heap.size ∧ x < w'.heap.size ∧ y < w'.heap.size)) (by kernel_rfl) ?_ (fun hHeld => ?_)
  · exact ⟨jp0, jp1, jp2, jp3, jp4, jx0, jx1, jx2, jx3, jx4, jy0, jy1, jy2, jy3, jy4, Lib.hid (HR4.out.below (Below.refl _ _).drew), Lib.hid HB4.out.drew, hpz, hxz, hyz⟩
  have HTAKE := Lib.hid (fun (w' : World) (h : (fun w' => w'.cell? ⟨p, 0, none⟩ = some (.int .i64 a2_0) ∧ w'.cell? ⟨p, 1, none⟩ = some (.int .i64 a2_1) ∧ w'.cell? ⟨p, 2, none⟩ = some (.int .i64 a2_2) ∧ w'.cell? ⟨p, 3, none⟩ = some (.int .i64 a2_3) ∧ w'.cell? ⟨p, 4, none⟩ = some (.int .i64 a2_4) ∧ w'.cell? ⟨x, 0, none⟩ = some (.int .i64 S) ∧ w'.cell? ⟨x, 1, none⟩ = some (.int .i64 C) ∧ w'.cell? ⟨x, 2, none⟩ = some (.int .i64 T) ∧ w'.cell? ⟨x, 3, none⟩ = some (.int .i64 N) ∧ w'.cell? ⟨x, 4, none⟩ = some (.int .i64 E) ∧ w'.cell? ⟨y, 0, none⟩ = some (.int .i64 S) ∧ w'.cell? ⟨y, 1, none⟩ = some (.int .i64 C) ∧ w'.cell? ⟨y, 2, none⟩ = some (.int .i64 T) ∧ w'.cell? ⟨y, 3, none⟩ = some (.int .i64 N) ∧ w'.cell? ⟨y, 4, none⟩ = some (.int .i64 E) ∧ Hid (RowU g 16 w' f) ∧ Hid (Below w.heap.size w w') ∧ p < w'.heap.size ∧ x < w'.heap.size ∧ y < w'.heap.size) w') => (conv_row h.2.2.2.2.2.2.2.2.2.2.2.2.2.2.2.1.out 16).trans (by rw [hS0]))
  have HS0 := Lib.hid hS0
  clear hS0 jp0 jp1 jp2 jp3 jp4 jx0 jx1 jx2 jx3 jx4 jy0 jy1 jy2 jy3 jy4 hpz hxz hyz HP4 HX4 HY4 HR4 HB4
  refine wpAnyH_ready (rs := [0]) (by kernel_rfl) (by simp) ?_
  refine AllReadyH.cons rfl (fun K2 hK2 => ?_) AllReadyH.nil
  go_simp
  refine (h18awake _).mono ?_
  rintro e w9 ⟨rfl, hb⟩
  refine hK2.out _ _ ?_ (fun hHeld2 => ?_)
  · obtain ⟨jp0, jp1, jp2, jp3, jp4, jx0, jx1, jx2, jx3, jx4, jy0, jy1, jy2, jy3, jy4, jr, jb, jp, jx, jy⟩ := hHeld
    exact ⟨(hb.cell (p := ⟨p, 0, none⟩) jp).trans jp0, (hb.cell (p := ⟨p, 1, none⟩) jp).trans jp1, (hb.cell (p := ⟨p, 2, none⟩) jp).trans jp2, (hb.cell (p := ⟨p, 3, none⟩) jp).trans jp3, (hb.cell (p := ⟨p, 4, none⟩) jp).trans jp4, (hb.cell (p := ⟨x, 0, none⟩) jx).trans jx0, (hb.cell (p := ⟨x, 1, none⟩) jx).trans jx1, (hb.cell (p := ⟨x, 2, none⟩) jx).trans jx2, (hb.cell (p := ⟨x, 3, none⟩) jx).trans jx3, (hb.cell (p := ⟨x, 4, none⟩) jx).trans jx4, (hb.cell (p := ⟨y, 0, none⟩) jy).trans jy0, (hb.cell (p := ⟨y, 1, none⟩) jy).trans jy1, (hb.cell (p := ⟨y, 2, none⟩) jy).trans jy2, (hb.cell (p := ⟨y, 3, none⟩) jy).trans jy3, (hb.cell (p := ⟨y, 4, none⟩) jy).trans jy4, Lib.hid (jr.out.below hb), Lib.hid (thn jb.out hb), Nat.lt_of_lt_of_le jp hb.size, Nat.lt_of_lt_of_le jx hb.size, Nat.lt_of_lt_of_le jy hb.size⟩
  clear hb
  clear hK2 K2 hHeld
  have hHeld := hHeld2
  clear hHeld2
  try simp (maxSteps := 4000000) only [Act.put, List.setIfInBounds_toArray, List.set_cons_zero, List.set_cons_succ]
  refine wpAnyH_take (i := 1) (v := ?_) rfl (by kernel_rfl) (by kernel_rfl) (by kernel_rfl) (fun _ _ _ h => h) (Or.inl ⟨by kernel_rfl, ?_⟩) (by assumption) ?_
  rotate_left
  · (intro w hSw; (try dsimp only at hSw); (try have hTk := Hid.out HTAKE _ hSw); go_simp)
    try (with_reducible rfl)
  rotate_left
  try simp (maxSteps := 4000000) only [Act.put, List.setIfInBounds_toArray, List.set_cons_zero, List.set_cons_succ, List.getElem_toArray, List.getElem_cons_zero, List.getElem_cons_succ]
  refine wpAnyH_take (i := 2) (v := ?_) rfl (by kernel_rfl) (by kernel_rfl) (by kernel_rfl) (fun _ _ _ h => h) (Or.inl ⟨by kernel_rfl, ?_⟩) (by assumption) ?_
  rotate_left
  · (intro w hSw; (try dsimp only at hSw); (try have hTk := Hid.out HTAKE _ hSw); go_simp)
    try (with_reducible rfl)
  rotate_left
  try simp (maxSteps := 4000000) only [Act.put, List.setIfInBounds_toArray, List.set_cons_zero, List.set_cons_succ, List.getElem_toArray, List.getElem_cons_zero, List.getElem_cons_succ]
  refine wpAnyH_ready (rs := [3]) (by kernel_rfl) (by simp) ?_
  refine AllReadyH.cons rfl (fun K2 hK2 => ?_) AllReadyH.nil
  go_simp
  refine (hmay_is true _ _ _ _ _ _ HOK.out).mono ?_
  rintro e w9 ⟨rfl, hb⟩
  refine hK2.out _ _ ?_ (fun hHeld2 => ?_)
  · obtain ⟨jp0, jp1, jp2, jp3, jp4, jx0, jx1, jx2, jx3, jx4, jy0, jy1, jy2, jy3, jy4, jr, jb, jp, jx, jy⟩ := hHeld
    exact ⟨(hb.cell (p := ⟨p, 0, none⟩) jp).trans jp0, (hb.cell (p := ⟨p, 1, none⟩) jp).trans jp1, (hb.cell (p := ⟨p, 2, none⟩) jp).trans jp2, (hb.cell (p := ⟨p, 3, none⟩) jp).trans jp3, (hb.cell (p := ⟨p, 4, none⟩) jp).trans jp4, (hb.cell (p := ⟨x, 0, none⟩) jx).trans jx0, (hb.cell (p := ⟨x, 1, none⟩) jx).trans jx1, (hb.cell (p := ⟨x, 2, none⟩) jx).trans jx2, (hb.cell (p := ⟨x, 3, none⟩) jx).trans jx3, (hb.cell (p := ⟨x, 4, none⟩) jx).trans jx4, (hb.cell (p := ⟨y, 0, none⟩) jy).trans jy0, (hb.cell (p := ⟨y, 1, none⟩) jy).trans jy1, (hb.cell (p := ⟨y, 2, none⟩) jy).trans jy2, (hb.cell (p := ⟨y, 3, none⟩) jy).trans jy3, (hb.cell (p := ⟨y, 4, none⟩) jy).trans jy4, Lib.hid (jr.out.below hb), Lib.hid (thn jb.out hb), Nat.lt_of_lt_of_le jp hb.size, Nat.lt_of_lt_of_le jx hb.size, Nat.lt_of_lt_of_le jy hb.size⟩
  clear hb
  clear hK2 K2 hHeld
  have hHeld := hHeld2
  clear hHeld2
  try simp (maxSteps := 4000000) only [Act.put, List.setIfInBounds_toArray, List.set_cons_zero, List.set_cons_succ]
  refine wpAnyH_take (i := 4) (v := ?_) rfl (by kernel_rfl) (by kernel_rfl) (by kernel_rfl) (fun _ _ _ h => h) (Or.inl ⟨by kernel_rfl, ?_⟩) (by assumption) ?_
  rotate_left
  · (intro w hSw; (try dsimp only at hSw); (try have hTk := Hid.out HTAKE _ hSw); go_simp)
    try (with_reducible rfl)
  rotate_left
  try simp (maxSteps := 4000000) only [Act.put, List.setIfInBounds_toArray, List.set_cons_zero, List.set_cons_succ, List.getElem_toArray, List.getElem_cons_zero, List.getElem_cons_succ]
  refine wpAnyH_take (i := 5) (v := ?_) rfl (by kernel_rfl) (by kernel_rfl) (by kernel_rfl) (fun _ _ _ h => h) (Or.inl ⟨by kernel_rfl, ?_⟩) (by assumption) ?_
  rotate_left
  · (intro w hSw; (try dsimp only at hSw); (try have hTk := Hid.out HTAKE _ hSw); go_simp)
    try (with_reducible rfl)
  rotate_left
  try simp (maxSteps := 4000000) only [Act.put, List.setIfInBounds_toArray, List.set_cons_zero, List.set_cons_succ, List.getElem_toArray, List.getElem_cons_zero, List.getElem_cons_succ]
  refine wpAnyH_take (i := 6) (v := ?_) rfl (by kernel_rfl) (by kernel_rfl) (by kernel_rfl) (fun _ _ _ h => h) (Or.inl ⟨by kernel_rfl, ?_⟩) (by assumption) ?_
  rotate_left
  · (intro w hSw; (try dsimp only at hSw); (try have hTk := Hid.out HTAKE _ hSw); go_simp)
    try (with_reducible rfl)
  rotate_left
  try simp (maxSteps := 4000000) only [Act.put, List.setIfInBounds_toArray, List.set_cons_zero, List.set_cons_succ, List.getElem_toArray, List.getElem_cons_zero, List.getElem_cons_succ]
  refine wpAnyH_take (i := 7) (v := ?_) rfl (by kernel_rfl) (by kernel_rfl) (by kernel_rfl) (fun _ _ _ h => h) (Or.inl ⟨by kernel_rfl, ?_⟩) (by assumption) ?_
  rotate_left
  · (intro w hSw; (try dsimp only at hSw); (try have hTk := Hid.out HTAKE _ hSw); go_simp)
    try (with_reducible rfl)
  rotate_left
  try simp (maxSteps := 4000000) only [Act.put, List.setIfInBounds_toArray, List.set_cons_zero, List.set_cons_succ, List.getElem_toArray, List.getElem_cons_zero, List.getElem_cons_succ]
  refine wpAnyH_take (i := 8) (v := ?_) rfl (by kernel_rfl) (by kernel_rfl) (by kernel_rfl) (fun _ _ _ h => h) (Or.inl ⟨by kernel_rfl, ?_⟩) (by assumption) ?_
  rotate_left
  · (intro w hSw; (try dsimp only at hSw); (try have hTk := Hid.out HTAKE _ hSw); go_simp)
    try (with_reducible rfl)
  rotate_left
  try simp (maxSteps := 4000000) only [Act.put, List.setIfInBounds_toArray, List.set_cons_zero, List.set_cons_succ, List.getElem_toArray, List.getElem_cons_zero, List.getElem_cons_succ]
  refine wpAnyH_take (i := 9) (v := ?_) rfl (by kernel_rfl) (by kernel_rfl) (by kernel_rfl) (fun _ _ _ h => h) (Or.inl ⟨by kernel_rfl, ?_⟩) (by assumption) ?_
  rotate_left
  · (intro w hSw; (try dsimp only at hSw); (try have hTk := Hid.out HTAKE _ hSw); go_simp)
    try (with_reducible rfl)
  rotate_left
  try simp (maxSteps := 4000000) only [Act.put, List.setIfInBounds_toArray, List.set_cons_zero, List.set_cons_succ, List.getElem_toArray, List.getElem_cons_zero, List.getElem_cons_succ]
  refine wpAnyH_take (i := 10) (v := ?_) rfl (by kernel_rfl) (by kernel_rfl) (by kernel_rfl) (fun _ _ _ h => h) (Or.inl ⟨by kernel_rfl, ?_⟩) (by assumption) ?_
  rotate_left
  · (intro w hSw; (try dsimp only at hSw); (try have hTk := Hid.out HTAKE _ hSw); go_simp)
    try (with_reducible rfl)
  rotate_left
  try simp (maxSteps := 4000000) only [Act.put, List.setIfInBounds_toArray, List.set_cons_zero, List.set_cons_succ, List.getElem_toArray, List.getElem_cons_zero, List.getElem_cons_succ]
  refine wpAnyH_ready (rs := [11]) (by kernel_rfl) (by simp) ?_
  refine AllReadyH.cons rfl (fun K2 hK2 => ?_) AllReadyH.nil
  go_simp
  refine (rbytes key a1 S C T N E _ HBD.out.1 HBD.out.2.1 HBD.out.2.2.1 HBD.out.2.2.2.1 HBD.out.2.2.2.2 HK.out.1 HK.out.2).mono ?_
  rintro e w9 ⟨g2, c2, rfl, hr2, hb⟩
  have hcv := (conv_row hr2 c2).trans (by rw [HF.out, HS0.out])
  refine hK2.out _ _ ?_ (fun hHeld2 => ?_)
  · obtain ⟨jp0, jp1, jp2, jp3, jp4, jx0, jx1, jx2, jx3, jx4, jy0, jy1, jy2, jy3, jy4, jr, jb, jp, jx, jy⟩ := hHeld
    exact ⟨(hb.cell (p := ⟨p, 0, none⟩) jp).trans jp0, (hb.cell (p := ⟨p, 1, none⟩) jp).trans jp1, (hb.cell (p := ⟨p, 2, none⟩) jp).trans jp2, (hb.cell (p := ⟨p, 3, none⟩) jp).trans jp3, (hb.cell (p := ⟨p, 4, none⟩) jp).trans jp4, (hb.cell (p := ⟨x, 0, none⟩) jx).trans jx0, (hb.cell (p := ⟨x, 1, none⟩) jx).trans jx1, (hb.cell (p := ⟨x, 2, none⟩) jx).trans jx2, (hb.cell (p := ⟨x, 3, none⟩) jx).trans jx3, (hb.cell (p := ⟨x, 4, none⟩) jx).trans jx4, (hb.cell (p := ⟨y, 0, none⟩) jy).trans jy0, (hb.cell (p := ⟨y, 1, none⟩) jy).trans jy1, (hb.cell (p := ⟨y, 2, none⟩) jy).trans jy2, (hb.cell (p := ⟨y, 3, none⟩) jy).trans jy3, (hb.cell (p := ⟨y, 4, none⟩) jy).trans jy4, Lib.hid (jr.out.below hb), Lib.hid (thn jb.out hb), Nat.lt_of_lt_of_le jp hb.size, Nat.lt_of_lt_of_le jx hb.size, Nat.lt_of_lt_of_le jy hb.size⟩
  clear hb hr2
  clear hK2 K2 hHeld
  have hHeld := hHeld2
  clear hHeld2
  try simp (maxSteps := 4000000) only [Act.put, List.setIfInBounds_toArray, List.set_cons_zero, List.set_cons_succ]
  refine wpAnyH_ready (rs := [12]) (by kernel_rfl) (by simp) ?_
  refine AllReadyH.cons rfl (fun K2 hK2 => ?_) AllReadyH.nil
  go_simp
  refine hK2.out _ _ hHeld (fun hHeld2 => ?_)
  clear hK2 K2 hHeld
  have hHeld := hHeld2
  clear hHeld2
  try simp (maxSteps := 4000000) only [Act.put, List.setIfInBounds_toArray, List.set_cons_zero, List.set_cons_succ]
  clear hcv
  refine wpAnyH_take (i := 13) (v := ?_) rfl (by kernel_rfl) (by kernel_rfl) (by kernel_rfl) (fun _ _ _ h => h) (Or.inl ⟨by kernel_rfl, ?_⟩) (by assumption) ?_
  rotate_left
  · (intro w hSw; (try dsimp only at hSw); (try have hTk := Hid.out HTAKE _ hSw); go_simp)
    try (with_reducible rfl)
  rotate_left
  try simp (maxSteps := 4000000) only [Act.put, List.setIfInBounds_toArray, List.set_cons_zero, List.set_cons_succ, List.getElem_toArray, List.getElem_cons_zero, List.getElem_cons_succ]
  refine wpAnyH_take (i := 14) (v := ?_) rfl (by kernel_rfl) (by kernel_rfl) (by kernel_rfl) (fun _ _ _ h => h) (Or.inl ⟨by kernel_rfl, ?_⟩) (by assumption) ?_
  rotate_left
  · (intro w hSw; (try dsimp only at hSw); (try have hTk := Hid.out HTAKE _ hSw); go_simp)
    try (with_reducible rfl)
  rotate_left
  try simp (maxSteps := 4000000) only [Act.put, List.setIfInBounds_toArray, List.set_cons_zero, List.set_cons_succ, List.getElem_toArray, List.getElem_cons_zero, List.getElem_cons_succ]
  refine wpAnyH_take (i := 15) (v := ?_) rfl (by kernel_rfl) (by kernel_rfl) (by kernel_rfl) (fun _ _ _ h => h) (Or.inl ⟨by kernel_rfl, ?_⟩) (by assumption) ?_
  rotate_left
  · (intro w hSw; (try dsimp only at hSw); (try have hTk := Hid.out HTAKE _ hSw); go_simp)
    try (with_reducible rfl)
  rotate_left
  try simp (maxSteps := 4000000) only [Act.put, List.setIfInBounds_toArray, List.set_cons_zero, List.set_cons_succ, List.getElem_toArray, List.getElem_cons_zero, List.getElem_cons_succ]
  refine wpAnyH_take (i := 16) (v := ?_) rfl (by kernel_rfl) (by kernel_rfl) (by kernel_rfl) (fun _ _ _ h => h) (Or.inl ⟨by kernel_rfl, ?_⟩) (by assumption) ?_
  rotate_left
  · (intro w hSw; (try dsimp only at hSw); (try have hTk := Hid.out HTAKE _ hSw); go_simp)
    try (with_reducible rfl)
  rotate_left
  try simp (maxSteps := 4000000) only [Act.put, List.setIfInBounds_toArray, List.set_cons_zero, List.set_cons_succ, List.getElem_toArray, List.getElem_cons_zero, List.getElem_cons_succ]
  refine wpAnyH_take (i := 17) (v := ?_) rfl (by kernel_rfl) (by kernel_rfl) (by kernel_rfl) (fun _ _ _ h => h) (Or.inl ⟨by kernel_rfl, ?_⟩) (by assumption) ?_
  rotate_left
  · (intro w hSw; (try dsimp only at hSw); (try have hTk := Hid.out HTAKE _ hSw); go_simp)
    try (with_reducible rfl)
  rotate_left
  try simp (maxSteps := 4000000) only [Act.put, List.setIfInBounds_toArray, List.set_cons_zero, List.set_cons_succ, List.getElem_toArray, List.getElem_cons_zero, List.getElem_cons_succ]
  refine wpAnyH_take (i := 18) (v := ?_) rfl (by kernel_rfl) (by kernel_rfl) (by kernel_rfl) (fun _ _ _ h => h) (Or.inl ⟨by kernel_rfl, ?_⟩) (by assumption) ?_
  rotate_left
  · (intro w hSw; (try dsimp only at hSw); (try have hTk := Hid.out HTAKE _ hSw); go_simp)
    try (with_reducible rfl)
  rotate_left
  try simp (maxSteps := 4000000) only [Act.put, List.setIfInBounds_toArray, List.set_cons_zero, List.set_cons_succ, List.getElem_toArray, List.getElem_cons_zero, List.getElem_cons_succ]
  refine wpAnyH_take (i := 19) (v := ?_) rfl (by kernel_rfl) (by kernel_rfl) (by kernel_rfl) (fun _ _ _ h => h) (Or.inl ⟨by kernel_rfl, ?_⟩) (by assumption) ?_
  rotate_left
  · (intro w hSw; (try dsimp only at hSw); (try have hTk := Hid.out HTAKE _ hSw); go_simp)
    try (with_reducible rfl)
  rotate_left
  try simp (maxSteps := 4000000) only [Act.put, List.setIfInBounds_toArray, List.set_cons_zero, List.set_cons_succ, List.getElem_toArray, List.getElem_cons_zero, List.getElem_cons_succ]
  refine wpAnyH_take (i := 20) (v := ?_) rfl (by kernel_rfl) (by kernel_rfl) (by kernel_rfl) (fun _ _ _ h => h) (Or.inl ⟨by kernel_rfl, ?_⟩) (by assumption) ?_
  rotate_left
  · (intro w hSw; (try dsimp only at hSw); (try have hTk := Hid.out HTAKE _ hSw); go_simp)
    try (with_reducible rfl)
  rotate_left
  try simp (maxSteps := 4000000) only [Act.put, List.setIfInBounds_toArray, List.set_cons_zero, List.set_cons_succ, List.getElem_toArray, List.getElem_cons_zero, List.getElem_cons_succ]
  refine wpAnyH_take (i := 21) (v := ?_) rfl (by kernel_rfl) (by kernel_rfl) (by kernel_rfl) (fun _ _ _ h => h) (Or.inl ⟨by kernel_rfl, ?_⟩) (by assumption) ?_
  rotate_left
  · (intro w hSw; (try dsimp only at hSw); (try have hTk := Hid.out HTAKE _ hSw); go_simp)
    try (with_reducible rfl)
  rotate_left
  try simp (maxSteps := 4000000) only [Act.put, List.setIfInBounds_toArray, List.set_cons_zero, List.set_cons_succ, List.getElem_toArray, List.getElem_cons_zero, List.getElem_cons_succ]
  refine wpAnyH_take (i := 22) (v := ?_) rfl (by kernel_rfl) (by kernel_rfl) (by kernel_rfl) (fun _ _ _ h => h) (Or.inl ⟨by kernel_rfl, ?_⟩) (by assumption) ?_
  rotate_left
  · (intro w hSw; (try dsimp only at hSw); (try have hTk := Hid.out HTAKE _ hSw); go_simp)
    try (with_reducible rfl)
  rotate_left
  try simp (maxSteps := 4000000) only [Act.put, List.setIfInBounds_toArray, List.set_cons_zero, List.set_cons_succ, List.getElem_toArray, List.getElem_cons_zero, List.getElem_cons_succ]
  refine wpAnyH_take (i := 23) (v := ?_) rfl (by kernel_rfl) (by kernel_rfl) (by kernel_rfl) (fun _ _ _ h => h) (Or.inl ⟨by kernel_rfl, ?_⟩) (by assumption) ?_
  rotate_left
  · (intro w hSw; (try dsimp only at hSw); (try have hTk := Hid.out HTAKE _ hSw); go_simp)
    try (with_reducible rfl)
  rotate_left
  try simp (maxSteps := 4000000) only [Act.put, List.setIfInBounds_toArray, List.set_cons_zero, List.set_cons_succ, List.getElem_toArray, List.getElem_cons_zero, List.getElem_cons_succ]
  refine wpAnyH_take (i := 24) (v := ?_) rfl (by kernel_rfl) (by kernel_rfl) (by kernel_rfl) (fun _ _ _ h => h) (Or.inl ⟨by kernel_rfl, ?_⟩) (by assumption) ?_
  rotate_left
  · (intro w hSw; (try dsimp only at hSw); (try have hTk := Hid.out HTAKE _ hSw); go_simp)
    try (with_reducible rfl)
  rotate_left
  try simp (maxSteps := 4000000) only [Act.put, List.setIfInBounds_toArray, List.set_cons_zero, List.set_cons_succ, List.getElem_toArray, List.getElem_cons_zero, List.getElem_cons_succ]
  refine wpAnyH_take (i := 25) (v := ?_) rfl (by kernel_rfl) (by kernel_rfl) (by kernel_rfl) (fun _ _ _ h => h) (Or.inl ⟨by kernel_rfl, ?_⟩) (by assumption) ?_
  rotate_left
  · (intro w hSw; (try dsimp only at hSw); (try have hTk := Hid.out HTAKE _ hSw); go_simp)
    try (with_reducible rfl)
  rotate_left
  try simp (maxSteps := 4000000) only [Act.put, List.setIfInBounds_toArray, List.set_cons_zero, List.set_cons_succ, List.getElem_toArray, List.getElem_cons_zero, List.getElem_cons_succ]
  refine wpAnyH_take (i := 26) (v := ?_) rfl (by kernel_rfl) (by kernel_rfl) (by kernel_rfl) (fun _ _ _ h => h) (Or.inl ⟨by kernel_rfl, ?_⟩) (by assumption) ?_
  rotate_left
  · (intro w hSw; (try dsimp only at hSw); (try have hTk := Hid.out HTAKE _ hSw); go_simp)
    try (with_reducible rfl)
  rotate_left
  try simp (maxSteps := 4000000) only [Act.put, List.setIfInBounds_toArray, List.set_cons_zero, List.set_cons_succ, List.getElem_toArray, List.getElem_cons_zero, List.getElem_cons_succ]
  refine wpAnyH_take (i := 27) (v := ?_) rfl (by kernel_rfl) (by kernel_rfl) (by kernel_rfl) (fun _ _ _ h => h) (Or.inl ⟨by kernel_rfl, ?_⟩) (by assumption) ?_
  rotate_left
  · (intro w hSw; (try dsimp only at hSw); (try have hTk := Hid.out HTAKE _ hSw); go_simp)
    try (with_reducible rfl)
  rotate_left
  try simp (maxSteps := 4000000) only [Act.put, List.setIfInBounds_toArray, List.set_cons_zero, List.set_cons_succ, List.getElem_toArray, List.getElem_cons_zero, List.getElem_cons_succ]
  refine wpAnyH_ready (rs := [28]) (by kernel_rfl) (by simp) ?_
  refine AllReadyH.cons rfl (fun K2 hK2 => ?_) AllReadyH.nil
  go_simp
  refine (sealed_is true key a1 g 16 f _ hHeld.2.2.2.2.2.2.2.2.2.2.2.2.2.2.2.1.out HFL.out (by omega) HK.out.1 HK.out.2 HSB.out).mono ?_
  rintro e w9 ⟨rfl, hb⟩
  refine hK2.out _ _ ?_ (fun hHeld2 => ?_)
  · obtain ⟨jp0, jp1, jp2, jp3, jp4, jx0, jx1, jx2, jx3, jx4, jy0, jy1, jy2, jy3, jy4, jr, jb, jp, jx, jy⟩ := hHeld
    exact ⟨(hb.cell (p := ⟨p, 0, none⟩) jp).trans jp0, (hb.cell (p := ⟨p, 1, none⟩) jp).trans jp1, (hb.cell (p := ⟨p, 2, none⟩) jp).trans jp2, (hb.cell (p := ⟨p, 3, none⟩) jp).trans jp3, (hb.cell (p := ⟨p, 4, none⟩) jp).trans jp4, (hb.cell (p := ⟨x, 0, none⟩) jx).trans jx0, (hb.cell (p := ⟨x, 1, none⟩) jx).trans jx1, (hb.cell (p := ⟨x, 2, none⟩) jx).trans jx2, (hb.cell (p := ⟨x, 3, none⟩) jx).trans jx3, (hb.cell (p := ⟨x, 4, none⟩) jx).trans jx4, (hb.cell (p := ⟨y, 0, none⟩) jy).trans jy0, (hb.cell (p := ⟨y, 1, none⟩) jy).trans jy1, (hb.cell (p := ⟨y, 2, none⟩) jy).trans jy2, (hb.cell (p := ⟨y, 3, none⟩) jy).trans jy3, (hb.cell (p := ⟨y, 4, none⟩) jy).trans jy4, Lib.hid (jr.out.below hb), Lib.hid (thn jb.out hb), Nat.lt_of_lt_of_le jp hb.size, Nat.lt_of_lt_of_le jx hb.size, Nat.lt_of_lt_of_le jy hb.size⟩
  clear hb
  clear hK2 K2 hHeld
  have hHeld := hHeld2
  clear hHeld2
  try simp (maxSteps := 4000000) only [Act.put, List.setIfInBounds_toArray, List.set_cons_zero, List.set_cons_succ]
  refine wpAnyH_take (i := 29) (v := ?_) rfl (by kernel_rfl) (by kernel_rfl) (by kernel_rfl) (fun _ _ _ h => h) (Or.inl ⟨by kernel_rfl, ?_⟩) (by assumption) ?_
  rotate_left
  · (intro w hSw; (try dsimp only at hSw); (try have hTk := Hid.out HTAKE _ hSw); go_simp)
    try (with_reducible rfl)
  rotate_left
  try simp (maxSteps := 4000000) only [Act.put, List.setIfInBounds_toArray, List.set_cons_zero, List.set_cons_succ, List.getElem_toArray, List.getElem_cons_zero, List.getElem_cons_succ]
  refine wpAnyH_take (i := 30) (v := ?_) rfl (by kernel_rfl) (by kernel_rfl) (by kernel_rfl) (fun _ _ _ h => h) (Or.inl ⟨by kernel_rfl, ?_⟩) (by assumption) ?_
  rotate_left
  · (intro w hSw; (try dsimp only at hSw); (try have hTk := Hid.out HTAKE _ hSw); go_simp)
    try (with_reducible rfl)
  rotate_left
  try simp (maxSteps := 4000000) only [Act.put, List.setIfInBounds_toArray, List.set_cons_zero, List.set_cons_succ, List.getElem_toArray, List.getElem_cons_zero, List.getElem_cons_succ]
  refine wpAnyH_take (i := 31) (v := ?_) rfl (by kernel_rfl) (by kernel_rfl) (by kernel_rfl) (fun _ _ _ h => h) (Or.inl ⟨by kernel_rfl, ?_⟩) (by assumption) ?_
  rotate_left
  · (intro w hSw; (try dsimp only at hSw); (try have hTk := Hid.out HTAKE _ hSw); go_simp)
    try (with_reducible rfl)
  rotate_left
  try simp (maxSteps := 4000000) only [Act.put, List.setIfInBounds_toArray, List.set_cons_zero, List.set_cons_succ, List.getElem_toArray, List.getElem_cons_zero, List.getElem_cons_succ]
  refine wpAnyH_take (i := 33) (v := ?_) rfl (by kernel_rfl) (by kernel_rfl) (by kernel_rfl) (fun _ _ _ h => h) (Or.inl ⟨by kernel_rfl, ?_⟩) (by assumption) ?_
  rotate_left
  · (intro w hSw; (try dsimp only at hSw); (try have hTk := Hid.out HTAKE _ hSw); go_simp)
    try (with_reducible rfl)
  rotate_left
  try simp (maxSteps := 4000000) only [Act.put, List.setIfInBounds_toArray, List.set_cons_zero, List.set_cons_succ, List.getElem_toArray, List.getElem_cons_zero, List.getElem_cons_succ]
  refine wpAnyH_ready (rs := [32]) (by kernel_rfl) (by simp) ?_
  refine AllReadyH.cons rfl (fun K2 hK2 => ?_) AllReadyH.nil
  go_simp
  refine (hmay_is r _ _ _ _ _ _ HRR.out).mono ?_
  rintro e w9 ⟨rfl, hb⟩
  refine hK2.out _ _ ?_ (fun hHeld2 => ?_)
  · obtain ⟨jp0, jp1, jp2, jp3, jp4, jx0, jx1, jx2, jx3, jx4, jy0, jy1, jy2, jy3, jy4, jr, jb, jp, jx, jy⟩ := hHeld
    exact ⟨(hb.cell (p := ⟨p, 0, none⟩) jp).trans jp0, (hb.cell (p := ⟨p, 1, none⟩) jp).trans jp1, (hb.cell (p := ⟨p, 2, none⟩) jp).trans jp2, (hb.cell (p := ⟨p, 3, none⟩) jp).trans jp3, (hb.cell (p := ⟨p, 4, none⟩) jp).trans jp4, (hb.cell (p := ⟨x, 0, none⟩) jx).trans jx0, (hb.cell (p := ⟨x, 1, none⟩) jx).trans jx1, (hb.cell (p := ⟨x, 2, none⟩) jx).trans jx2, (hb.cell (p := ⟨x, 3, none⟩) jx).trans jx3, (hb.cell (p := ⟨x, 4, none⟩) jx).trans jx4, (hb.cell (p := ⟨y, 0, none⟩) jy).trans jy0, (hb.cell (p := ⟨y, 1, none⟩) jy).trans jy1, (hb.cell (p := ⟨y, 2, none⟩) jy).trans jy2, (hb.cell (p := ⟨y, 3, none⟩) jy).trans jy3, (hb.cell (p := ⟨y, 4, none⟩) jy).trans jy4, Lib.hid (jr.out.below hb), Lib.hid (thn jb.out hb), Nat.lt_of_lt_of_le jp hb.size, Nat.lt_of_lt_of_le jx hb.size, Nat.lt_of_lt_of_le jy hb.size⟩
  clear hb
  clear hK2 K2 hHeld
  have hHeld := hHeld2
  clear hHeld2
  try simp (maxSteps := 4000000) only [Act.put, List.setIfInBounds_toArray, List.set_cons_zero, List.set_cons_succ]
  refine wpAnyH_ready (rs := [34]) (by kernel_rfl) (by simp) ?_
  refine AllReadyH.cons rfl (fun K2 hK2 => ?_) AllReadyH.nil
  go_simp
  refine (rhmay_is r _ _ _ _ _ _ HRR.out).mono ?_
  rintro e w9 ⟨rfl, hb⟩
  refine hK2.out _ _ ?_ (fun hHeld2 => ?_)
  · obtain ⟨jp0, jp1, jp2, jp3, jp4, jx0, jx1, jx2, jx3, jx4, jy0, jy1, jy2, jy3, jy4, jr, jb, jp, jx, jy⟩ := hHeld
    exact ⟨(hb.cell (p := ⟨p, 0, none⟩) jp).trans jp0, (hb.cell (p := ⟨p, 1, none⟩) jp).trans jp1, (hb.cell (p := ⟨p, 2, none⟩) jp).trans jp2, (hb.cell (p := ⟨p, 3, none⟩) jp).trans jp3, (hb.cell (p := ⟨p, 4, none⟩) jp).trans jp4, (hb.cell (p := ⟨x, 0, none⟩) jx).trans jx0, (hb.cell (p := ⟨x, 1, none⟩) jx).trans jx1, (hb.cell (p := ⟨x, 2, none⟩) jx).trans jx2, (hb.cell (p := ⟨x, 3, none⟩) jx).trans jx3, (hb.cell (p := ⟨x, 4, none⟩) jx).trans jx4, (hb.cell (p := ⟨y, 0, none⟩) jy).trans jy0, (hb.cell (p := ⟨y, 1, none⟩) jy).trans jy1, (hb.cell (p := ⟨y, 2, none⟩) jy).trans jy2, (hb.cell (p := ⟨y, 3, none⟩) jy).trans jy3, (hb.cell (p := ⟨y, 4, none⟩) jy).trans jy4, Lib.hid (jr.out.below hb), Lib.hid (thn jb.out hb), Nat.lt_of_lt_of_le jp hb.size, Nat.lt_of_lt_of_le jx hb.size, Nat.lt_of_lt_of_le jy hb.size⟩
  clear hb
  clear hK2 K2 hHeld
  have hHeld := hHeld2
  clear hHeld2
  try simp (maxSteps := 4000000) only [Act.put, List.setIfInBounds_toArray, List.set_cons_zero, List.set_cons_succ]
  refine wpAnyH_take (i := 35) (v := ?_) rfl (by kernel_rfl) (by kernel_rfl) (by kernel_rfl) (fun _ _ _ h => h) (Or.inl ⟨by kernel_rfl, ?_⟩) (by assumption) ?_
  rotate_left
  · (intro w hSw; (try dsimp only at hSw); (try have hTk := Hid.out HTAKE _ hSw); go_simp)
    try (with_reducible rfl)
  rotate_left
  try simp (maxSteps := 4000000) only [Act.put, List.setIfInBounds_toArray, List.set_cons_zero, List.set_cons_succ, List.getElem_toArray, List.getElem_cons_zero, List.getElem_cons_succ]
  refine wpAnyH_take (i := 36) (v := ?_) rfl (by kernel_rfl) (by kernel_rfl) (by kernel_rfl) (fun _ _ _ h => h) (Or.inl ⟨by kernel_rfl, ?_⟩) (by assumption) ?_
  rotate_left
  · (intro w hSw; (try dsimp only at hSw); (try have hTk := Hid.out HTAKE _ hSw); go_simp)
    try (with_reducible rfl)
  rotate_left
  try simp (maxSteps := 4000000) only [Act.put, List.setIfInBounds_toArray, List.set_cons_zero, List.set_cons_succ, List.getElem_toArray, List.getElem_cons_zero, List.getElem_cons_succ]
  refine wpAnyH_take (i := 37) (v := ?_) rfl (by kernel_rfl) (by kernel_rfl) (by kernel_rfl) (fun _ _ _ h => h) (Or.inl ⟨by kernel_rfl, ?_⟩) (by assumption) ?_
  rotate_left
  · (intro w hSw; (try dsimp only at hSw); (try have hTk := Hid.out HTAKE _ hSw); go_simp)
    try (with_reducible rfl)
  rotate_left
  try simp (maxSteps := 4000000) only [Act.put, List.setIfInBounds_toArray, List.set_cons_zero, List.set_cons_succ, List.getElem_toArray, List.getElem_cons_zero, List.getElem_cons_succ]
  refine wpAnyH_take (i := 38) (v := ?_) rfl (by kernel_rfl) (by kernel_rfl) (by kernel_rfl) (fun _ _ _ h => h) (Or.inl ⟨by kernel_rfl, ?_⟩) (by assumption) ?_
  rotate_left
  · (intro w hSw; (try dsimp only at hSw); (try have hTk := Hid.out HTAKE _ hSw); go_simp)
    try (with_reducible rfl)
  rotate_left
  try simp (maxSteps := 4000000) only [Act.put, List.setIfInBounds_toArray, List.set_cons_zero, List.set_cons_succ, List.getElem_toArray, List.getElem_cons_zero, List.getElem_cons_succ]
  refine wpAnyH_take (i := 39) (v := ?_) rfl (by kernel_rfl) (by kernel_rfl) (by kernel_rfl) (fun _ _ _ h => h) (Or.inl ⟨by kernel_rfl, ?_⟩) (by assumption) ?_
  rotate_left
  · (intro w hSw; (try dsimp only at hSw); (try have hTk := Hid.out HTAKE _ hSw); go_simp)
    try (with_reducible rfl)
  rotate_left
  try simp (maxSteps := 4000000) only [Act.put, List.setIfInBounds_toArray, List.set_cons_zero, List.set_cons_succ, List.getElem_toArray, List.getElem_cons_zero, List.getElem_cons_succ]
  refine wpAnyH_take (i := 40) (v := ?_) rfl (by kernel_rfl) (by kernel_rfl) (by kernel_rfl) (fun _ _ _ h => h) (Or.inl ⟨by kernel_rfl, ?_⟩) (by assumption) ?_
  rotate_left
  · (intro w hSw; (try dsimp only at hSw); (try have hTk := Hid.out HTAKE _ hSw); go_simp)
    try (with_reducible rfl)
  rotate_left
  try simp (maxSteps := 4000000) only [Act.put, List.setIfInBounds_toArray, List.set_cons_zero, List.set_cons_succ, List.getElem_toArray, List.getElem_cons_zero, List.getElem_cons_succ]
  refine wpAnyH_take (i := 44) (v := ?_) rfl (by kernel_rfl) (by kernel_rfl) (by kernel_rfl) (fun _ _ _ h => h) (Or.inl ⟨by kernel_rfl, ?_⟩) (by assumption) ?_
  rotate_left
  · (intro w hSw; (try dsimp only at hSw); (try have hTk := Hid.out HTAKE _ hSw); go_simp)
    try (with_reducible rfl)
  rotate_left
  try simp (maxSteps := 4000000) only [Act.put, List.setIfInBounds_toArray, List.set_cons_zero, List.set_cons_succ, List.getElem_toArray, List.getElem_cons_zero, List.getElem_cons_succ]
  refine wpAnyH_ready (rs := [41]) (by kernel_rfl) (by simp) ?_
  refine AllReadyH.cons rfl (fun K2 hK2 => ?_) AllReadyH.nil
  go_simp
  refine (hbytes_any key a1 _ _ _ _ _ _ r HRR.out HK.out.1 HK.out.2).mono ?_
  rintro e w9 ⟨A2, c2, rfl, hb⟩
  refine hK2.out _ _ ?_ (fun hHeld2 => ?_)
  · obtain ⟨jp0, jp1, jp2, jp3, jp4, jx0, jx1, jx2, jx3, jx4, jy0, jy1, jy2, jy3, jy4, jr, jb, jp, jx, jy⟩ := hHeld
    exact ⟨(hb.cell (p := ⟨p, 0, none⟩) jp).trans jp0, (hb.cell (p := ⟨p, 1, none⟩) jp).trans jp1, (hb.cell (p := ⟨p, 2, none⟩) jp).trans jp2, (hb.cell (p := ⟨p, 3, none⟩) jp).trans jp3, (hb.cell (p := ⟨p, 4, none⟩) jp).trans jp4, (hb.cell (p := ⟨x, 0, none⟩) jx).trans jx0, (hb.cell (p := ⟨x, 1, none⟩) jx).trans jx1, (hb.cell (p := ⟨x, 2, none⟩) jx).trans jx2, (hb.cell (p := ⟨x, 3, none⟩) jx).trans jx3, (hb.cell (p := ⟨x, 4, none⟩) jx).trans jx4, (hb.cell (p := ⟨y, 0, none⟩) jy).trans jy0, (hb.cell (p := ⟨y, 1, none⟩) jy).trans jy1, (hb.cell (p := ⟨y, 2, none⟩) jy).trans jy2, (hb.cell (p := ⟨y, 3, none⟩) jy).trans jy3, (hb.cell (p := ⟨y, 4, none⟩) jy).trans jy4, Lib.hid (jr.out.below hb), Lib.hid (thn jb.out hb), Nat.lt_of_lt_of_le jp hb.size, Nat.lt_of_lt_of_le jx hb.size, Nat.lt_of_lt_of_le jy hb.size⟩
  clear hb
  clear hK2 K2 hHeld
  have hHeld := hHeld2
  clear hHeld2
  try simp (maxSteps := 4000000) only [Act.put, List.setIfInBounds_toArray, List.set_cons_zero, List.set_cons_succ]
  refine wpAnyH_take (i := 42) (v := ?_) rfl (by kernel_rfl) (by kernel_rfl) (by kernel_rfl) (fun _ _ _ h => h) (Or.inl ⟨by kernel_rfl, ?_⟩) (by assumption) ?_
  rotate_left
  · (intro w hSw; (try dsimp only at hSw); (try have hTk := Hid.out HTAKE _ hSw); go_simp)
    try (with_reducible rfl)
  rotate_left
  try simp (maxSteps := 4000000) only [Act.put, List.setIfInBounds_toArray, List.set_cons_zero, List.set_cons_succ, List.getElem_toArray, List.getElem_cons_zero, List.getElem_cons_succ]
  refine wpAnyH_take (i := 43) (v := ?_) rfl (by kernel_rfl) (by kernel_rfl) (by kernel_rfl) (fun _ _ _ h => h) (Or.inl ⟨by kernel_rfl, ?_⟩) (by assumption) ?_
  rotate_left
  · (intro w hSw; (try dsimp only at hSw); (try have hTk := Hid.out HTAKE _ hSw); go_simp)
    try (with_reducible rfl)
  rotate_left
  try simp (maxSteps := 4000000) only [Act.put, List.setIfInBounds_toArray, List.set_cons_zero, List.set_cons_succ, List.getElem_toArray, List.getElem_cons_zero, List.getElem_cons_succ]
  refine wpAnyH_ready (rs := [45]) (by kernel_rfl) (by simp) ?_
  refine AllReadyH.cons rfl (fun K2 hK2 => ?_) AllReadyH.nil
  go_simp
  refine (rhmay_is r _ _ _ _ _ _ HRR.out).mono ?_
  rintro e w9 ⟨rfl, hb⟩
  refine hK2.out _ _ ?_ (fun hHeld2 => ?_)
  · obtain ⟨jp0, jp1, jp2, jp3, jp4, jx0, jx1, jx2, jx3, jx4, jy0, jy1, jy2, jy3, jy4, jr, jb, jp, jx, jy⟩ := hHeld
    exact ⟨(hb.cell (p := ⟨p, 0, none⟩) jp).trans jp0, (hb.cell (p := ⟨p, 1, none⟩) jp).trans jp1, (hb.cell (p := ⟨p, 2, none⟩) jp).trans jp2, (hb.cell (p := ⟨p, 3, none⟩) jp).trans jp3, (hb.cell (p := ⟨p, 4, none⟩) jp).trans jp4, (hb.cell (p := ⟨x, 0, none⟩) jx).trans jx0, (hb.cell (p := ⟨x, 1, none⟩) jx).trans jx1, (hb.cell (p := ⟨x, 2, none⟩) jx).trans jx2, (hb.cell (p := ⟨x, 3, none⟩) jx).trans jx3, (hb.cell (p := ⟨x, 4, none⟩) jx).trans jx4, (hb.cell (p := ⟨y, 0, none⟩) jy).trans jy0, (hb.cell (p := ⟨y, 1, none⟩) jy).trans jy1, (hb.cell (p := ⟨y, 2, none⟩) jy).trans jy2, (hb.cell (p := ⟨y, 3, none⟩) jy).trans jy3, (hb.cell (p := ⟨y, 4, none⟩) jy).trans jy4, Lib.hid (jr.out.below hb), Lib.hid (thn jb.out hb), Nat.lt_of_lt_of_le jp hb.size, Nat.lt_of_lt_of_le jx hb.size, Nat.lt_of_lt_of_le jy hb.size⟩
  clear hb
  clear hK2 K2 hHeld
  have hHeld := hHeld2
  clear hHeld2
  try simp (maxSteps := 4000000) only [Act.put, List.setIfInBounds_toArray, List.set_cons_zero, List.set_cons_succ]
  refine wpAnyH_take (i := 46) (v := ?_) rfl (by kernel_rfl) (by kernel_rfl) (by kernel_rfl) (fun _ _ _ h => h) (Or.inl ⟨by kernel_rfl, ?_⟩) (by assumption) ?_
  rotate_left
  · (intro w hSw; (try dsimp only at hSw); (try have hTk := Hid.out HTAKE _ hSw); go_simp)
    try (with_reducible rfl)
  rotate_left
  try simp (maxSteps := 4000000) only [Act.put, List.setIfInBounds_toArray, List.set_cons_zero, List.set_cons_succ, List.getElem_toArray, List.getElem_cons_zero, List.getElem_cons_succ]
  refine wpAnyH_take (i := 47) (v := ?_) rfl (by kernel_rfl) (by kernel_rfl) (by kernel_rfl) (fun _ _ _ h => h) (Or.inl ⟨by kernel_rfl, ?_⟩) (by assumption) ?_
  rotate_left
  · (intro w hSw; (try dsimp only at hSw); (try have hTk := Hid.out HTAKE _ hSw); go_simp)
    try (with_reducible rfl)
  rotate_left
  try simp (maxSteps := 4000000) only [Act.put, List.setIfInBounds_toArray, List.set_cons_zero, List.set_cons_succ, List.getElem_toArray, List.getElem_cons_zero, List.getElem_cons_succ]
  refine wpAnyH_take (i := 48) (v := ?_) rfl (by kernel_rfl) (by kernel_rfl) (by kernel_rfl) (fun _ _ _ h => h) (Or.inl ⟨by kernel_rfl, ?_⟩) (by assumption) ?_
  rotate_left
  · (intro w hSw; (try dsimp only at hSw); (try have hTk := Hid.out HTAKE _ hSw); go_simp)
    try (with_reducible rfl)
  rotate_left
  try simp (maxSteps := 4000000) only [Act.put, List.setIfInBounds_toArray, List.set_cons_zero, List.set_cons_succ, List.getElem_toArray, List.getElem_cons_zero, List.getElem_cons_succ]
  refine wpAnyH_done (by kernel_rfl) ?_ _
  all_goals go_wp2
  all_goals go_ret
  all_goals exact ⟨ret_bool (by first | (cases r <;> simp; done) | (cases r <;> simp_all; done)), hHeld.2.2.2.2.2.2.2.2.2.2.2.2.2.2.2.2.1.out⟩
theorem walkHeadBack (a0 : Int) (a1 : Int) (a2_0 : Int) (a2_1 : Int) (a2_2 : Int) (a2_3 : Int) (a2_4 : Int) (w : World) (w0 : (Lit.int .u64 a0).wf = true) (w1 : (Lit.int .i64 a1).wf = true) (w2_0 : (Lit.int .i64 a2_0).wf = true) (w2_1 : (Lit.int .i64 a2_1).wf = true) (w2_2 : (Lit.int .i64 a2_2).wf = true) (w2_3 : (Lit.int .i64 a2_3).wf = true) (w2_4 : (Lit.int .i64 a2_4).wf = true) :
    Calls Try.prog 7 #[.int .u64 a0, .int .i64 a1, .agg #[.int .i64 a2_0, .int .i64 a2_1, .int .i64 a2_2, .int .i64 a2_3, .int .i64 a2_4]] w fun e w' => e = .returned (.bool true) ∧ Below w.heap.size w w' := by
  exact walkHeadBackX a0 a1 a2_0 a2_1 a2_2 a2_3 a2_4 w (bounds_u64 w0).1 (bounds_u64 w0).2
end Go.Proofs.Ytcknbbffeeldpaa
