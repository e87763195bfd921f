/- Headers as the reference makes them: Head, Bytes. -/
import Derived.Test.YtgidnmjeifgciaaDoorHeadC
import Derived.Test.YtgidnmjeifgciaaDoorCodeB
namespace Go.Proofs.YtgidnmjeifgciaaDoor
set_option maxRecDepth 100000
open Go.RowKit
set_option linter.unusedVariables false
set_option linter.unusedSimpArgs false

theorem cells4_new (W : World) (a b c d : Value) (T : TypeId) : ∀ j u, [a, b, c, d][j]? = some u → (W.alloc (.cells #[a, b, c, d] T)).cell? ((⟨W.heap.size, 0, none⟩ : Addr).add j) = some u := by
  intro j u hu
  have hadd : (⟨W.heap.size, 0, none⟩ : Addr).add j = ⟨W.heap.size, j, none⟩ := by unfold Addr.add; split <;> simp_all
  rw [hadd, World.cell?_alloc_mark]
  simpa using hu
theorem cells2_new (W : World) (a b : Value) (T : TypeId) : ∀ j u, [a, b][j]? = some u → (W.alloc (.cells #[a, b] T)).cell? ((⟨W.heap.size, 0, none⟩ : Addr).add j) = some u := by
  intro j u hu
  have hadd : (⟨W.heap.size, 0, none⟩ : Addr).add j = ⟨W.heap.size, j, none⟩ := by unfold Addr.add; split <;> simp_all
  rw [hadd, World.cell?_alloc_mark]
  simpa using hu
/-- Any header that may be, of any numbers. -/
theorem rhead_any (s c t n e : Int) (w : World) :
    Calls Tryd.prog 44 #[.agg #[.int .i64 s, .int .i64 c, .int .i64 t, .int .i64 n, .int .i64 e]] w fun e' w' => ∃ S C T N E : Nat, e' = .returned (.agg #[.int .i64 S, .int .i64 C, .int .i64 T, .int .i64 N, .int .i64 E]) ∧ headOkB S C T N E = true ∧ Below w.heap.size w w' := by
  have e1 := and255 c
  have e2 := and255 s
  have e3 := and15 t
  have e4 := and24 n
  have e5 := and24 e
  have q1 : 0 ≤ c % 256 ∧ c % 256 < 256 := by omega
  have q2 : 0 ≤ s % 256 ∧ s % 256 < 256 := by omega
  obtain ⟨C, hC⟩ : ∃ C : Nat, c % 256 = C := ⟨(c % 256).toNat, by omega⟩
  obtain ⟨S, hS⟩ : ∃ S : Nat, s % 256 = S := ⟨(s % 256).toNat, by omega⟩
  obtain ⟨T, hT⟩ : ∃ T : Nat, t % 16 = T := ⟨(t % 16).toNat, by omega⟩
  obtain ⟨N, hN⟩ : ∃ N : Nat, n % 16777216 = N := ⟨(n % 16777216).toNat, by omega⟩
  obtain ⟨E, hE⟩ : ∃ E : Nat, e % 16777216 = E := ⟨(e % 16777216).toNat, by omega⟩
  rw [hC] at e1 q1; rw [hS] at e2 q2; rw [hT] at e3; rw [hN] at e4; rw [hE] at e5
  have r1 : (C : Int).tmod 21 = ((C % 21 : Nat) : Int) := by rw [Int.tmod_eq_emod_of_nonneg (by omega)]; omega
  have r2 : (S : Int).tmod 3 = ((S % 3 : Nat) : Int) := by rw [Int.tmod_eq_emod_of_nonneg (by omega)]; omega
  have r1' : (C : Int) % 21 = ((C % 21 : Nat) : Int) := by omega
  have r2' : (S : Int) % 3 = ((S % 3 : Nat) : Int) := by omega
  have hT2 : T < 16 := by omega
  have hN2 : N < 16777216 := by omega
  have hE2 : E < 16777216 := by omega
  obtain ⟨C2, hC2⟩ : ∃ C2, C % 21 = C2 := ⟨_, rfl⟩
  obtain ⟨S2, hS2⟩ : ∃ S2, S % 3 = S2 := ⟨_, rfl⟩
  have hC3 : C2 < 21 := by omega
  have hS3 : S2 < 3 := by omega
  rw [hC2] at r1 r1'; rw [hS2] at r2 r2'
  have hw : IntKind.i64.wrap ((S2 : Int) + 1) = (S2 : Int) + 1 := IntWalk.i64_in _ (by omega)
  clear hC hS hT hN hE hC2 hS2 q1 q2
  go_enter Tryd.func44, Tryd.ntmps44
  by_cases h20 : C2 = 20
  · have h20' : (C2 : Int) = 20 := by omega
    rw [h20'] at r1 r1'
    clear h20'
    go_wp2
    refine bodyPost_ret (v := .agg #[.int .i64 ((S2 + 1 : Nat) : Int), .int .i64 ((63 : Nat) : Int), .int .i64 T, .int .i64 N, .int .i64 E]) (by simp [results, Tryd.results44, go_sem]) rfl ⟨S2 + 1, 63, T, N, E, rfl, by simp [headOkB]; omega, ?_⟩
    exact alc (alc0 _ _) _
  · have h20' : ¬ (C2 : Int) = 20 := by omega
    go_wp2
    refine bodyPost_ret (v := .agg #[.int .i64 ((S2 + 1 : Nat) : Int), .int .i64 (C2 : Int), .int .i64 T, .int .i64 N, .int .i64 E]) (by simp [results, Tryd.results44, go_sem]) rfl ⟨S2 + 1, C2, T, N, E, rfl, by simp [headOkB]; omega, ?_⟩
    exact alc (alc0 _ _) _
/-- Two ints at block z. -/
def At2 (z : Nat) (W : World) (n0 n1 : Int) : Prop := z < W.heap.size ∧ W.cell? ⟨z, 0, none⟩ = some (.int .i64 n0) ∧ W.cell? ⟨z, 1, none⟩ = some (.int .i64 n1)
theorem At2.keep {z : Nat} {W W' : World} {n0 n1 : Int} (h : At2 z W n0 n1) (hs : W.heap.size ≤ W'.heap.size) (hk : W'.heap[z]? = W.heap[z]?) : At2 z W' n0 n1 := by
  obtain ⟨h0, h1, h2⟩ := h
  have e : ∀ o, W'.cell? ⟨z, o, none⟩ = W.cell? ⟨z, o, none⟩ := fun o => World.cell?_of_block hk
  exact ⟨Nat.lt_of_lt_of_le h0 hs, (e 0).trans h1, (e 1).trans h2⟩
theorem At2.new (W : World) (n0 n1 : Int) (T : TypeId) : At2 W.heap.size (W.alloc (.cells #[.int .i64 n0, .int .i64 n1] T)) n0 n1 := by
  refine ⟨by simp, by simp, by simp⟩
def HN (i s c t : Nat) (T0 T1 : List Nat) : List Nat := match i with
  | 0 => [72, s, c, t]
  | 1 => [72, s, c, t] ++ T0
  | _ => [72, s, c, t] ++ T0 ++ T1
def HL (i s c t : Nat) (T0 T1 : List Nat) : List Value := u8s (HN i s c t T0 T1)
theorem hn_all (s c t n e : Nat) : HN 2 s c t (three n) (three e) ++ [0, 0, 0, 0] = (List.range 14).map (headC s c t n e) := by
  have hd : ∀ y, y < 4 → headC s c t n e y = headS s c t 4 y := fun y hy => by unfold headC; rw [put3_out (by omega), put3_out (by omega)]
  have hn : ∀ y, 4 ≤ y → y < 7 → headC s c t n e y = n / 256 ^ (y - 4) % 256 := fun y h1 h2 => by unfold headC; rw [put3_out (by omega), put3_in (by omega)]
  have he : ∀ y, 7 ≤ y → y < 10 → headC s c t n e y = e / 256 ^ (y - 7) % 256 := fun y h1 h2 => by unfold headC; rw [put3_in (by omega)]
  have hh : ∀ y, 10 ≤ y → headC s c t n e y = 0 := fun y h1 => by unfold headC; rw [put3_out (by omega), put3_out (by omega)]; unfold headS; rw [if_neg (by omega)]
  rw [show List.range 14 = [0, 1, 2, 3, 4, 5, 6, 7, 8, 9, 10, 11, 12, 13] from rfl]
  simp only [List.map_cons, List.map_nil, hd 0 (by omega), hd 1 (by omega), hd 2 (by omega), hd 3 (by omega), hn 4 (by omega) (by omega), hn 5 (by omega) (by omega), hn 6 (by omega) (by omega), he 7 (by omega) (by omega), he 8 (by omega) (by omega), he 9 (by omega) (by omega), hh 10 (by omega), hh 11 (by omega), hh 12 (by omega), hh 13 (by omega)]
  simp [HN, three, headS]
set_option maxRecDepth 8000 in
set_option maxHeartbeats 4000000 in
theorem rbytes (key at_ : Int) (s c t n e : Nat) (w : World) (hs : s < 256) (hc : c < 256) (ht : t < 256) (hn : n < 16777216) (he : e < 16777216) (hk0 : 0 ≤ key) (hk1 : key < 18446744073709551616) :
    Calls Tryd.prog 47 #[.int .u64 key, .int .i64 at_, .agg #[.int .i64 s, .int .i64 c, .int .i64 t, .int .i64 n, .int .i64 e]] w fun e' w' => ∃ g cap, e' = .returned (.slice (some ⟨g, 0, none⟩) 16 cap) ∧ RowU g 16 w' (headF key at_ s c t n e) ∧ Below w.heap.size w w' := by
  obtain ⟨i0, hi, hz0, hz1, hz2⟩ := info_parts infoU8c
  have HL0 := Lib.hid (headC_lt n e hs hc ht)
  have HK := Lib.hid (And.intro hk0 hk1)
  have hw1 : IntKind.u8.wrap (s : Int) = s := by rw [IntKind.wrap_u8]; omega
  have hw2 : IntKind.u8.wrap (c : Int) = c := by rw [IntKind.wrap_u8]; omega
  have hw3 : IntKind.u8.wrap (t : Int) = t := by rw [IntKind.wrap_u8]; omega
  obtain ⟨X00, Y0, X01, X02, hN0, hT0⟩ := num3 n hn
  obtain ⟨X10, Y1, X11, X12, hN1, hT1⟩ := num3 e he
  have HNS := Lib.hid (And.intro hN0 hN1)
  have HTS := Lib.hid (And.intro hT0 hT1)
  clear hs hc ht hn he hk0 hk1 hN0 hN1 hT0 hT1
  go_enter Tryd.func47, Tryd.ntmps47
  go_upto_region 2 with (fail)
  have HX1 := Lib.hid ((HeadAt.new w s c t n e 83).below (alc0 _ (.cells #[.int .u8 72, .int .u8 s, .int .u8 c, .int .u8 t] 5)))
  have HQ1 := Lib.hid (World.ownsRow_lit (base := w.heap.size) (e := 5) (size := 1) (w.alloc (.cells #[.int .i64 s, .int .i64 c, .int .i64 t, .int .i64 n, .int .i64 e] 83)) #[.int .u8 72, .int .u8 s, .int .u8 c, .int .u8 t] 4 (by simp) (by decide) rfl)
  have HB1 := Lib.hid (alc (alc0 w (.cells #[.int .i64 s, .int .i64 c, .int .i64 t, .int .i64 n, .int .i64 e] 83)) (.cells #[.int .u8 72, .int .u8 s, .int .u8 c, .int .u8 t] 5))
  have hs1 : (w.alloc (.cells #[.int .i64 s, .int .i64 c, .int .i64 t, .int .i64 n, .int .i64 e] 83)).heap.size < ((w.alloc (.cells #[.int .i64 s, .int .i64 c, .int .i64 t, .int .i64 n, .int .i64 e] 83)).alloc (.cells #[.int .u8 72, .int .u8 s, .int .u8 c, .int .u8 t] 5)).heap.size := by simp
  obtain ⟨q0, hq0⟩ : ∃ q0, (w.alloc (.cells #[.int .i64 s, .int .i64 c, .int .i64 t, .int .i64 n, .int .i64 e] 83)).heap.size = q0 := ⟨_, rfl⟩
  obtain ⟨W1, hW1⟩ : ∃ W1, (w.alloc (.cells #[.int .i64 s, .int .i64 c, .int .i64 t, .int .i64 n, .int .i64 e] 83)).alloc (.cells #[.int .u8 72, .int .u8 s, .int .u8 c, .int .u8 t] 5) = W1 := ⟨_, rfl⟩
  have hq0' : w.heap.size + 1 = q0 := by rw [← hq0]; simp
  rw [hW1] at HX1 HQ1 HB1 hs1 ⊢
  rw [hq0] at HQ1 hs1
  rw [hq0']
  clear hW1 hq0 hq0'
  obtain ⟨_, k0, k1, k2, k3, k4, kf⟩ := HX1.out
  go_upto_region 3 with (fail)
  have HA := Lib.hid (At2.new W1 n e 81)
  have HQ2 := Lib.hid (HQ1.out.alloc (.cells #[.int .i64 n, .int .i64 e] 81))
  have HB2 := Lib.hid (alc HB1.out (.cells #[.int .i64 n, .int .i64 e] 81))
  have hs2 : W1.heap.size < (W1.alloc (.cells #[.int .i64 n, .int .i64 e] 81)).heap.size := by simp
  obtain ⟨z, hz⟩ : ∃ z, W1.heap.size = z := ⟨_, rfl⟩
  obtain ⟨W2, hW2⟩ : ∃ W2, W1.alloc (.cells #[.int .i64 n, .int .i64 e] 81) = W2 := ⟨_, rfl⟩
  rw [hW2] at HA HQ2 HB2 hs2 ⊢
  rw [hz] at HA hs1 hs2 ⊢
  clear hW2 hz k0 k1 k2 k3 k4 kf HX1 HQ1 HB1
  have HQ3 : Hid (W2.ownsRow w.heap.size 5 1 (.slice (some ⟨q0, 0, none⟩) 4 4) 4 (HL 0 s c t [X00, X01, X02] [X10, X11, X12])) := Lib.hid (by exact HQ2.out)
  clear HQ2 hw1 hw2 hw3
  go_wp2_with fail
  go_loopw [7, 9] (fun v7 v9 wr => ∃ (i q ca m : Nat), i ≤ 2 ∧ m = 4 + 3 * i ∧ v9 = .int .i64 (i : Nat) ∧ v7 = .slice (some ⟨q, 0, none⟩) m ca ∧ Hid (wr.ownsRow w.heap.size 5 1 (.slice (some ⟨q, 0, none⟩) m ca) m (HL i s c t [X00, X01, X02] [X10, X11, X12])) ∧ q ≠ z ∧ q < wr.heap.size ∧ Hid (At2 z wr n e) ∧ Hid (Below w.heap.size w wr)) (fun _ v9 _ => 2 - (intOf v9).toNat)
  case atStart => exact ⟨0, q0, 4, 4, by omega, by omega, rfl, rfl, HQ3, by omega, by omega, HA, HB2⟩
  case round =>
    clear HQ3 HA HB2 hs1 hs2
    obtain ⟨i, q, ca, m, hi3, hm, rfl, rfl, HO, hqz, hqs, HA, HBr⟩ := hrel
    obtain ⟨_, c0, c1⟩ := HA.out
    obtain ⟨⟨ea1, ea2, ea3, ea4, ea5, ea6, ea7, ea8, ea9, ea10, ea11, ea12, ea13⟩, ⟨eb1, eb2, eb3, eb4, eb5, eb6, eb7, eb8, eb9, eb10, eb11, eb12, eb13⟩⟩ := HNS.out
    have hi4 : i = 0 ∨ i = 1 ∨ i = 2 := by omega
    rcases hi4 with rfl | rfl | rfl
    · as_aux_lemma =>
      obtain rfl : m = 4 := by omega
      clear hm
      go_upto_region 6 with (fail)
      have HOd : Hid (wr.drew.ownsRow w.heap.size 5 1 (.slice (some ⟨q, 0, none⟩) 4 ca) 4 (HL 0 s c t [X00, X01, X02] [X10, X11, X12])) := Lib.hid HO.out.drew
      have hzd0 := HA.out.1
      have HAd := Lib.hid (HA.out.keep (Nat.le_refl _) rfl : At2 z wr.drew n e)
      have HBd := Lib.hid HBr.out.drew
      have hqd : q < wr.drew.heap.size := hqs
      obtain ⟨wd, hwd⟩ : ∃ wd, wr.drew = wd := ⟨_, rfl⟩
      refine wp_region_held_drew (S := fun w' => w'.cell? ⟨z, 0, none⟩ = some (.int .i64 n) ∧ w'.cell? ⟨z, 1, none⟩ = some (.int .i64 e)) (by kernel_rfl) ⟨c0, c1⟩ (fun hHeld => ?_)
      rw [hwd] at HOd HAd HBd hqd hHeld ⊢
      have hzd := HAd.out.1
      clear hwd HO HA HBr hqs c0 c1 hzd0
      refine wpAnyH_take (i := 0) (v := ?_) rfl (by kernel_rfl) (by kernel_rfl) (by kernel_rfl) (fun _ _ _ h => h) (Or.inl ⟨by kernel_rfl, ?_⟩) (by assumption) ?_
      rotate_left
      · (intro w hSw; (try dsimp only at hSw); go_simp)
        try (with_reducible rfl)
      rotate_left
      try simp (maxSteps := 4000000) only [Act.put, List.setIfInBounds_toArray, List.set_cons_zero, List.set_cons_succ, List.getElem_toArray, List.getElem_cons_zero, List.getElem_cons_succ]
      refine wpAnyH_take (i := 1) (v := ?_) rfl (by kernel_rfl) (by kernel_rfl) (by kernel_rfl) (fun _ _ _ h => h) (Or.inl ⟨by kernel_rfl, ?_⟩) (by assumption) ?_
      rotate_left
      · (intro w hSw; (try dsimp only at hSw); go_simp)
        try (with_reducible rfl)
      rotate_left
      try simp (maxSteps := 4000000) only [Act.put, List.setIfInBounds_toArray, List.set_cons_zero, List.set_cons_succ, List.getElem_toArray, List.getElem_cons_zero, List.getElem_cons_succ]
      refine wpAnyH_take (i := 2) (v := ?_) rfl (by kernel_rfl) (by kernel_rfl) (by kernel_rfl) (fun _ _ _ h => h) (Or.inl ⟨by kernel_rfl, ?_⟩) (by assumption) ?_
      rotate_left
      · (intro w hSw; (try dsimp only at hSw); go_simp)
        try (with_reducible rfl)
      rotate_left
      try simp (maxSteps := 4000000) only [Act.put, List.setIfInBounds_toArray, List.set_cons_zero, List.set_cons_succ, List.getElem_toArray, List.getElem_cons_zero, List.getElem_cons_succ]
      refine wpAnyH_take (i := 3) (v := ?_) rfl (by kernel_rfl) (by kernel_rfl) (by kernel_rfl) (fun _ _ _ h => h) (Or.inl ⟨by kernel_rfl, ?_⟩) (by assumption) ?_
      rotate_left
      · (intro w hSw; (try dsimp only at hSw); go_simp)
        try (with_reducible rfl)
      rotate_left
      try simp (maxSteps := 4000000) only [Act.put, List.setIfInBounds_toArray, List.set_cons_zero, List.set_cons_succ, List.getElem_toArray, List.getElem_cons_zero, List.getElem_cons_succ]
      refine wpAnyH_take (i := 4) (v := ?_) rfl (by kernel_rfl) (by kernel_rfl) (by kernel_rfl) (fun _ _ _ h => h) (Or.inl ⟨by kernel_rfl, ?_⟩) (by assumption) ?_
      rotate_left
      · (intro w hSw; (try dsimp only at hSw); go_simp)
        try (with_reducible rfl)
      rotate_left
      try simp (maxSteps := 4000000) only [Act.put, List.setIfInBounds_toArray, List.set_cons_zero, List.set_cons_succ, List.getElem_toArray, List.getElem_cons_zero, List.getElem_cons_succ]
      refine wpAnyH_take (i := 5) (v := ?_) rfl (by kernel_rfl) (by kernel_rfl) (by kernel_rfl) (fun _ _ _ h => h) (Or.inl ⟨by kernel_rfl, ?_⟩) (by assumption) ?_
      rotate_left
      · (intro w hSw; (try dsimp only at hSw); go_simp)
        try (with_reducible rfl)
      rotate_left
      try simp (maxSteps := 4000000) only [Act.put, List.setIfInBounds_toArray, List.set_cons_zero, List.set_cons_succ, List.getElem_toArray, List.getElem_cons_zero, List.getElem_cons_succ]
      refine wpAnyH_take (i := 6) (v := ?_) rfl (by kernel_rfl) (by kernel_rfl) (by kernel_rfl) (fun _ _ _ h => h) (Or.inl ⟨by kernel_rfl, ?_⟩) (by assumption) ?_
      rotate_left
      · (intro w hSw; (try dsimp only at hSw); go_simp)
        try (with_reducible rfl)
      rotate_left
      try simp (maxSteps := 4000000) only [Act.put, List.setIfInBounds_toArray, List.set_cons_zero, List.set_cons_succ, List.getElem_toArray, List.getElem_cons_zero, List.getElem_cons_succ]
      refine wpAnyH_take (i := 7) (v := ?_) rfl (by kernel_rfl) (by kernel_rfl) (by kernel_rfl) (fun _ _ _ h => h) (Or.inl ⟨by kernel_rfl, ?_⟩) (by assumption) ?_
      rotate_left
      · (intro w hSw; (try dsimp only at hSw); go_simp)
        try (with_reducible rfl)
      rotate_left
      try simp (maxSteps := 4000000) only [Act.put, List.setIfInBounds_toArray, List.set_cons_zero, List.set_cons_succ, List.getElem_toArray, List.getElem_cons_zero, List.getElem_cons_succ]
      refine wpAnyH_take (i := 8) (v := ?_) rfl (by kernel_rfl) (by kernel_rfl) (by kernel_rfl) (fun _ _ _ h => h) (Or.inl ⟨by kernel_rfl, ?_⟩) (by assumption) ?_
      rotate_left
      · (intro w hSw; (try dsimp only at hSw); go_simp)
        try (with_reducible rfl)
      rotate_left
      try simp (maxSteps := 4000000) only [Act.put, List.setIfInBounds_toArray, List.set_cons_zero, List.set_cons_succ, List.getElem_toArray, List.getElem_cons_zero, List.getElem_cons_succ]
      refine wpAnyH_take (i := 9) (v := ?_) rfl (by kernel_rfl) (by kernel_rfl) (by kernel_rfl) (fun _ _ _ h => h) (Or.inl ⟨by kernel_rfl, ?_⟩) (by assumption) ?_
      rotate_left
      · (intro w hSw; (try dsimp only at hSw); go_simp)
        try (with_reducible rfl)
      rotate_left
      try simp (maxSteps := 4000000) only [Act.put, List.setIfInBounds_toArray, List.set_cons_zero, List.set_cons_succ, List.getElem_toArray, List.getElem_cons_zero, List.getElem_cons_succ]
      refine wpAnyH_take (i := 10) (v := ?_) rfl (by kernel_rfl) (by kernel_rfl) (by kernel_rfl) (fun _ _ _ h => h) (Or.inl ⟨by kernel_rfl, ?_⟩) (by assumption) ?_
      rotate_left
      · (intro w hSw; (try dsimp only at hSw); go_simp)
        try (with_reducible rfl)
      rotate_left
      try simp (maxSteps := 4000000) only [Act.put, List.setIfInBounds_toArray, List.set_cons_zero, List.set_cons_succ, List.getElem_toArray, List.getElem_cons_zero, List.getElem_cons_succ]
      refine wpAnyH_take (i := 11) (v := ?_) rfl (by kernel_rfl) (by kernel_rfl) (by kernel_rfl) (fun _ _ _ h => h) (Or.inl ⟨by kernel_rfl, ?_⟩) (by assumption) ?_
      rotate_left
      · (intro w hSw; (try dsimp only at hSw); go_simp)
        try (with_reducible rfl)
      rotate_left
      try simp (maxSteps := 4000000) only [Act.put, List.setIfInBounds_toArray, List.set_cons_zero, List.set_cons_succ, List.getElem_toArray, List.getElem_cons_zero, List.getElem_cons_succ]
      refine wpAnyH_take (i := 12) (v := ?_) rfl (by kernel_rfl) (by kernel_rfl) (by kernel_rfl) (fun _ _ _ h => h) (Or.inl ⟨by kernel_rfl, ?_⟩) (by assumption) ?_
      rotate_left
      · (intro w hSw; (try dsimp only at hSw); go_simp)
        try (with_reducible rfl)
      rotate_left
      try simp (maxSteps := 4000000) only [Act.put, List.setIfInBounds_toArray, List.set_cons_zero, List.set_cons_succ, List.getElem_toArray, List.getElem_cons_zero, List.getElem_cons_succ]
      refine wpAnyH_take (i := 13) (v := ?_) rfl (by kernel_rfl) (by kernel_rfl) (by kernel_rfl) (fun _ _ _ h => h) (Or.inl ⟨by kernel_rfl, ?_⟩) (by assumption) ?_
      rotate_left
      · (intro w hSw; (try dsimp only at hSw); go_simp)
        try (with_reducible rfl)
      rotate_left
      try simp (maxSteps := 4000000) only [Act.put, List.setIfInBounds_toArray, List.set_cons_zero, List.set_cons_succ, List.getElem_toArray, List.getElem_cons_zero, List.getElem_cons_succ]
      refine wpAnyH_take (i := 14) (v := ?_) rfl (by kernel_rfl) (by kernel_rfl) (by kernel_rfl) (fun _ _ _ h => h) (Or.inl ⟨by kernel_rfl, ?_⟩) (by assumption) ?_
      rotate_left
      · (intro w hSw; (try dsimp only at hSw); go_simp)
        try (with_reducible rfl)
      rotate_left
      try simp (maxSteps := 4000000) only [Act.put, List.setIfInBounds_toArray, List.set_cons_zero, List.set_cons_succ, List.getElem_toArray, List.getElem_cons_zero, List.getElem_cons_succ]
      refine wpAnyH_take (i := 15) (v := ?_) rfl (by kernel_rfl) (by kernel_rfl) (by kernel_rfl) (fun _ _ _ h => h) (Or.inl ⟨by kernel_rfl, ?_⟩) (by assumption) ?_
      rotate_left
      · (intro w hSw; (try dsimp only at hSw); go_simp)
        try (with_reducible rfl)
      rotate_left
      try simp (maxSteps := 4000000) only [Act.put, List.setIfInBounds_toArray, List.set_cons_zero, List.set_cons_succ, List.getElem_toArray, List.getElem_cons_zero, List.getElem_cons_succ]
      refine wpAnyH_take (i := 16) (v := ?_) rfl (by kernel_rfl) (by kernel_rfl) (by kernel_rfl) (fun _ _ _ h => h) (Or.inl ⟨by kernel_rfl, ?_⟩) (by assumption) ?_
      rotate_left
      · (intro w hSw; (try dsimp only at hSw); go_simp)
        try (with_reducible rfl)
      rotate_left
      try simp (maxSteps := 4000000) only [Act.put, List.setIfInBounds_toArray, List.set_cons_zero, List.set_cons_succ, List.getElem_toArray, List.getElem_cons_zero, List.getElem_cons_succ]
      refine wpAnyH_ready (rs := [17]) (by kernel_rfl) (by simp) ?_
      refine AllReadyH.cons rfl (fun K2 hK2 => ?_) AllReadyH.nil
      go_simp
      refine hK2.out _ _ ⟨(World.cell?_alloc_lt _ _ _ (show z < _ from hzd)).trans hHeld.1, (World.cell?_alloc_lt _ _ _ (show z < _ from hzd)).trans hHeld.2⟩ (fun hHeld2 => ?_)
      clear hK2 K2 hHeld
      have hHeld := hHeld2
      clear hHeld2
      try simp (maxSteps := 4000000) only [Act.put, List.setIfInBounds_toArray, List.set_cons_zero, List.set_cons_succ]
      refine wpAnyH_ready (rs := [18]) (by kernel_rfl) (by simp) ?_
      refine AllReadyH.cons rfl (fun K2 hK2 => ?_) AllReadyH.nil
      refine step_append_lies _ rfl _ _ 35 rfl w.heap.size 5 i0 (.int .u8 0) 1 1 Tryd.underlying35 hi hz0 hz1 hz2 rfl (by decide) (.slice (some ⟨q, 0, none⟩) 4 ca) 4 (HL 0 s c t [X00, X01, X02] [X10, X11, X12]) rfl (HOd.out.alloc _) ⟨wd.heap.size, 0, none⟩ 3 3 [.int .u8 (X00 : Int), .int .u8 (X01 : Int), .int .u8 (X02 : Int)] rfl rfl ?_ ?_ (by omega) ?_ ?_ ?_ _ rfl ?_
      · exact cells3_new _ _ _ _ _
      · simp [Value.oneCell']
      · decide
      · omega
      · have := HBd.out.size; simp; omega
      intro q' ca' w' hown hgrow hat hlt
      have hq' : q' = q ∨ q' = wd.heap.size + 1 := by
        rcases hat with h | h
        · exact .inl (Option.some.inj (show some q = some q' from h)).symm
        · right; rw [h]; simp
      have HAn := Lib.hid ((HAd.out.keep (W' := wd.alloc (.cells #[.int .u8 (X00 : Int), .int .u8 (X01 : Int), .int .u8 (X02 : Int)] 5)) (by simp) ((alc0 wd _).block z hzd)).keep (W' := w') hgrow.size (hgrow.block z (by simp; omega) (fun e => hqz (Option.some.inj e).symm)))
      have HBn := Lib.hid ((alc HBd.out _).grown hgrow (by have := HBd.out.size; simp; omega) (fun j hj => (HOd.out.lt j hj).1))
      have hown' : Hid (w'.ownsRow w.heap.size 5 1 (.slice (some ⟨q', 0, none⟩) 7 ca') 7 (HL 1 s c t [X00, X01, X02] [X10, X11, X12])) := Lib.hid (by exact hown)
      clear hown hgrow hat HAd HBd HOd
      refine hK2.out _ _ HAn.out.2 (fun hHeld2 => ?_)
      clear hK2 K2 hHeld
      have hHeld := hHeld2
      clear hHeld2
      try simp (maxSteps := 4000000) only [Act.put, List.setIfInBounds_toArray, List.set_cons_zero, List.set_cons_succ]
      refine wpAnyH_take (i := 19) (v := ?_) rfl (by kernel_rfl) (by kernel_rfl) (by kernel_rfl) (fun _ _ _ h => h) (Or.inl ⟨by kernel_rfl, ?_⟩) (by assumption) ?_
      rotate_left
      · (intro w hSw; (try dsimp only at hSw); go_simp)
        try (with_reducible rfl)
      rotate_left
      try simp (maxSteps := 4000000) only [Act.put, List.setIfInBounds_toArray, List.set_cons_zero, List.set_cons_succ, List.getElem_toArray, List.getElem_cons_zero, List.getElem_cons_succ]
      refine wpAnyH_done (by kernel_rfl) ?_ _
      go_wp2_with fail
      go_roundw
      case rel => exact ⟨1, q', ca', 7, by omega, by omega, rfl, rfl, hown', by omega, hlt, HAn, HBn⟩
      case measure => simp [intOf]
    · as_aux_lemma =>
      obtain rfl : m = 7 := by omega
      clear hm
      go_upto_region 6 with (fail)
      have HOd : Hid (wr.drew.ownsRow w.heap.size 5 1 (.slice (some ⟨q, 0, none⟩) 7 ca) 7 (HL 1 s c t [X00, X01, X02] [X10, X11, X12])) := Lib.hid HO.out.drew
      have hzd0 := HA.out.1
      have HAd := Lib.hid (HA.out.keep (Nat.le_refl _) rfl : At2 z wr.drew n e)
      have HBd := Lib.hid HBr.out.drew
      have hqd : q < wr.drew.heap.size := hqs
      obtain ⟨wd, hwd⟩ : ∃ wd, wr.drew = wd := ⟨_, rfl⟩
      refine wp_region_held_drew (S := fun w' => w'.cell? ⟨z, 0, none⟩ = some (.int .i64 n) ∧ w'.cell? ⟨z, 1, none⟩ = some (.int .i64 e)) (by kernel_rfl) ⟨c0, c1⟩ (fun hHeld => ?_)
      rw [hwd] at HOd HAd HBd hqd hHeld ⊢
      have hzd := HAd.out.1
      clear hwd HO HA HBr hqs c0 c1 hzd0
      refine wpAnyH_take (i := 0) (v := ?_) rfl (by kernel_rfl) (by kernel_rfl) (by kernel_rfl) (fun _ _ _ h => h) (Or.inl ⟨by kernel_rfl, ?_⟩) (by assumption) ?_
      rotate_left
      · (intro w hSw; (try dsimp only at hSw); go_simp)
        try (with_reducible rfl)
      rotate_left
      try simp (maxSteps := 4000000) only [Act.put, List.setIfInBounds_toArray, List.set_cons_zero, List.set_cons_succ, List.getElem_toArray, List.getElem_cons_zero, List.getElem_cons_succ]
      refine wpAnyH_take (i := 1) (v := ?_) rfl (by kernel_rfl) (by kernel_rfl) (by kernel_rfl) (fun _ _ _ h => h) (Or.inl ⟨by kernel_rfl, ?_⟩) (by assumption) ?_
      rotate_left
      · (intro w hSw; (try dsimp only at hSw); go_simp)
        try (with_reducible rfl)
      rotate_left
      try simp (maxSteps := 4000000) only [Act.put, List.setIfInBounds_toArray, List.set_cons_zero, List.set_cons_succ, List.getElem_toArray, List.getElem_cons_zero, List.getElem_cons_succ]
      refine wpAnyH_take (i := 2) (v := ?_) rfl (by kernel_rfl) (by kernel_rfl) (by kernel_rfl) (fun _ _ _ h => h) (Or.inl ⟨by kernel_rfl, ?_⟩) (by assumption) ?_
      rotate_left
      · (intro w hSw; (try dsimp only at hSw); go_simp)
        try (with_reducible rfl)
      rotate_left
      try simp (maxSteps := 4000000) only [Act.put, List.setIfInBounds_toArray, List.set_cons_zero, List.set_cons_succ, List.getElem_toArray, List.getElem_cons_zero, List.getElem_cons_succ]
      refine wpAnyH_take (i := 3) (v := ?_) rfl (by kernel_rfl) (by kernel_rfl) (by kernel_rfl) (fun _ _ _ h => h) (Or.inl ⟨by kernel_rfl, ?_⟩) (by assumption) ?_
      rotate_left
      · (intro w hSw; (try dsimp only at hSw); go_simp)
        try (with_reducible rfl)
      rotate_left
      try simp (maxSteps := 4000000) only [Act.put, List.setIfInBounds_toArray, List.set_cons_zero, List.set_cons_succ, List.getElem_toArray, List.getElem_cons_zero, List.getElem_cons_succ]
      refine wpAnyH_take (i := 4) (v := ?_) rfl (by kernel_rfl) (by kernel_rfl) (by kernel_rfl) (fun _ _ _ h => h) (Or.inl ⟨by kernel_rfl, ?_⟩) (by assumption) ?_
      rotate_left
      · (intro w hSw; (try dsimp only at hSw); go_simp)
        try (with_reducible rfl)
      rotate_left
      try simp (maxSteps := 4000000) only [Act.put, List.setIfInBounds_toArray, List.set_cons_zero, List.set_cons_succ, List.getElem_toArray, List.getElem_cons_zero, List.getElem_cons_succ]
      refine wpAnyH_take (i := 5) (v := ?_) rfl (by kernel_rfl) (by kernel_rfl) (by kernel_rfl) (fun _ _ _ h => h) (Or.inl ⟨by kernel_rfl, ?_⟩) (by assumption) ?_
      rotate_left
      · (intro w hSw; (try dsimp only at hSw); go_simp)
        try (with_reducible rfl)
      rotate_left
      try simp (maxSteps := 4000000) only [Act.put, List.setIfInBounds_toArray, List.set_cons_zero, List.set_cons_succ, List.getElem_toArray, List.getElem_cons_zero, List.getElem_cons_succ]
      refine wpAnyH_take (i := 6) (v := ?_) rfl (by kernel_rfl) (by kernel_rfl) (by kernel_rfl) (fun _ _ _ h => h) (Or.inl ⟨by kernel_rfl, ?_⟩) (by assumption) ?_
      rotate_left
      · (intro w hSw; (try dsimp only at hSw); go_simp)
        try (with_reducible rfl)
      rotate_left
      try simp (maxSteps := 4000000) only [Act.put, List.setIfInBounds_toArray, List.set_cons_zero, List.set_cons_succ, List.getElem_toArray, List.getElem_cons_zero, List.getElem_cons_succ]
      refine wpAnyH_take (i := 7) (v := ?_) rfl (by kernel_rfl) (by kernel_rfl) (by kernel_rfl) (fun _ _ _ h => h) (Or.inl ⟨by kernel_rfl, ?_⟩) (by assumption) ?_
      rotate_left
      · (intro w hSw; (try dsimp only at hSw); go_simp)
        try (with_reducible rfl)
      rotate_left
      try simp (maxSteps := 4000000) only [Act.put, List.setIfInBounds_toArray, List.set_cons_zero, List.set_cons_succ, List.getElem_toArray, List.getElem_cons_zero, List.getElem_cons_succ]
      refine wpAnyH_take (i := 8) (v := ?_) rfl (by kernel_rfl) (by kernel_rfl) (by kernel_rfl) (fun _ _ _ h => h) (Or.inl ⟨by kernel_rfl, ?_⟩) (by assumption) ?_
      rotate_left
      · (intro w hSw; (try dsimp only at hSw); go_simp)
        try (with_reducible rfl)
      rotate_left
      try simp (maxSteps := 4000000) only [Act.put, List.setIfInBounds_toArray, List.set_cons_zero, List.set_cons_succ, List.getElem_toArray, List.getElem_cons_zero, List.getElem_cons_succ]
      refine wpAnyH_take (i := 9) (v := ?_) rfl (by kernel_rfl) (by kernel_rfl) (by kernel_rfl) (fun _ _ _ h => h) (Or.inl ⟨by kernel_rfl, ?_⟩) (by assumption) ?_
      rotate_left
      · (intro w hSw; (try dsimp only at hSw); go_simp)
        try (with_reducible rfl)
      rotate_left
      try simp (maxSteps := 4000000) only [Act.put, List.setIfInBounds_toArray, List.set_cons_zero, List.set_cons_succ, List.getElem_toArray, List.getElem_cons_zero, List.getElem_cons_succ]
      refine wpAnyH_take (i := 10) (v := ?_) rfl (by kernel_rfl) (by kernel_rfl) (by kernel_rfl) (fun _ _ _ h => h) (Or.inl ⟨by kernel_rfl, ?_⟩) (by assumption) ?_
      rotate_left
      · (intro w hSw; (try dsimp only at hSw); go_simp)
        try (with_reducible rfl)
      rotate_left
      try simp (maxSteps := 4000000) only [Act.put, List.setIfInBounds_toArray, List.set_cons_zero, List.set_cons_succ, List.getElem_toArray, List.getElem_cons_zero, List.getElem_cons_succ]
      refine wpAnyH_take (i := 11) (v := ?_) rfl (by kernel_rfl) (by kernel_rfl) (by kernel_rfl) (fun _ _ _ h => h) (Or.inl ⟨by kernel_rfl, ?_⟩) (by assumption) ?_
      rotate_left
      · (intro w hSw; (try dsimp only at hSw); go_simp)
        try (with_reducible rfl)
      rotate_left
      try simp (maxSteps := 4000000) only [Act.put, List.setIfInBounds_toArray, List.set_cons_zero, List.set_cons_succ, List.getElem_toArray, List.getElem_cons_zero, List.getElem_cons_succ]
      refine wpAnyH_take (i := 12) (v := ?_) rfl (by kernel_rfl) (by kernel_rfl) (by kernel_rfl) (fun _ _ _ h => h) (Or.inl ⟨by kernel_rfl, ?_⟩) (by assumption) ?_
      rotate_left
      · (intro w hSw; (try dsimp only at hSw); go_simp)
        try (with_reducible rfl)
      rotate_left
      try simp (maxSteps := 4000000) only [Act.put, List.setIfInBounds_toArray, List.set_cons_zero, List.set_cons_succ, List.getElem_toArray, List.getElem_cons_zero, List.getElem_cons_succ]
      refine wpAnyH_take (i := 13) (v := ?_) rfl (by kernel_rfl) (by kernel_rfl) (by kernel_rfl) (fun _ _ _ h => h) (Or.inl ⟨by kernel_rfl, ?_⟩) (by assumption) ?_
      rotate_left
      · (intro w hSw; (try dsimp only at hSw); go_simp)
        try (with_reducible rfl)
      rotate_left
      try simp (maxSteps := 4000000) only [Act.put, List.setIfInBounds_toArray, List.set_cons_zero, List.set_cons_succ, List.getElem_toArray, List.getElem_cons_zero, List.getElem_cons_succ]
      refine wpAnyH_take (i := 14) (v := ?_) rfl (by kernel_rfl) (by kernel_rfl) (by kernel_rfl) (fun _ _ _ h => h) (Or.inl ⟨by kernel_rfl, ?_⟩) (by assumption) ?_
      rotate_left
      · (intro w hSw; (try dsimp only at hSw); go_simp)
        try (with_reducible rfl)
      rotate_left
      try simp (maxSteps := 4000000) only [Act.put, List.setIfInBounds_toArray, List.set_cons_zero, List.set_cons_succ, List.getElem_toArray, List.getElem_cons_zero, List.getElem_cons_succ]
      refine wpAnyH_take (i := 15) (v := ?_) rfl (by kernel_rfl) (by kernel_rfl) (by kernel_rfl) (fun _ _ _ h => h) (Or.inl ⟨by kernel_rfl, ?_⟩) (by assumption) ?_
      rotate_left
      · (intro w hSw; (try dsimp only at hSw); go_simp)
        try (with_reducible rfl)
      rotate_left
      try simp (maxSteps := 4000000) only [Act.put, List.setIfInBounds_toArray, List.set_cons_zero, List.set_cons_succ, List.getElem_toArray, List.getElem_cons_zero, List.getElem_cons_succ]
      refine wpAnyH_take (i := 16) (v := ?_) rfl (by kernel_rfl) (by kernel_rfl) (by kernel_rfl) (fun _ _ _ h => h) (Or.inl ⟨by kernel_rfl, ?_⟩) (by assumption) ?_
      rotate_left
      · (intro w hSw; (try dsimp only at hSw); go_simp)
        try (with_reducible rfl)
      rotate_left
      try simp (maxSteps := 4000000) only [Act.put, List.setIfInBounds_toArray, List.set_cons_zero, List.set_cons_succ, List.getElem_toArray, List.getElem_cons_zero, List.getElem_cons_succ]
      refine wpAnyH_ready (rs := [17]) (by kernel_rfl) (by simp) ?_
      refine AllReadyH.cons rfl (fun K2 hK2 => ?_) AllReadyH.nil
      go_simp
      refine hK2.out _ _ ⟨(World.cell?_alloc_lt _ _ _ (show z < _ from hzd)).trans hHeld.1, (World.cell?_alloc_lt _ _ _ (show z < _ from hzd)).trans hHeld.2⟩ (fun hHeld2 => ?_)
      clear hK2 K2 hHeld
      have hHeld := hHeld2
      clear hHeld2
      try simp (maxSteps := 4000000) only [Act.put, List.setIfInBounds_toArray, List.set_cons_zero, List.set_cons_succ]
      refine wpAnyH_ready (rs := [18]) (by kernel_rfl) (by simp) ?_
      refine AllReadyH.cons rfl (fun K2 hK2 => ?_) AllReadyH.nil
      refine step_append_lies _ rfl _ _ 35 rfl w.heap.size 5 i0 (.int .u8 0) 1 1 Tryd.underlying35 hi hz0 hz1 hz2 rfl (by decide) (.slice (some ⟨q, 0, none⟩) 7 ca) 7 (HL 1 s c t [X00, X01, X02] [X10, X11, X12]) rfl (HOd.out.alloc _) ⟨wd.heap.size, 0, none⟩ 3 3 [.int .u8 (X10 : Int), .int .u8 (X11 : Int), .int .u8 (X12 : Int)] rfl rfl ?_ ?_ (by omega) ?_ ?_ ?_ _ rfl ?_
      · exact cells3_new _ _ _ _ _
      · simp [Value.oneCell']
      · decide
      · omega
      · have := HBd.out.size; simp; omega
      intro q' ca' w' hown hgrow hat hlt
      have hq' : q' = q ∨ q' = wd.heap.size + 1 := by
        rcases hat with h | h
        · exact .inl (Option.some.inj (show some q = some q' from h)).symm
        · right; rw [h]; simp
      have HAn := Lib.hid ((HAd.out.keep (W' := wd.alloc (.cells #[.int .u8 (X10 : Int), .int .u8 (X11 : Int), .int .u8 (X12 : Int)] 5)) (by simp) ((alc0 wd _).block z hzd)).keep (W' := w') hgrow.size (hgrow.block z (by simp; omega) (fun e => hqz (Option.some.inj e).symm)))
      have HBn := Lib.hid ((alc HBd.out _).grown hgrow (by have := HBd.out.size; simp; omega) (fun j hj => (HOd.out.lt j hj).1))
      have hown' : Hid (w'.ownsRow w.heap.size 5 1 (.slice (some ⟨q', 0, none⟩) 10 ca') 10 (HL 2 s c t [X00, X01, X02] [X10, X11, X12])) := Lib.hid (by exact hown)
      clear hown hgrow hat HAd HBd HOd
      refine hK2.out _ _ HAn.out.2 (fun hHeld2 => ?_)
      clear hK2 K2 hHeld
      have hHeld := hHeld2
      clear hHeld2
      try simp (maxSteps := 4000000) only [Act.put, List.setIfInBounds_toArray, List.set_cons_zero, List.set_cons_succ]
      refine wpAnyH_take (i := 19) (v := ?_) rfl (by kernel_rfl) (by kernel_rfl) (by kernel_rfl) (fun _ _ _ h => h) (Or.inl ⟨by kernel_rfl, ?_⟩) (by assumption) ?_
      rotate_left
      · (intro w hSw; (try dsimp only at hSw); go_simp)
        try (with_reducible rfl)
      rotate_left
      try simp (maxSteps := 4000000) only [Act.put, List.setIfInBounds_toArray, List.set_cons_zero, List.set_cons_succ, List.getElem_toArray, List.getElem_cons_zero, List.getElem_cons_succ]
      refine wpAnyH_done (by kernel_rfl) ?_ _
      go_wp2_with fail
      go_roundw
      case rel => exact ⟨2, q', ca', 10, by omega, by omega, rfl, rfl, hown', by omega, hlt, HAn, HBn⟩
      case measure => simp [intOf]
    · obtain rfl : m = 10 := by omega
      clear hm ea1 ea2 ea3 ea4 ea5 ea6 ea7 ea8 ea9 ea10 ea11 ea12 ea13 eb1 eb2 eb3 eb4 eb5 eb6 eb7 eb8 eb9 eb10 eb11 eb12 eb13 c0 c1
      go_upto_region 7 with (fail)
      go_wp2_with (at_builtin; refine wpList_append_lies _ rfl _ _ 35 rfl w.heap.size 5 i0 (.int .u8 0) 1 1 Tryd.underlying35 hi hz0 hz1 hz2 rfl (by decide) (.slice (some ⟨q, 0, none⟩) 10 ca) 10 (HL 2 s c t [X00, X01, X02] [X10, X11, X12]) rfl (HO.out.alloc _) ⟨wr.heap.size, 0, none⟩ 4 4 [.int .u8 0, .int .u8 0, .int .u8 0, .int .u8 0] rfl rfl ?e1 ?e2 ?e6 ?e3 ?e4 ?e5 _ rfl ?_)
      case e1 => exact cells4_new _ _ _ _ _ _
      case e2 => simp [Value.oneCell']
      case e6 => omega
      case e3 => decide
      case e4 => omega
      case e5 => have := HBr.out.size; simp; omega
      intro q' ca' w' hown hgrow hat hlt
      have HBn := Lib.hid ((alc HBr.out _).grown hgrow (by have := HBr.out.size; simp; omega) (fun j hj => (HO.out.lt j hj).1))
      have hown2 : w'.ownsRow w.heap.size 5 1 (.slice (some ⟨q', 0, none⟩) 14 ca') 14 (u8s ((List.range 14).map (headC s c t n e))) := by
        rw [← hn_all, HTS.out.1, HTS.out.2]
        exact hown
      have hrow : RowU q' 14 w' (headC s c t n e) := ⟨hlt, fun i hi => ⟨by rw [hown2.cellAt i (by omega)]; simp [u8s, hi], hown2.frozenAt i⟩⟩
      have HO2 := Lib.hid hown2
      have HRW := Lib.hid hrow
      clear hown hgrow hat hrow hown2 HO HBr HA
      go_wp2_with fail
      refine (rsum key at_ q' ca' 14 _ _ HRW.out (by omega) HL0.out HK.out.1 HK.out.2).mono ?_
      rintro e' w9 ⟨rfl, rfl⟩
      have hSl := sumR_lt key at_ (headC s c t n e)
      obtain ⟨S, hS⟩ : ∃ S, sumR key at_ (headC s c t n e) = S := ⟨_, rfl⟩
      have HS := Lib.hid hS
      rw [hS] at hSl ⊢
      clear hS
      have v1 : (S : Int).tmod 256 = ((S % 256 : Nat) : Int) := by rw [Int.tmod_eq_emod_of_nonneg (by omega)]; omega
      have v2 : (S : Int).tdiv 256 = ((S / 256 : Nat) : Int) := by rw [Int.tdiv_eq_ediv_of_nonneg (by omega)]; omega
      have v1' : (S : Int) % 256 = ((S % 256 : Nat) : Int) := by omega
      have v2' : (S : Int) / 256 = ((S / 256 : Nat) : Int) := by omega
      have hS0l : S % 256 < 256 := by omega
      have hS1l : S / 256 < 256 := by omega
      obtain ⟨S0, hS0⟩ : ∃ S0, S % 256 = S0 := ⟨_, rfl⟩
      obtain ⟨S1, hS1⟩ : ∃ S1, S / 256 = S1 := ⟨_, rfl⟩
      rw [hS0] at v1 v1' hS0l; rw [hS1] at v2 v2' hS1l
      have v3 : IntKind.u8.wrap (S0 : Int) = S0 := by rw [IntKind.wrap_u8]; omega
      have v4 : IntKind.u8.wrap (S1 : Int) = S1 := by rw [IntKind.wrap_u8]; omega
      have v5 : IntKind.i64.wrap (S1 : Int) = S1 := IntWalk.i64_in _ (by omega)
      have HSS := Lib.hid (And.intro hS0 hS1)
      clear hS0 hS1
      go_wp2_with (at_builtin; refine wpList_append_lies _ rfl _ _ 35 rfl w.heap.size 5 i0 (.int .u8 0) 1 1 Tryd.underlying35 hi hz0 hz1 hz2 rfl (by decide) (.slice (some ⟨q', 0, none⟩) 14 ca') 14 (u8s ((List.range 14).map (headC s c t n e))) rfl (HO2.out.alloc _) ⟨w'.heap.size, 0, none⟩ 2 2 [.int .u8 (S0 : Int), .int .u8 (S1 : Int)] rfl rfl ?f1 ?f2 ?f6 ?f3 ?f4 ?f5 _ rfl ?_)
      case f1 => exact cells2_new _ _ _ _
      case f2 => simp [Value.oneCell']
      case f6 => omega
      case f3 => decide
      case f4 => omega
      case f5 => have := HBn.out.size; simp; omega
      intro q2 ca2 w2 hown hgrow hat hlt2
      have HBz := (alc HBn.out _).grown hgrow (by have := HBn.out.size; simp; omega) (fun j hj => (HO2.out.lt j hj).1)
      have hrow : RowU q2 16 w2 (headF key at_ s c t n e) := by
        refine ⟨hlt2, fun i hi => ⟨?_, hown.frozenAt i⟩⟩
        rw [hown.cellAt i (by omega)]
        have hf : headF key at_ s c t n e i = if i = 15 then S / 256 else if i = 14 then S % 256 else headC s c t n e i := by unfold headF headE headD; rw [HS.out]
        rw [hf, HSS.out.1, HSS.out.2]
        by_cases h14 : i < 14
        · rw [if_neg (by omega), if_neg (by omega), List.getElem?_append_left (by simp [u8s]; exact h14)]
          have hi14 : i = 0 ∨ i = 1 ∨ i = 2 ∨ i = 3 ∨ i = 4 ∨ i = 5 ∨ i = 6 ∨ i = 7 ∨ i = 8 ∨ i = 9 ∨ i = 10 ∨ i = 11 ∨ i = 12 ∨ i = 13 := by omega
          rcases hi14 with rfl | rfl | rfl | rfl | rfl | rfl | rfl | rfl | rfl | rfl | rfl | rfl | rfl | rfl <;> rfl
        · have hh : i = 14 ∨ i = 15 := by omega
          rcases hh with rfl | rfl
          · simp [u8s]
          · simp [u8s]
      have HRF := Lib.hid hrow
      have HBF := Lib.hid HBz
      clear hown hgrow hat hrow HBz
      go_wp2
      go_ret
      exact ⟨q2, ca2, rfl, HRF.out, HBF.out⟩
end Go.Proofs.YtgidnmjeifgciaaDoor
