/- Contracts of package head: Sealed, Read. -/
import Derived.Test.YtgidnmjeifgciaaDoorHeadB
namespace Go.Proofs.YtgidnmjeifgciaaDoor
set_option maxRecDepth 100000
open Go.RowKit
set_option linter.unusedVariables false
set_option linter.unusedSimpArgs false

theorem or_u16 (a b : Nat) (ha : a < 256) (hb : b < 256) : bits .or .u16 (a : Int) ((b : Int) * 256) = ((a + 256 * b : Nat) : Int) := by
  have h1 : (b : Int) * 256 = ((2 ^ 8 * b : Nat) : Int) := by omega
  rw [h1, u16_or_nat _ _ (by omega) (by omega), Nat.or_comm, ← Nat.two_pow_add_eq_or_of_lt (by omega)]
  omega
def sealB (key at_ : Int) (f : Nat → Nat) : Bool := decide (sumR key at_ f = f 14 + 256 * f 15)
set_option maxHeartbeats 1600000 in
theorem sealed_any (key at_ : Int) (g cap : Nat) (f : Nat → Nat) (w : World) (H : RowU g 16 w f) (hf : ∀ i, f i < 256) (hcap : 16 ≤ cap) (hk0 : 0 ≤ key) (hk1 : key < 18446744073709551616) :
    Calls Tryd.prog 134 #[.int .u64 key, .int .i64 at_, .slice (some ⟨g, 0, none⟩) 16 cap] w fun e w' => e = .returned (.bool (sealB key at_ f)) ∧ ∃ q, w' = w.drewN q := by
  have HH := Lib.hid H
  have HF := Lib.hid hf
  have HK := Lib.hid (And.intro hk0 hk1)
  obtain ⟨m14, _⟩ := H.2 14 (by omega)
  obtain ⟨m15, _⟩ := H.2 15 (by omega)
  have l14 := hf 14
  have l15 := hf 15
  have ho := or_u16 (f 14) (f 15) l14 l15
  obtain ⟨A, hA⟩ : ∃ A, f 14 = A := ⟨_, rfl⟩
  obtain ⟨B, hB⟩ : ∃ B, f 15 = B := ⟨_, rfl⟩
  rw [hA, hB] at ho
  rw [hA] at m14 l14; rw [hB] at m15 l15
  obtain ⟨S, hS⟩ : ∃ S, sumR key at_ f = S := ⟨_, rfl⟩
  have HS := Lib.hid hS
  have hr : sealB key at_ f = decide (S = A + 256 * B) := by unfold sealB; rw [hS, hA, hB]
  rw [hr]
  clear H hf hk0 hk1 hA hB hS hr
  go_enter Tryd.func134, Tryd.ntmps134
  go_wp2_with fail
  go_quiet (first | (go_at_call 133; exact Calls.quiet_of_same ((msum key at_ g cap 16 f _ ((HH.out).heap (by simp)) (by omega) HF.out HK.out.1 HK.out.2).mono fun _ _ ⟨he, hm⟩ => ⟨he, hm.symm⟩)))
  go_wp2
  go_ret
  exact ⟨ret_bool (by rw [HS.out, Bool.eq_iff_iff]; simp <;> omega), _, rfl⟩
theorem sealed_len (key at_ : Int) (A : Option Addr) (len cap : Nat) (w : World) (hl : len ≠ 16) (hl2 : len ≤ 1000) :
    Calls Tryd.prog 134 #[.int .u64 key, .int .i64 at_, .slice A len cap] w fun e w' => e = .returned (.bool false) ∧ w = w' := by
  have h1 : ((len : Int) == 16) = false := by simp; omega
  go_enter Tryd.func134, Tryd.ntmps134
  go_wp2
  go_ret
  exact ⟨rfl, rfl⟩
theorem strU_ne {f : Nat → Nat} : strU f 16 ≠ ByteArray.empty := by
  intro h
  have h1 : (strU f 16).size = 16 := by unfold strU; rw [strOfNums_size]; simp
  rw [h] at h1
  exact absurd h1 (by decide)
theorem bequal_nil (g2 c2 : Nat) (h : Nat → Nat) (W : World) (H2 : RowU g2 16 W h) :
    Calls Tryd.prog 122 #[.slice none 0 0, .slice (some ⟨g2, 0, none⟩) 16 c2] W fun e w' => e = .returned (.bool false) ∧ W = w' := by
  have e1 := run_convert_bytes_nil (P := Tryd.prog) W 35 5 Tryd.underlying35 Tryd.underlying5 0 0 9 Tryd.underlying9
  have e2 := conv_row H2 c2
  have hne := strU_ne (f := h)
  obtain ⟨x, hx⟩ : ∃ x, ByteArray.empty = x := ⟨_, rfl⟩
  obtain ⟨y, hy⟩ : ∃ y, strU h 16 = y := ⟨_, rfl⟩
  rw [hx] at e1 hne; rw [hy] at e2 hne
  have HNE := Lib.hid hne
  clear hx hy H2 hne
  go_enter Tryd.func122, Tryd.ntmps122
  go_wp2
  go_ret
  exact ⟨ret_bool (by rw [Bool.eq_iff_iff]; simp [ba_ext]; exact fun h => HNE.out h.symm), rfl⟩
theorem head_store {z : Nat} {W : World} {s c t n e : Int} (h : HeadAt z W s c t n e) (s' c' t' n' e' : Int) :
    ∃ W', ((((W.setCell ⟨z, 0, none⟩ (.int .i64 s')).setCell ⟨z, 1, none⟩ (.int .i64 c')).setCell ⟨z, 2, none⟩ (.int .i64 t')).setCell ⟨z, 3, none⟩ (.int .i64 n')).setCell ⟨z, 4, none⟩ (.int .i64 e') = W' ∧ HeadAt z W' s' c' t' n' e' ∧ Below z W W' ∧ W'.heap.size = W.heap.size ∧ ∀ x o, x ≠ z → W'.cell? ⟨x, o, none⟩ = W.cell? ⟨x, o, none⟩ := by
  have hb : Below z W (((((W.setCell ⟨z, 0, none⟩ (.int .i64 s')).setCell ⟨z, 1, none⟩ (.int .i64 c')).setCell ⟨z, 2, none⟩ (.int .i64 t')).setCell ⟨z, 3, none⟩ (.int .i64 n')).setCell ⟨z, 4, none⟩ (.int .i64 e')) :=
    (((((Below.refl _ _).setCell (Nat.le_refl z) _).setCell (Nat.le_refl z) _).setCell (Nat.le_refl z) _).setCell (Nat.le_refl z) _).setCell (Nat.le_refl z) _
  refine ⟨_, rfl, ((((h.s0 s').s1 c').s2 t').s3 n').s4 e', hb, by simp only [sizeSet], fun x o hx => ?_⟩
  have hn : ∀ k, (⟨z, k, none⟩ : Addr) ≠ ⟨x, o, none⟩ := fun k e => hx (by injection e with e; exact e.symm)
  simp only [World.cell?_setCell_other _ _ _ _ (hn _)]
def readOk (key at_ : Int) (f : Nat → Nat) : Bool := sealB key at_ f && (headOkB (f 1) (f 2) (f 3) (get3 f 4) (get3 f 7) && decide (strU (headF key at_ (f 1) (f 2) (f 3) (get3 f 4) (get3 f 7)) 16 = strU f 16))
def HReadPost (key at_ : Int) (f : Nat → Nat) (w : World) (e : Ending) (w' : World) : Prop :=
  e = .returned (if readOk key at_ f then .tuple #[.agg #[.int .i64 (f 1), .int .i64 (f 2), .int .i64 (f 3), .int .i64 (get3 f 4), .int .i64 (get3 f 7)], .int .i64 0] else .tuple #[.agg #[.int .i64 0, .int .i64 0, .int .i64 0, .int .i64 0, .int .i64 0], .int .i64 11]) ∧ Below w.heap.size w w'
theorem hread_len (key at_ : Int) (A : Option Addr) (len cap : Nat) (w : World) (hl : len ≠ 16) (hl2 : len ≤ 1000) :
    Calls Tryd.prog 93 #[.int .u64 key, .int .i64 at_, .slice A len cap] w fun e w' => e = .returned (.tuple #[.agg #[.int .i64 0, .int .i64 0, .int .i64 0, .int .i64 0, .int .i64 0], .int .i64 11]) ∧ Below w.heap.size w w' := by
  have HL := Lib.hid (And.intro hl hl2)
  clear hl hl2
  go_enter Tryd.func93, Tryd.ntmps93
  go_wp2_with fail
  refine (sealed_len _ _ _ _ _ _ HL.out.1 HL.out.2).mono ?_
  rintro e w1 ⟨rfl, rfl⟩
  go_wp2
  refine bodyPost_ret (v := .tuple #[.agg #[.int .i64 0, .int .i64 0, .int .i64 0, .int .i64 0, .int .i64 0], .int .i64 11]) (by simp [results, Tryd.results93, go_sem]) rfl ⟨rfl, ?_⟩
  exact alc0 _ _
set_option maxRecDepth 4000 in
set_option maxHeartbeats 4000000 in
theorem hread (key at_ : Int) (g cap : Nat) (f : Nat → Nat) (w : World) (H : RowU g 16 w f) (hf : ∀ i, f i < 256) (hcap : 16 ≤ cap) (hk0 : 0 ≤ key) (hk1 : key < 18446744073709551616) :
    Calls Tryd.prog 93 #[.int .u64 key, .int .i64 at_, .slice (some ⟨g, 0, none⟩) 16 cap] w (HReadPost key at_ f w) := by
  have HH := Lib.hid H
  have HF := Lib.hid hf
  have HK := Lib.hid (And.intro hk0 hk1)
  have hg := H.1
  have cp4 : 4 < cap := by omega
  have cp7 : 7 < cap := by omega
  have hc4 : ¬ cap = 4 := by omega
  have hc7 : ¬ cap = 7 := by omega
  clear H hf hk0 hk1
  obtain ⟨F1, hF1⟩ : ∃ F1, f 1 = F1 := ⟨_, rfl⟩
  obtain ⟨F2, hF2⟩ : ∃ F2, f 2 = F2 := ⟨_, rfl⟩
  obtain ⟨F3, hF3⟩ : ∃ F3, f 3 = F3 := ⟨_, rfl⟩
  obtain ⟨N, hN⟩ : ∃ N, get3 f 4 = N := ⟨_, rfl⟩
  obtain ⟨E, hE⟩ : ∃ E, get3 f 7 = E := ⟨_, rfl⟩
  have hb1 : F1 < 256 := by rw [← hF1]; exact HF.out 1
  have hb2 : F2 < 256 := by rw [← hF2]; exact HF.out 2
  have hb3 : F3 < 256 := by rw [← hF3]; exact HF.out 3
  have hbN : N < 16777216 := by have := HF.out 4; have := HF.out (4 + 1); have := HF.out (4 + 2); unfold get3 at hN; omega
  have hbE : E < 16777216 := by have := HF.out 7; have := HF.out (7 + 1); have := HF.out (7 + 2); unfold get3 at hE; omega
  have HBD := Lib.hid (And.intro hb1 (And.intro hb2 (And.intro hb3 (And.intro hbN hbE))))
  have HEQ := Lib.hid (And.intro hF1 (And.intro hF2 (And.intro hF3 (And.intro hN hE))))
  have hro : readOk key at_ f = (sealB key at_ f && (headOkB F1 F2 F3 N E && decide (strU (headF key at_ F1 F2 F3 N E) 16 = strU f 16))) := by unfold readOk; rw [hF1, hF2, hF3, hN, hE]
  have hres : HReadPost key at_ f w = fun e w' => e = .returned (if readOk key at_ f then .tuple #[.agg #[.int .i64 F1, .int .i64 F2, .int .i64 F3, .int .i64 N, .int .i64 E], .int .i64 0] else .tuple #[.agg #[.int .i64 0, .int .i64 0, .int .i64 0, .int .i64 0, .int .i64 0], .int .i64 11]) ∧ Below w.heap.size w w' := by unfold HReadPost; rw [hF1, hF2, hF3, hN, hE]
  rw [hro] at hres
  have HRes0 := Lib.hid hres
  clear hro hres hF1 hF2 hF3 hN hE hb1 hb2 hb3 hbN hbE
  go_enter Tryd.func93, Tryd.ntmps93
  go_upto_region 1 with (fail)
  obtain ⟨w2, hw⟩ : ∃ w2, w.alloc (.cells #[.int .i64 0, .int .i64 0, .int .i64 0, .int .i64 0, .int .i64 0] 83) = w2 := ⟨_, rfl⟩
  have HR2 : Hid (RowU g 16 w2 f) := Lib.hid (by rw [← hw]; exact HH.out.below (alc0 _ _))
  have HX2 : Hid (HeadAt w.heap.size w2 0 0 0 0 0) := Lib.hid (by rw [← hw]; exact HeadAt.new _ _ _ _ _ _ _)
  have HB2 : Hid (Below w.heap.size w w2) := Lib.hid (by rw [← hw]; exact alc0 _ _)
  rw [hw]
  clear hw
  go_wp2_with fail
  refine (sealed_any key at_ g cap f _ HR2.out HF.out hcap HK.out.1 HK.out.2).mono ?_
  rintro e w3 ⟨rfl, q, hw3⟩
  have HB3 : Hid (Below w2.heap.size w2 w3) := Lib.hid (by rw [hw3]; exact below_drewN (Below.refl _ _) _)
  clear hw3
  cases hsl : sealB key at_ f
  · have HRes : Hid (HReadPost key at_ f w = fun e w' => e = .returned (.tuple #[.agg #[.int .i64 0, .int .i64 0, .int .i64 0, .int .i64 0, .int .i64 0], .int .i64 11]) ∧ Below w.heap.size w w') := Lib.hid (by rw [HRes0.out, hsl]; rfl)
    have HX7 := Lib.hid (HX2.out.below HB3.out)
    have HB7 := Lib.hid (thn HB2.out HB3.out)
    clear hsl HRes0 HEQ HBD
    obtain ⟨_, k0, k1, k2, k3, k4, kf⟩ := HX7.out
    have kf0 := kf 0 (by omega)
    have kf1 := kf 1 (by omega)
    have kf2 := kf 2 (by omega)
    have kf3 := kf 3 (by omega)
    have kf4 := kf 4 (by omega)
    clear kf
    obtain ⟨ws, hws, hzs, hbs, hss, hcs⟩ := head_store HX7.out 0 0 0 0 0
    go_wp2_with fail
    obtain ⟨_, k0, k1, k2, k3, k4, kf⟩ := hzs
    refine bodyPost_ret (v := .tuple #[.agg #[.int .i64 0, .int .i64 0, .int .i64 0, .int .i64 0, .int .i64 0], .int .i64 11]) (by simp [results, Tryd.results93, go_sem, k0, k1, k2, k3, k4]) rfl (by rw [HRes.out]; exact ⟨rfl, HB7.out.trans (hbs.mono (Nat.le_refl _))⟩)
  · have HSL := Lib.hid hsl
    clear hsl
    go_upto_region 3 with (fail)
    go_cut [8] (fun v8 wx => ∃ z, v8 = .pointer (some ⟨z, 0, none⟩) ∧ z ≠ w.heap.size ∧ Hid (HeadAt z wx F1 F2 F3 N E) ∧ Hid (HeadAt w.heap.size wx 0 0 0 0 0) ∧ Hid (Below w.heap.size w wx))
    case first =>
      have HTT := Lib.hid (fun (W' : World) (h : Below w2.heap.size w2 W') (len cap' : Nat) (h1 : 3 ≤ len) (h2 : len ≤ 1000) => And.intro (tget g 4 len cap' (f 4) (f 5) (f 6) W' ((HR2.out.below h).2 4 (by omega)).1 ((HR2.out.below h).2 5 (by omega)).1 ((HR2.out.below h).2 6 (by omega)).1 (HF.out _) (HF.out _) (HF.out _) h1 h2) (tget g 7 len cap' (f 7) (f 8) (f 9) W' ((HR2.out.below h).2 7 (by omega)).1 ((HR2.out.below h).2 8 (by omega)).1 ((HR2.out.below h).2 9 (by omega)).1 (HF.out _) (HF.out _) (HF.out _) h1 h2))
      rw [show f 4 + 256 * f 5 + 65536 * f 6 = N from HEQ.out.2.2.2.1, show f 7 + 256 * f 8 + 65536 * f 9 = E from HEQ.out.2.2.2.2] at HTT
      have hg2 := HR2.out.1
      have hR3 := HR2.out.below HB3.out
      have hB3 := HB3.out
      obtain ⟨m1, _⟩ := hR3.2 1 (by omega)
      obtain ⟨m2, _⟩ := hR3.2 2 (by omega)
      obtain ⟨m3, _⟩ := hR3.2 3 (by omega)
      rw [HEQ.out.1] at m1; rw [HEQ.out.2.1] at m2; rw [HEQ.out.2.2.1] at m3
      have q1 := IntWalk.i64_in (F1 : Int) (by have := HBD.out; omega)
      have q2 := IntWalk.i64_in (F2 : Int) (by have := HBD.out; omega)
      have q3 := IntWalk.i64_in (F3 : Int) (by have := HBD.out; omega)
      have hb1 := HBD.out.1
      have hb2 := HBD.out.2.1
      have hb3 := HBD.out.2.2.1
      have kg : g < w3.heap.size := hR3.1
      obtain ⟨wd, hwd⟩ : ∃ wd, w3.drew = wd := ⟨_, rfl⟩
      refine wp_region_held_drew (S := (fun w' => w'.cell? ⟨g, 1, none⟩ = some (.int .u8 F1) ∧ w'.cell? ⟨g, 2, none⟩ = some (.int .u8 F2) ∧ w'.cell? ⟨g, 3, none⟩ = some (.int .u8 F3) ∧ Hid (Below w2.heap.size w2 w') ∧ g < w'.heap.size)) (by kernel_rfl) ⟨m1, m2, m3, Lib.hid hB3.drew, kg⟩ (fun hHeld => ?_)
      rw [hwd] at hHeld ⊢
      clear hwd m1 m2 m3 kg hR3 hB3 HB3 HEQ HRes0 HSL
      refine wpAnyH_take (i := 0) (v := ?_) rfl (by kernel_rfl) (by kernel_rfl) (by kernel_rfl) (fun _ _ _ h => h) (Or.inl ⟨by kernel_rfl, ?_⟩) (by assumption) ?_
      rotate_left
      · (intro w hSw; (try dsimp only at hSw); go_simp)
        try (with_reducible rfl)
      rotate_left
      try simp (maxSteps := 4000000) only [Act.put, List.setIfInBounds_toArray, List.set_cons_zero, List.set_cons_succ, List.getElem_toArray, List.getElem_cons_zero, List.getElem_cons_succ]
      refine wpAnyH_take (i := 1) (v := ?_) rfl (by kernel_rfl) (by kernel_rfl) (by kernel_rfl) (fun _ _ _ h => h) (Or.inl ⟨by kernel_rfl, ?_⟩) (by assumption) ?_
      rotate_left
      · (intro w hSw; (try dsimp only at hSw); go_simp)
        try (with_reducible rfl)
      rotate_left
      try simp (maxSteps := 4000000) only [Act.put, List.setIfInBounds_toArray, List.set_cons_zero, List.set_cons_succ, List.getElem_toArray, List.getElem_cons_zero, List.getElem_cons_succ]
      refine wpAnyH_take (i := 2) (v := ?_) rfl (by kernel_rfl) (by kernel_rfl) (by kernel_rfl) (fun _ _ _ h => h) (Or.inl ⟨by kernel_rfl, ?_⟩) (by assumption) ?_
      rotate_left
      · (intro w hSw; (try dsimp only at hSw); go_simp)
        try (with_reducible rfl)
      rotate_left
      try simp (maxSteps := 4000000) only [Act.put, List.setIfInBounds_toArray, List.set_cons_zero, List.set_cons_succ, List.getElem_toArray, List.getElem_cons_zero, List.getElem_cons_succ]
      refine wpAnyH_take (i := 3) (v := ?_) rfl (by kernel_rfl) (by kernel_rfl) (by kernel_rfl) (fun _ _ _ h => h) (Or.inl ⟨by kernel_rfl, ?_⟩) (by assumption) ?_
      rotate_left
      · (intro w hSw; (try dsimp only at hSw); go_simp)
        try (with_reducible rfl)
      rotate_left
      try simp (maxSteps := 4000000) only [Act.put, List.setIfInBounds_toArray, List.set_cons_zero, List.set_cons_succ, List.getElem_toArray, List.getElem_cons_zero, List.getElem_cons_succ]
      refine wpAnyH_take (i := 4) (v := ?_) rfl (by kernel_rfl) (by kernel_rfl) (by kernel_rfl) (fun _ _ _ h => h) (Or.inl ⟨by kernel_rfl, ?_⟩) (by assumption) ?_
      rotate_left
      · (intro w hSw; (try dsimp only at hSw); go_simp)
        try (with_reducible rfl)
      rotate_left
      try simp (maxSteps := 4000000) only [Act.put, List.setIfInBounds_toArray, List.set_cons_zero, List.set_cons_succ, List.getElem_toArray, List.getElem_cons_zero, List.getElem_cons_succ]
      refine wpAnyH_take (i := 5) (v := ?_) rfl (by kernel_rfl) (by kernel_rfl) (by kernel_rfl) (fun _ _ _ h => h) (Or.inl ⟨by kernel_rfl, ?_⟩) (by assumption) ?_
      rotate_left
      · (intro w hSw; (try dsimp only at hSw); go_simp)
        try (with_reducible rfl)
      rotate_left
      try simp (maxSteps := 4000000) only [Act.put, List.setIfInBounds_toArray, List.set_cons_zero, List.set_cons_succ, List.getElem_toArray, List.getElem_cons_zero, List.getElem_cons_succ]
      refine wpAnyH_take (i := 6) (v := ?_) rfl (by kernel_rfl) (by kernel_rfl) (by kernel_rfl) (fun _ _ _ h => h) (Or.inl ⟨by kernel_rfl, ?_⟩) (by assumption) ?_
      rotate_left
      · (intro w hSw; (try dsimp only at hSw); go_simp)
        try (with_reducible rfl)
      rotate_left
      try simp (maxSteps := 4000000) only [Act.put, List.setIfInBounds_toArray, List.set_cons_zero, List.set_cons_succ, List.getElem_toArray, List.getElem_cons_zero, List.getElem_cons_succ]
      refine wpAnyH_take (i := 7) (v := ?_) rfl (by kernel_rfl) (by kernel_rfl) (by kernel_rfl) (fun _ _ _ h => h) (Or.inl ⟨by kernel_rfl, ?_⟩) (by assumption) ?_
      rotate_left
      · (intro w hSw; (try dsimp only at hSw); go_simp)
        try (with_reducible rfl)
      rotate_left
      try simp (maxSteps := 4000000) only [Act.put, List.setIfInBounds_toArray, List.set_cons_zero, List.set_cons_succ, List.getElem_toArray, List.getElem_cons_zero, List.getElem_cons_succ]
      refine wpAnyH_take (i := 8) (v := ?_) rfl (by kernel_rfl) (by kernel_rfl) (by kernel_rfl) (fun _ _ _ h => h) (Or.inl ⟨by kernel_rfl, ?_⟩) (by assumption) ?_
      rotate_left
      · (intro w hSw; (try dsimp only at hSw); go_simp)
        try (with_reducible rfl)
      rotate_left
      try simp (maxSteps := 4000000) only [Act.put, List.setIfInBounds_toArray, List.set_cons_zero, List.set_cons_succ, List.getElem_toArray, List.getElem_cons_zero, List.getElem_cons_succ]
      refine wpAnyH_take (i := 9) (v := ?_) rfl (by kernel_rfl) (by kernel_rfl) (by kernel_rfl) (fun _ _ _ h => h) (Or.inl ⟨by kernel_rfl, ?_⟩) (by assumption) ?_
      rotate_left
      · (intro w hSw; (try dsimp only at hSw); go_simp)
        try (with_reducible rfl)
      rotate_left
      try simp (maxSteps := 4000000) only [Act.put, List.setIfInBounds_toArray, List.set_cons_zero, List.set_cons_succ, List.getElem_toArray, List.getElem_cons_zero, List.getElem_cons_succ]
      refine wpAnyH_take (i := 10) (v := ?_) rfl (by kernel_rfl) (by kernel_rfl) (by kernel_rfl) (fun _ _ _ h => h) (Or.inl ⟨by kernel_rfl, ?_⟩) (by assumption) ?_
      rotate_left
      · (intro w hSw; (try dsimp only at hSw); go_simp)
        try (with_reducible rfl)
      rotate_left
      try simp (maxSteps := 4000000) only [Act.put, List.setIfInBounds_toArray, List.set_cons_zero, List.set_cons_succ, List.getElem_toArray, List.getElem_cons_zero, List.getElem_cons_succ]
      refine wpAnyH_take (i := 11) (v := ?_) rfl (by kernel_rfl) (by kernel_rfl) (by kernel_rfl) (fun _ _ _ h => h) (Or.inl ⟨by kernel_rfl, ?_⟩) (by assumption) ?_
      rotate_left
      · (intro w hSw; (try dsimp only at hSw); go_simp)
        try (with_reducible rfl)
      rotate_left
      try simp (maxSteps := 4000000) only [Act.put, List.setIfInBounds_toArray, List.set_cons_zero, List.set_cons_succ, List.getElem_toArray, List.getElem_cons_zero, List.getElem_cons_succ]
      refine wpAnyH_take (i := 12) (v := ?_) rfl (by kernel_rfl) (by kernel_rfl) (by kernel_rfl) (fun _ _ _ h => h) (Or.inl ⟨by kernel_rfl, ?_⟩) (by assumption) ?_
      rotate_left
      · (intro w hSw; (try dsimp only at hSw); go_simp)
        try (with_reducible rfl)
      rotate_left
      try simp (maxSteps := 4000000) only [Act.put, List.setIfInBounds_toArray, List.set_cons_zero, List.set_cons_succ, List.getElem_toArray, List.getElem_cons_zero, List.getElem_cons_succ]
      refine wpAnyH_take (i := 13) (v := ?_) rfl (by kernel_rfl) (by kernel_rfl) (by kernel_rfl) (fun _ _ _ h => h) (Or.inl ⟨by kernel_rfl, ?_⟩) (by assumption) ?_
      rotate_left
      · (intro w hSw; (try dsimp only at hSw); go_simp)
        try (with_reducible rfl)
      rotate_left
      try simp (maxSteps := 4000000) only [Act.put, List.setIfInBounds_toArray, List.set_cons_zero, List.set_cons_succ, List.getElem_toArray, List.getElem_cons_zero, List.getElem_cons_succ]
      refine wpAnyH_take (i := 15) (v := ?_) rfl (by kernel_rfl) (by kernel_rfl) (by kernel_rfl) (fun _ _ _ h => h) (Or.inl ⟨by kernel_rfl, ?_⟩) (by assumption) ?_
      rotate_left
      · (intro w hSw; (try dsimp only at hSw); go_simp)
        try (with_reducible rfl)
      rotate_left
      try simp (maxSteps := 4000000) only [Act.put, List.setIfInBounds_toArray, List.set_cons_zero, List.set_cons_succ, List.getElem_toArray, List.getElem_cons_zero, List.getElem_cons_succ]
      refine wpAnyH_take (i := 16) (v := ?_) rfl (by kernel_rfl) (by kernel_rfl) (by kernel_rfl) (fun _ _ _ h => h) (Or.inl ⟨by kernel_rfl, ?_⟩) (by assumption) ?_
      rotate_left
      · (intro w hSw; (try dsimp only at hSw); go_simp)
        try (with_reducible rfl)
      rotate_left
      try simp (maxSteps := 4000000) only [Act.put, List.setIfInBounds_toArray, List.set_cons_zero, List.set_cons_succ, List.getElem_toArray, List.getElem_cons_zero, List.getElem_cons_succ]
      refine wpAnyH_ready (rs := [14, 19]) (by kernel_rfl) (by simp) ?_
      refine AllReadyH.cons rfl (fun K2 hK2 => ?_) (AllReadyH.cons rfl (fun K2 hK2 => ?_) AllReadyH.nil)
      all_goals go_simp
      · with_reducible refine Calls.mono (HTT.out _ hHeld.2.2.2.1.out _ _ (by omega) (by omega)).1 ?_
        rintro e wk1 ⟨rfl, q9, hw9⟩
        have hB9 : Below wd.heap.size wd wk1 := by rw [hw9]; exact below_drewN (Below.refl _ _) q9
        clear hw9
        refine hK2.out _ _ ?_ (fun hHeld2 => ?_)
        · exact ⟨(hB9.cell (p := ⟨g, 1, none⟩) hHeld.2.2.2.2).trans hHeld.1, (hB9.cell (p := ⟨g, 2, none⟩) hHeld.2.2.2.2).trans hHeld.2.1, (hB9.cell (p := ⟨g, 3, none⟩) hHeld.2.2.2.2).trans hHeld.2.2.1, Lib.hid (thnw hHeld.2.2.2.1.out hB9), Nat.lt_of_lt_of_le hHeld.2.2.2.2 hB9.size⟩
        clear hB9
        clear hK2 K2 hHeld
        have hHeld := hHeld2
        clear hHeld2
        try simp (maxSteps := 4000000) only [Act.put, List.setIfInBounds_toArray, List.set_cons_zero, List.set_cons_succ]
        refine wpAnyH_ready (rs := [17, 19]) (by kernel_rfl) (by simp) ?_
        refine AllReadyH.cons rfl (fun K2 hK2 => ?_) (AllReadyH.cons rfl (fun K2 hK2 => ?_) AllReadyH.nil)
        all_goals go_simp
        · with_reducible refine Calls.mono (HTT.out _ hHeld.2.2.2.1.out _ _ (by omega) (by omega)).2 ?_
          rintro e wk2 ⟨rfl, q9, hw9⟩
          have hB9 : Below wk1.heap.size wk1 wk2 := by rw [hw9]; exact below_drewN (Below.refl _ _) q9
          clear hw9
          refine hK2.out _ _ ?_ (fun hHeld2 => ?_)
          · exact ⟨(hB9.cell (p := ⟨g, 1, none⟩) hHeld.2.2.2.2).trans hHeld.1, (hB9.cell (p := ⟨g, 2, none⟩) hHeld.2.2.2.2).trans hHeld.2.1, (hB9.cell (p := ⟨g, 3, none⟩) hHeld.2.2.2.2).trans hHeld.2.2.1, Lib.hid (thnw hHeld.2.2.2.1.out hB9), Nat.lt_of_lt_of_le hHeld.2.2.2.2 hB9.size⟩
          clear hB9
          clear hK2 K2 hHeld
          have hHeld := hHeld2
          clear hHeld2
          try simp (maxSteps := 4000000) only [Act.put, List.setIfInBounds_toArray, List.set_cons_zero, List.set_cons_succ]
          refine wpAnyH_take (i := 18) (v := ?_) rfl (by kernel_rfl) (by kernel_rfl) (by kernel_rfl) (fun _ _ _ h => h) (Or.inl ⟨by kernel_rfl, ?_⟩) (by assumption) ?_
          rotate_left
          · (intro w hSw; (try dsimp only at hSw); go_simp)
            try (with_reducible rfl)
          rotate_left
          try simp (maxSteps := 4000000) only [Act.put, List.setIfInBounds_toArray, List.set_cons_zero, List.set_cons_succ, List.getElem_toArray, List.getElem_cons_zero, List.getElem_cons_succ]
          refine wpAnyH_ready (rs := [19]) (by kernel_rfl) (by simp) ?_
          refine AllReadyH.cons rfl (fun K2 hK2 => ?_) AllReadyH.nil
          go_simp
          refine hK2.out _ _ ?_ (fun hHeld2 => ?_)
          · exact ⟨(World.cell?_alloc_lt _ _ _ (show g < _ from hHeld.2.2.2.2)).trans hHeld.1, (World.cell?_alloc_lt _ _ _ (show g < _ from hHeld.2.2.2.2)).trans hHeld.2.1, (World.cell?_alloc_lt _ _ _ (show g < _ from hHeld.2.2.2.2)).trans hHeld.2.2.1, Lib.hid (hHeld.2.2.2.1.out.alloc hHeld.2.2.2.1.out.size _), by rw [World.size_alloc]; exact Nat.lt_succ_of_lt hHeld.2.2.2.2⟩
          have HZ := Lib.hid (HeadAt.new wk2 0 0 0 0 0 83)
          have hz2 : w2.heap.size ≤ wk2.heap.size := hHeld.2.2.2.1.out.size
          obtain ⟨z, hz⟩ : ∃ z, wk2.heap.size = z := ⟨_, rfl⟩
          obtain ⟨wn, hwn⟩ : ∃ wn, wk2.alloc (.cells #[.int .i64 0, .int .i64 0, .int .i64 0, .int .i64 0, .int .i64 0] 83) = wn := ⟨_, rfl⟩
          rw [hwn] at HZ hHeld2 ⊢
          rw [hz] at HZ hz2 ⊢
          clear hz hwn
          clear hK2 K2 hHeld
          have hHeld := hHeld2
          clear hHeld2
          try simp (maxSteps := 4000000) only [Act.put, List.setIfInBounds_toArray, List.set_cons_zero, List.set_cons_succ]
          obtain ⟨_, z0, z1, z2, z3, z4, zf⟩ := HZ.out
          have zf0 := zf 0 (by omega)
          have zf1 := zf 1 (by omega)
          have zf2 := zf 2 (by omega)
          have zf3 := zf 3 (by omega)
          have zf4 := zf 4 (by omega)
          refine wpAnyH_ready (rs := [20]) (by kernel_rfl) (by simp) ?_
          refine AllReadyH.cons rfl (fun K2 hK2 => ?_) AllReadyH.nil
          go_simp
          obtain ⟨ws, hws, hzs, hbs, hss, hcs⟩ := head_store HZ.out F1 F2 F3 N E
          rw [hws]
          have hBs : Hid (Below w2.heap.size w2 ws) := Lib.hid (hHeld.2.2.2.1.out.trans (hbs.mono hz2))
          refine hK2.out _ _ ?_ (fun hHeld2 => ?_)
          · exact ⟨(hcs g 1 (by omega)).trans hHeld.1, (hcs g 2 (by omega)).trans hHeld.2.1, (hcs g 3 (by omega)).trans hHeld.2.2.1, hBs, by rw [hss]; exact hHeld.2.2.2.2⟩
          refine wpAnyH_done (by kernel_rfl) ?_ _
          go_wp2
          go_meet
          exact ⟨z, rfl, by have := HX2.out.1; omega, Lib.hid hzs, Lib.hid (HX2.out.below hBs.out), Lib.hid (thn HB2.out hBs.out)⟩
        · refine hK2.out _ _ ?_ (fun hHeld2 => ?_)
          · exact ⟨(World.cell?_alloc_lt _ _ _ (show g < _ from hHeld.2.2.2.2)).trans hHeld.1, (World.cell?_alloc_lt _ _ _ (show g < _ from hHeld.2.2.2.2)).trans hHeld.2.1, (World.cell?_alloc_lt _ _ _ (show g < _ from hHeld.2.2.2.2)).trans hHeld.2.2.1, Lib.hid (hHeld.2.2.2.1.out.alloc hHeld.2.2.2.1.out.size _), by rw [World.size_alloc]; exact Nat.lt_succ_of_lt hHeld.2.2.2.2⟩
          have HZ := Lib.hid (HeadAt.new wk1 0 0 0 0 0 83)
          have hz2 : w2.heap.size ≤ wk1.heap.size := hHeld.2.2.2.1.out.size
          obtain ⟨z, hz⟩ : ∃ z, wk1.heap.size = z := ⟨_, rfl⟩
          obtain ⟨wn, hwn⟩ : ∃ wn, wk1.alloc (.cells #[.int .i64 0, .int .i64 0, .int .i64 0, .int .i64 0, .int .i64 0] 83) = wn := ⟨_, rfl⟩
          rw [hwn] at HZ hHeld2 ⊢
          rw [hz] at HZ hz2 ⊢
          clear hz hwn
          clear hK2 K2 hHeld
          have hHeld := hHeld2
          clear hHeld2
          try simp (maxSteps := 4000000) only [Act.put, List.setIfInBounds_toArray, List.set_cons_zero, List.set_cons_succ]
          refine wpAnyH_ready (rs := [17]) (by kernel_rfl) (by simp) ?_
          refine AllReadyH.cons rfl (fun K2 hK2 => ?_) AllReadyH.nil
          go_simp
          with_reducible refine Calls.mono (HTT.out _ hHeld.2.2.2.1.out _ _ (by omega) (by omega)).2 ?_
          rintro e wk2 ⟨rfl, q9, hw9⟩
          have hB9 : Below wn.heap.size wn wk2 := by rw [hw9]; exact below_drewN (Below.refl _ _) q9
          clear hw9
          refine hK2.out _ _ ?_ (fun hHeld2 => ?_)
          · exact ⟨(hB9.cell (p := ⟨g, 1, none⟩) hHeld.2.2.2.2).trans hHeld.1, (hB9.cell (p := ⟨g, 2, none⟩) hHeld.2.2.2.2).trans hHeld.2.1, (hB9.cell (p := ⟨g, 3, none⟩) hHeld.2.2.2.2).trans hHeld.2.2.1, Lib.hid (thnw hHeld.2.2.2.1.out hB9), Nat.lt_of_lt_of_le hHeld.2.2.2.2 hB9.size⟩
          have HZ9 := Lib.hid (HZ.out.below hB9)
          clear HZ
          have HZ := HZ9
          clear HZ9
          clear hB9
          clear hK2 K2 hHeld
          have hHeld := hHeld2
          clear hHeld2
          try simp (maxSteps := 4000000) only [Act.put, List.setIfInBounds_toArray, List.set_cons_zero, List.set_cons_succ]
          obtain ⟨_, z0, z1, z2, z3, z4, zf⟩ := HZ.out
          have zf0 := zf 0 (by omega)
          have zf1 := zf 1 (by omega)
          have zf2 := zf 2 (by omega)
          have zf3 := zf 3 (by omega)
          have zf4 := zf 4 (by omega)
          refine wpAnyH_take (i := 18) (v := ?_) rfl (by kernel_rfl) (by kernel_rfl) (by kernel_rfl) (fun _ _ _ h => h) (Or.inl ⟨by kernel_rfl, ?_⟩) (by assumption) ?_
          rotate_left
          · (intro w hSw; (try dsimp only at hSw); go_simp)
            try (with_reducible rfl)
          rotate_left
          try simp (maxSteps := 4000000) only [Act.put, List.setIfInBounds_toArray, List.set_cons_zero, List.set_cons_succ, List.getElem_toArray, List.getElem_cons_zero, List.getElem_cons_succ]
          refine wpAnyH_ready (rs := [20]) (by kernel_rfl) (by simp) ?_
          refine AllReadyH.cons rfl (fun K2 hK2 => ?_) AllReadyH.nil
          go_simp
          obtain ⟨ws, hws, hzs, hbs, hss, hcs⟩ := head_store HZ.out F1 F2 F3 N E
          rw [hws]
          have hBs : Hid (Below w2.heap.size w2 ws) := Lib.hid (hHeld.2.2.2.1.out.trans (hbs.mono hz2))
          refine hK2.out _ _ ?_ (fun hHeld2 => ?_)
          · exact ⟨(hcs g 1 (by omega)).trans hHeld.1, (hcs g 2 (by omega)).trans hHeld.2.1, (hcs g 3 (by omega)).trans hHeld.2.2.1, hBs, by rw [hss]; exact hHeld.2.2.2.2⟩
          refine wpAnyH_done (by kernel_rfl) ?_ _
          go_wp2
          go_meet
          exact ⟨z, rfl, by have := HX2.out.1; omega, Lib.hid hzs, Lib.hid (HX2.out.below hBs.out), Lib.hid (thn HB2.out hBs.out)⟩
      · refine hK2.out _ _ ?_ (fun hHeld2 => ?_)
        · exact ⟨(World.cell?_alloc_lt _ _ _ (show g < _ from hHeld.2.2.2.2)).trans hHeld.1, (World.cell?_alloc_lt _ _ _ (show g < _ from hHeld.2.2.2.2)).trans hHeld.2.1, (World.cell?_alloc_lt _ _ _ (show g < _ from hHeld.2.2.2.2)).trans hHeld.2.2.1, Lib.hid (hHeld.2.2.2.1.out.alloc hHeld.2.2.2.1.out.size _), by rw [World.size_alloc]; exact Nat.lt_succ_of_lt hHeld.2.2.2.2⟩
        have HZ := Lib.hid (HeadAt.new wd 0 0 0 0 0 83)
        have hz2 : w2.heap.size ≤ wd.heap.size := hHeld.2.2.2.1.out.size
        obtain ⟨z, hz⟩ : ∃ z, wd.heap.size = z := ⟨_, rfl⟩
        obtain ⟨wn, hwn⟩ : ∃ wn, wd.alloc (.cells #[.int .i64 0, .int .i64 0, .int .i64 0, .int .i64 0, .int .i64 0] 83) = wn := ⟨_, rfl⟩
        rw [hwn] at HZ hHeld2 ⊢
        rw [hz] at HZ hz2 ⊢
        clear hz hwn
        clear hK2 K2 hHeld
        have hHeld := hHeld2
        clear hHeld2
        try simp (maxSteps := 4000000) only [Act.put, List.setIfInBounds_toArray, List.set_cons_zero, List.set_cons_succ]
        refine wpAnyH_ready (rs := [14]) (by kernel_rfl) (by simp) ?_
        refine AllReadyH.cons rfl (fun K2 hK2 => ?_) AllReadyH.nil
        go_simp
        with_reducible refine Calls.mono (HTT.out _ hHeld.2.2.2.1.out _ _ (by omega) (by omega)).1 ?_
        rintro e wk1 ⟨rfl, q9, hw9⟩
        have hB9 : Below wn.heap.size wn wk1 := by rw [hw9]; exact below_drewN (Below.refl _ _) q9
        clear hw9
        refine hK2.out _ _ ?_ (fun hHeld2 => ?_)
        · exact ⟨(hB9.cell (p := ⟨g, 1, none⟩) hHeld.2.2.2.2).trans hHeld.1, (hB9.cell (p := ⟨g, 2, none⟩) hHeld.2.2.2.2).trans hHeld.2.1, (hB9.cell (p := ⟨g, 3, none⟩) hHeld.2.2.2.2).trans hHeld.2.2.1, Lib.hid (thnw hHeld.2.2.2.1.out hB9), Nat.lt_of_lt_of_le hHeld.2.2.2.2 hB9.size⟩
        have HZ9 := Lib.hid (HZ.out.below hB9)
        clear HZ
        have HZ := HZ9
        clear HZ9
        clear hB9
        clear hK2 K2 hHeld
        have hHeld := hHeld2
        clear hHeld2
        try simp (maxSteps := 4000000) only [Act.put, List.setIfInBounds_toArray, List.set_cons_zero, List.set_cons_succ]
        refine wpAnyH_ready (rs := [17]) (by kernel_rfl) (by simp) ?_
        refine AllReadyH.cons rfl (fun K2 hK2 => ?_) AllReadyH.nil
        go_simp
        with_reducible refine Calls.mono (HTT.out _ hHeld.2.2.2.1.out _ _ (by omega) (by omega)).2 ?_
        rintro e wk2 ⟨rfl, q9, hw9⟩
        have hB9 : Below wk1.heap.size wk1 wk2 := by rw [hw9]; exact below_drewN (Below.refl _ _) q9
        clear hw9
        refine hK2.out _ _ ?_ (fun hHeld2 => ?_)
        · exact ⟨(hB9.cell (p := ⟨g, 1, none⟩) hHeld.2.2.2.2).trans hHeld.1, (hB9.cell (p := ⟨g, 2, none⟩) hHeld.2.2.2.2).trans hHeld.2.1, (hB9.cell (p := ⟨g, 3, none⟩) hHeld.2.2.2.2).trans hHeld.2.2.1, Lib.hid (thnw hHeld.2.2.2.1.out hB9), Nat.lt_of_lt_of_le hHeld.2.2.2.2 hB9.size⟩
        have HZ9 := Lib.hid (HZ.out.below hB9)
        clear HZ
        have HZ := HZ9
        clear HZ9
        clear hB9
        clear hK2 K2 hHeld
        have hHeld := hHeld2
        clear hHeld2
        try simp (maxSteps := 4000000) only [Act.put, List.setIfInBounds_toArray, List.set_cons_zero, List.set_cons_succ]
        obtain ⟨_, z0, z1, z2, z3, z4, zf⟩ := HZ.out
        have zf0 := zf 0 (by omega)
        have zf1 := zf 1 (by omega)
        have zf2 := zf 2 (by omega)
        have zf3 := zf 3 (by omega)
        have zf4 := zf 4 (by omega)
        refine wpAnyH_take (i := 18) (v := ?_) rfl (by kernel_rfl) (by kernel_rfl) (by kernel_rfl) (fun _ _ _ h => h) (Or.inl ⟨by kernel_rfl, ?_⟩) (by assumption) ?_
        rotate_left
        · (intro w hSw; (try dsimp only at hSw); go_simp)
          try (with_reducible rfl)
        rotate_left
        try simp (maxSteps := 4000000) only [Act.put, List.setIfInBounds_toArray, List.set_cons_zero, List.set_cons_succ, List.getElem_toArray, List.getElem_cons_zero, List.getElem_cons_succ]
        refine wpAnyH_ready (rs := [20]) (by kernel_rfl) (by simp) ?_
        refine AllReadyH.cons rfl (fun K2 hK2 => ?_) AllReadyH.nil
        go_simp
        obtain ⟨ws, hws, hzs, hbs, hss, hcs⟩ := head_store HZ.out F1 F2 F3 N E
        rw [hws]
        have hBs : Hid (Below w2.heap.size w2 ws) := Lib.hid (hHeld.2.2.2.1.out.trans (hbs.mono hz2))
        refine hK2.out _ _ ?_ (fun hHeld2 => ?_)
        · exact ⟨(hcs g 1 (by omega)).trans hHeld.1, (hcs g 2 (by omega)).trans hHeld.2.1, (hcs g 3 (by omega)).trans hHeld.2.2.1, hBs, by rw [hss]; exact hHeld.2.2.2.2⟩
        refine wpAnyH_done (by kernel_rfl) ?_ _
        go_wp2
        go_meet
        exact ⟨z, rfl, by have := HX2.out.1; omega, Lib.hid hzs, Lib.hid (HX2.out.below hBs.out), Lib.hid (thn HB2.out hBs.out)⟩
    case rest =>
      obtain ⟨z, rfl, hzw, HZ, HX, HB⟩ := hcut
      obtain ⟨w6, hw6⟩ : ∃ w6 : World, w6 = wc := ⟨_, rfl⟩
      rw [← hw6] at HZ HX HB ⊢
      clear hw6
      have HR6 := Lib.hid (HH.out.below HB.out)
      clear HB3 HR2 HX2 HB2 HH
      obtain ⟨_, k0, k1, k2, k3, k4, kf⟩ := HZ.out
      cases hok : headOkB F1 F2 F3 N E
      · have HOK := Lib.hid hok
        clear hok
        have HRes : Hid (HReadPost key at_ f w = fun e w' => e = .returned (.tuple #[.agg #[.int .i64 0, .int .i64 0, .int .i64 0, .int .i64 0, .int .i64 0], .int .i64 11]) ∧ Below w.heap.size w w') := Lib.hid (by rw [HRes0.out, HSL.out, HOK.out]; rfl)
        clear HRes0 HBD HEQ
        go_wp2_with fail
        refine (hbytes_no _ _ _ _ _ _ _ _ HOK.out).mono ?_
        rintro e w7 ⟨rfl, hb⟩
        have HX7 := Lib.hid (HX.out.below hb)
        have HB7 := Lib.hid (thn HB.out hb)
        have HR7 := Lib.hid (HR6.out.below hb)
        clear hb k0 k1 k2 k3 k4 kf HX HB HR6 HZ
        go_wp2_with fail
        refine (bequal_nil g cap f _ HR7.out).mono ?_
        rintro e w8 ⟨rfl, rfl⟩
        obtain ⟨_, j0, j1, j2, j3, j4, jf⟩ := HX7.out
        have jf0 := jf 0 (by omega)
        have jf1 := jf 1 (by omega)
        have jf2 := jf 2 (by omega)
        have jf3 := jf 3 (by omega)
        have jf4 := jf 4 (by omega)
        clear jf
        obtain ⟨ws, hws, hzs, hbs, hss, hcs⟩ := head_store HX7.out 0 0 0 0 0
        go_wp2_with fail
        obtain ⟨_, k0, k1, k2, k3, k4, kf⟩ := hzs
        refine bodyPost_ret (v := .tuple #[.agg #[.int .i64 0, .int .i64 0, .int .i64 0, .int .i64 0, .int .i64 0], .int .i64 11]) (by simp [results, Tryd.results93, go_sem, k0, k1, k2, k3, k4]) rfl (by rw [HRes.out]; exact ⟨rfl, HB7.out.trans (hbs.mono (Nat.le_refl _))⟩)
      · have HOK := Lib.hid hok
        clear hok
        go_wp2_with fail
        refine (hbytes_yes key at_ F1 F2 F3 N E _ HOK.out HBD.out.1 HBD.out.2.1 HBD.out.2.2.1 HBD.out.2.2.2.1 HBD.out.2.2.2.2 HK.out.1 HK.out.2).mono ?_
        rintro e w7 ⟨g2, rfl, hg2, hr2, hb⟩
        have HX7 := Lib.hid (HX.out.below hb)
        have HB7 := Lib.hid (thn HB.out hb)
        have HR7 := Lib.hid (HR6.out.below hb)
        have HZ7 := Lib.hid (HZ.out.below hb)
        have HR2 := Lib.hid hr2
        clear hb hr2 k0 k1 k2 k3 k4 kf HX HB HR6 HZ
        obtain ⟨r, hr⟩ : ∃ r, decide (strU (headF key at_ F1 F2 F3 N E) 16 = strU f 16) = r := ⟨_, rfl⟩
        have HRR := Lib.hid hr
        clear hr
        go_wp2_with fail
        refine (bequal g2 16 g cap _ f _ HR2.out HR7.out r HRR.out).mono ?_
        rintro e w8 ⟨rfl, rfl⟩
        obtain ⟨_, j0, j1, j2, j3, j4, jf⟩ := HX7.out
        obtain ⟨_, k0, k1, k2, k3, k4, kf⟩ := HZ7.out
        have jf0 := jf 0 (by omega)
        have jf1 := jf 1 (by omega)
        have jf2 := jf 2 (by omega)
        have jf3 := jf 3 (by omega)
        have jf4 := jf 4 (by omega)
        clear jf kf
        cases r
        · have HRes : Hid (HReadPost key at_ f w = fun e w' => e = .returned (.tuple #[.agg #[.int .i64 0, .int .i64 0, .int .i64 0, .int .i64 0, .int .i64 0], .int .i64 11]) ∧ Below w.heap.size w w') := Lib.hid (by rw [HRes0.out, HSL.out, HOK.out, HRR.out]; rfl)
          clear HRes0 HBD HEQ HRR HR2 HR7 HSL HOK k0 k1 k2 k3 k4
          obtain ⟨ws, hws, hzs, hbs, hss, hcs⟩ := head_store HX7.out 0 0 0 0 0
          go_wp2_with fail
          obtain ⟨_, k0, k1, k2, k3, k4, kf⟩ := hzs
          refine bodyPost_ret (v := .tuple #[.agg #[.int .i64 0, .int .i64 0, .int .i64 0, .int .i64 0, .int .i64 0], .int .i64 11]) (by simp [results, Tryd.results93, go_sem, k0, k1, k2, k3, k4]) rfl (by rw [HRes.out]; exact ⟨rfl, HB7.out.trans (hbs.mono (Nat.le_refl _))⟩)
        · have HRes : Hid (HReadPost key at_ f w = fun e w' => e = .returned (.tuple #[.agg #[.int .i64 F1, .int .i64 F2, .int .i64 F3, .int .i64 N, .int .i64 E], .int .i64 0]) ∧ Below w.heap.size w w') := Lib.hid (by rw [HRes0.out, HSL.out, HOK.out, HRR.out]; rfl)
          clear HRes0 HBD HEQ HRR HR2 HR7 HSL HOK
          obtain ⟨ws, hws, hzs, hbs, hss, hcs⟩ := head_store HX7.out F1 F2 F3 N E
          go_wp2_with fail
          obtain ⟨_, k0, k1, k2, k3, k4, kf⟩ := hzs
          refine bodyPost_ret (v := .tuple #[.agg #[.int .i64 F1, .int .i64 F2, .int .i64 F3, .int .i64 N, .int .i64 E], .int .i64 0]) (by simp [results, Tryd.results93, go_sem, k0, k1, k2, k3, k4]) rfl (by rw [HRes.out]; exact ⟨rfl, HB7.out.trans (hbs.mono (Nat.le_refl _))⟩)
end Go.Proofs.YtgidnmjeifgciaaDoor
