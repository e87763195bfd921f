/- The statements of sweep: made. -/
import Derived.Test.YtljjcomedjdpaaaDoorSwC
import Derived.Test.YtljjcomedjdpaaaDoorCqS
import Derived.Test.YtljjcomedjdpaaaDoorFew2
import Derived.Test.YtljjcomedjdpaaaDoorCodeS
import Derived.Deep.RegionHeld3
import Derived.Deep.DeepCutAuto
namespace Go.Proofs.YtljjcomedjdpaaaDoor
set_option maxRecDepth 100000
open Go.RowKit Go.ChangeMaps Go.MapKept
set_option linter.unusedVariables false
set_option linter.unusedSimpArgs false

/-- A capability within the first 2048 bytes. -/
def Cap9 (x : CapV) : Prop := 0 ≤ x.b ∧ x.b ≤ 2047 ∧ 1 ≤ x.l ∧ x.l ≤ 256 ∧ x.l ≤ 2048 - x.b ∧ capOkB x.b x.l x.c x.p x.t = true
/-- Sixteen bytes that are such a capability's. -/
def Kept9 (d : Nat → Nat) : Prop := ∃ (B L D P T : Nat) (C : Int), d = codeF B L D P T ∧ C - B + 1048576 = D ∧ Cap9 ⟨B, L, C, P, T, true⟩
def pgM : Nat → Bool := onF (onF (fun _ => false) 0 3) 5 2
structure MadeG (σ : MS) (f : Nat → CapV) : Prop where
  pg : σ.pg = pgM
  kp : ∀ g, σ.kp g = true → g < 128 ∧ Kept9 (σ.kv g)
  km : ∀ g, σ.kp g = true → pgM (g / 16) = true
  kv : ∀ g i, σ.kv g i < 256
  fv : ∀ h, (f h).v = true → Cap9 (f h)
  fn : ∀ h, (f h).v = false → f h = cap0
/-- What made makes. -/
structure MDE (B : Nat) (col : Nat → Nat) (M R g : Nat) (V w : World) (σ : MS) (f : Nat → CapV) : Prop where
  mem : MEM B col M w σ
  reg : RegAt R g 6 w (CV f)
  cr : col R = 0 ∧ col g = 0
  br : B ≤ R ∧ B ≤ g ∧ V.heap.size ≤ B
  bel : Below V.heap.size V w
section
variable {B : Nat} {col : Nat → Nat} {M R g : Nat} {V w w' : World} {σ σ' : MS} {f f' : Nat → CapV}
theorem MDE.later (h : MDE B col M R g V w σ f) (hb : Below w.heap.size w w') : MDE B col M R g V w' σ f :=
  ⟨h.mem.later hb, h.reg.below hb, h.cr, h.br, h.bel.trans (hb.mono h.bel.size)⟩
theorem MDE.put (h : MDE B col M R g V w σ f) (hr : RegAt R g 6 w' (CV f')) (hk : Keeps g w w') : MDE B col M R g V w' σ f' :=
  ⟨h.mem.keep (hk.1.mono h.br.2.1) (fun i hi hc => hk.2 i hi (fun e => by rw [e] at hc; exact hc h.cr.2)), hr, h.cr, h.br, h.bel.trans (hk.1.mono (Nat.le_trans h.br.2.2 h.br.2.1))⟩
theorem MDE.step (h : MDE B col M R g V w σ f) (hs : MStep B col M w σ' w') : ∃ col', MDE B col' M R g V w' σ' f ∧ (∀ i, i < w.heap.size → col' i = col i) ∧ ∀ i, i < w.heap.size → col i ≤ 1 → w'.heap[i]? = w.heap[i]? := by
  obtain ⟨col', h1, h2, h3, h4⟩ := hs
  exact ⟨col', ⟨h1, h.reg.keep h4.size (h3 R h.reg.1 (by rw [h.cr.1]; decide)) (h3 g h.reg.2.1 (by rw [h.cr.2]; decide)), ⟨(h2 R h.reg.1).trans h.cr.1, (h2 g h.reg.2.1).trans h.cr.2⟩, h.br, h.bel.trans (h4.mono h.br.2.2)⟩, h2, h3⟩
end
theorem pgM_low (y : Nat) : pgM y = decide (y < 3 ∨ (5 ≤ y ∧ y < 7)) := by
  unfold pgM onF
  rw [Bool.eq_iff_iff]
  simp
  omega
theorem MadeG.put {σ : MS} {f : Nat → CapV} (h : MadeG σ f) {x : CapV} (hx : Cap9 x) (hv : x.v = true) (i : Nat) : MadeG σ (updC f i x) := by
  refine ⟨h.pg, h.kp, h.km, h.kv, fun j hj => ?_, fun j hj => ?_⟩
  · unfold updC at hj ⊢
    split
    · exact hx
    · rename_i e; rw [if_neg e] at hj; exact h.fv j hj
  · unfold updC at hj ⊢
    split
    · rename_i e; rw [if_pos e, hv] at hj; cases hj
    · rename_i e; rw [if_neg e] at hj; exact h.fn j hj
theorem MadeG.keep {σ : MS} {f : Nat → CapV} (h : MadeG σ f) {a : Nat} {d : Nat → Nat} (ha : a / 16 < 128) (hm : pgM (a / 16 / 16) = true) (hd : Kept9 d) (hl : ∀ i, d i < 256) : MadeG (keepS σ a d) f := by
  refine ⟨h.pg, fun y hy => ?_, fun y hy => ?_, fun y i => ?_, h.fv, h.fn⟩
  · unfold keepS at hy ⊢
    by_cases e : y = a / 16
    · subst e
      exact ⟨ha, by simpa using hd⟩
    · have hk : σ.kp y = true := by
        have : (σ.kp y || decide (a / 16 = y)) = true := hy
        rw [decide_eq_false (fun q => e q.symm), Bool.or_false] at this
        exact this
      exact ⟨(h.kp y hk).1, by simpa [e] using (h.kp y hk).2⟩
  · unfold keepS at hy
    by_cases e : y = a / 16
    · rw [e]; exact hm
    · have hk : σ.kp y = true := by
        have : (σ.kp y || decide (a / 16 = y)) = true := hy
        rw [decide_eq_false (fun q => e q.symm), Bool.or_false] at this
        exact this
      exact h.km y hk
  · unfold keepS
    by_cases e : y = a / 16
    · simpa [e] using hl i
    · simpa [e] using h.kv y i
def MadePost (W : World) (e : Ending) (w' : World) : Prop :=
  ∃ (B : Nat) (col : Nat → Nat) (M R g : Nat) (σ : MS) (f : Nat → CapV), e = .returned (.tuple #[.pointer (some ⟨M, 0, none⟩), .pointer (some ⟨R, 0, none⟩)]) ∧ MDE B col M R g W w' σ f ∧ MadeG σ f
set_option maxHeartbeats 12800000 in
theorem w36made (A : Option Addr) (l : List CQ) (cp : Nat) (W : World) (hl : l.length ≤ 9223372036854775807) (hA : CQS W A l) (ht : TzTab W) : Calls Tryd.prog 6 #[.slice A l.length cp] W (MadePost W) := by
  have T := Lib.hid ht
  have HA := Lib.hid hA
  obtain ⟨L, hL⟩ : ∃ L, l.length = L := ⟨_, rfl⟩
  rw [hL] at hl ⊢
  have HLEN := Lib.hid hL
  clear ht hA hL
  go_enter Tryd.func6, Tryd.ntmps6
  go_wp2_with fail
  refine (mnew 8 8 _ T.out (by decide)).mono ?_
  rintro e v1 ⟨M, col, rfl, hm, hb1⟩
  have HM := Lib.hid hm
  have HB1 := Lib.hid hb1
  clear hm hb1
  go_wp2_with fail
  refine (rnew 6 6 (by decide) v1).mono ?_
  rintro e v2 ⟨R, g, rfl, hr, hb2, hr0, hg0⟩
  have HD2 : Hid (MDE W.heap.size col M R g W v2 (newS 8) (fun _ => cap0)) := Lib.hid ⟨HM.out.later hb2, hr, ⟨HM.out.old hr0, HM.out.old hg0⟩, ⟨by have := HB1.out.size; omega, by have := HB1.out.size; omega, Nat.le_refl _⟩, thn HB1.out hb2⟩
  clear hr hb2 hr0 hg0 HM HB1
  go_wp2_with fail
  have K1 := Lib.hid (mmap_free 0 3 HD2.out.mem (by decide) (fun y _ _ => rfl))
  refine K1.out.mono ?_
  rintro e v3 (⟨h, _⟩ | ⟨-, rfl, hs3, hc3⟩)
  · exfalso
    rw [show (newS 8).pg = fun _ => false from rfl, cntF_none] at h
    exact absurd h (by decide)
  rw [show (newS 8).pg = fun _ => false from rfl, cntF_none] at hs3 hc3
  obtain ⟨col3, hd3, -, -⟩ := HD2.out.step hs3
  have HD3 := Lib.hid hd3
  have HC3 := Lib.hid hc3
  clear hs3 hc3 hd3 K1 HD2
  go_wp2_with fail
  have K2 := Lib.hid (mmap_free 5 2 HD3.out.mem (by decide) (fun y h1 h2 => by
    show (false || decide ((0 : Int) ≤ y ∧ (y : Int) < 0 + 3)) = false
    rw [Bool.false_or, decide_eq_false (by omega)]))
  refine K2.out.mono ?_
  rintro e v4 (⟨h, _⟩ | ⟨-, rfl, hs4, hc4⟩)
  · exfalso
    have h3 := HC3.out
    revert h
    show ¬ ((8 : Int) - ((cntF (onF (fun _ => false) 0 3) 1024 : Nat) : Int) < 2)
    rw [h3]
    decide
  obtain ⟨col4, hd4, -, -⟩ := HD3.out.step hs4
  obtain ⟨σ4, hσ4⟩ : ∃ σ4 : MS, σ4 = { ({ newS 8 with pg := onF (fun _ => false) 0 3, peak := max (newS 8).peak (((0 : Nat) : Int) + 3) } : MS) with pg := onF (onF (fun _ => false) 0 3) 5 2, peak := max (max (newS 8).peak (((0 : Nat) : Int) + 3)) ((cntF (onF (fun _ => false) 0 3) 1024 : Nat) + 2) } := ⟨_, rfl⟩
  have HD4 : Hid (MDE W.heap.size col4 M R g W v4 σ4 (fun _ => cap0)) := Lib.hid (by rw [hσ4]; exact hd4)
  have HG4 : Hid (MadeG σ4 (fun _ => cap0)) := Lib.hid (by
    rw [hσ4]
    exact ⟨rfl, (fun g hg => by cases hg), (fun g hg => by cases hg), (fun g i => by show (0 : Nat) < 256; decide), (fun h hh => by cases hh), fun h _ => rfl⟩)
  clear hs4 hc4 hd4 K2 HD3 HC3 hσ4
  go_wp2_with fail
  go_loopw [6] (fun v6 wr => ∃ (i : Nat) (col : Nat → Nat) (σ : MS) (f : Nat → CapV), i ≤ L ∧ i ≤ 30 ∧ v6 = .int .i64 i ∧ Hid (MDE W.heap.size col M R g W wr σ f ∧ MadeG σ f)) (fun v6 _ => L - (intOf v6).toNat)
  case atStart => exact ⟨0, _, _, _, by omega, by omega, rfl, Lib.hid ⟨HD4.out, HG4.out⟩⟩
  case round =>
    clear HD4 HG4
    obtain ⟨i, col, σ, f, hi, hi30, rfl, HP⟩ := hrel
    by_cases hgo : i < L ∧ i < 30
    · obtain ⟨g1, g2⟩ := hgo
      have g1I : (i : Int) < (L : Int) := by omega
      have g2I : (i : Int) < 30 := by omega
      have HGL := Lib.hid g1
      obtain ⟨p, hp⟩ : ∃ p, l[i]? = some p := ⟨l[i]'(by have := HLEN.out; omega), List.getElem?_eq_getElem _⟩
      obtain h0 | ⟨ab, ao, rfl, hab0, hcells⟩ := HA.out
      · have h9 := HLEN.out
        subst h0
        simp at h9
        omega
      have HAB : Hid (∀ w', Below W.heap.size W w' → CQAt w' ab (ao + i * 6) p) := Lib.hid (fun w' hb => (hcells i p hp).keep hab0 hb)
      have hab : ab < wr.heap.size := Nat.lt_of_lt_of_le hab0 HP.out.1.bel.size
      clear hcells hp hab0
      obtain ⟨⟨a0, a1, a2, a3, a4, a5⟩, -⟩ := HAB.out _ HP.out.1.bel
      go_wp2_with fail
      refine (rcap9 _ _ _ _ _ _ _).mono ?_
      rintro e w1 ⟨b, l', c, q, t, rfl, hbd, hb⟩
      have HB1 := Lib.hid hb
      have HBD := Lib.hid hbd
      clear hb hbd a0 a1 a2 a3 a4 a5 hab
      go_upto_region 8 with (fail)
      have hal : Below wr.heap.size wr (w1.alloc (.cells #[.int .i64 b, .int .i64 l', .int .i64 c, .int .i64 q, .int .i64 t, .bool true] 37)) := thn HB1.out (alc0 _ _)
      have HX2 := Lib.hid (CapAt.new w1 b l' c q t true 37)
      have HP2 := Lib.hid (And.intro (HP.out.1.later hal) HP.out.2)
      have HX0 : Hid (col w1.heap.size = 0) := Lib.hid ((HP.out.1.mem.later HB1.out).old (Nat.le_refl _))
      clear hal HB1 HP
      generalize hw2 : w1.alloc (.cells #[.int .i64 b, .int .i64 l', .int .i64 c, .int .i64 q, .int .i64 t, .bool true] 37) = w2 at *
      clear hw2
      generalize w1.heap.size = x7 at *
      have h9 := HBD.out
      obtain ⟨b, rfl⟩ : ∃ n : Nat, b = n := ⟨b.toNat, by omega⟩
      obtain ⟨l', rfl⟩ : ∃ n : Nat, l' = n := ⟨l'.toNat, by omega⟩
      obtain ⟨q, rfl⟩ : ∃ n : Nat, q = n := ⟨q.toNat, by omega⟩
      obtain ⟨t, rfl⟩ : ∃ n : Nat, t = n := ⟨t.toNat, by omega⟩
      have hok : capOkB (b : Int) (l' : Int) c (q : Int) (t : Int) = true := by
        simp only [capOkB, pmayB, Bool.and_eq_true, mayB_iff, decide_eq_true_eq]
        omega
      have HC9 : Hid (Cap9 ⟨b, l', c, q, t, true⟩) := Lib.hid ⟨by show (0 : Int) ≤ (b : Int); omega, by show (b : Int) ≤ 2047; omega, by show (1 : Int) ≤ (l' : Int); omega, by show (l' : Int) ≤ 256; omega, by show (l' : Int) ≤ 2048 - (b : Int); omega, hok⟩
      have HOK := Lib.hid hok
      clear h9 hok
      have e3 := and3 (i : Int)
      obtain ⟨k4, hk4⟩ : ∃ k : Nat, i % 4 = k := ⟨_, rfl⟩
      have hk4I : (i : Int) % 4 = (k4 : Int) := by omega
      rw [hk4I] at e3
      clear hk4I hk4
      obtain ⟨-, z0, z1, z2, z3, z4, z5, -⟩ := HX2.out
      by_cases h4 : k4 = 0
      · subst h4
        obtain ⟨q4, hq4⟩ : ∃ k : Nat, i / 4 = k := ⟨_, rfl⟩
        obtain ⟨h6, hh6⟩ : ∃ k : Nat, q4 % 6 = k := ⟨_, rfl⟩
        have d1 : (i : Int).tdiv 4 = (q4 : Int) := by rw [Int.tdiv_eq_ediv_of_nonneg (by omega)]; omega
        have d2 : (q4 : Int).tmod 6 = (h6 : Int) := by rw [Int.tmod_eq_emod_of_nonneg (by omega)]; omega
        have d3 : (i : Int) / 4 = (q4 : Int) := by omega
        have d4 : (q4 : Int) % 6 = (h6 : Int) := by omega
        have d5 : q4 < 100 := by omega
        have H6 : Hid (h6 < 6) := Lib.hid (by omega)
        clear hq4 hh6
        go_wp2_with fail
        refine (cput R g 6 h6 ⟨b, l', c, q, t, true⟩ _ f HP2.out.1.reg H6.out HOK.out).mono ?_
        rintro e w3 ⟨rfl, hr, hk⟩
        have HP3 := Lib.hid (And.intro (HP2.out.1.put hr hk) (HP2.out.2.put HC9.out rfl h6))
        clear hr hk HP2
        go_wp2_with fail
        go_roundw
        case rel => exact ⟨i + 1, _, _, _, by have := HGL.out; omega, by omega, by go_num, HP3⟩
        case measure => simp [intOf]; have := HGL.out; omega
      · have h4I : ((k4 : Int) == 0) = false := by simpa using h4
        clear h4
        obtain ⟨⟨a0, a1, a2, a3, a4, a5⟩, -⟩ := HAB.out _ HP2.out.1.bel
        have e7 := and127 (p.c / 256)
        obtain ⟨kq, hkq⟩ : ∃ k : Nat, p.c / 256 % 128 = (k : Int) := ⟨(p.c / 256 % 128).toNat, by omega⟩
        have HKQ : Hid (kq < 128) := Lib.hid (by omega)
        rw [hkq] at e7
        obtain ⟨a16, ha16⟩ : ∃ a : Nat, kq * 16 = a := ⟨_, rfl⟩
        have e8 : IntKind.i64.wrap ((kq : Int) * 16) = (a16 : Int) := by rw [IntWalk.i64_in _ (by omega)]; omega
        have HA16 := Lib.hid ha16
        clear hkq ha16
        go_upto_region 10 with (fail)
        have HTAKE := Lib.hid (fun (w' : World) (h : CapAt x7 w' b l' c q t true ∧ CQAt w' ab (ao + i * 6) p) => And.intro h.1.2 h.2.1)
        refine wp_region_held_drew (S := fun w' => CapAt x7 w' b l' c q t true ∧ CQAt w' ab (ao + i * 6) p) (by kernel_rfl) ?_ (fun hHeld => ?_)
        · exact ⟨HX2.out.below (Below.refl _ _).drew, HAB.out _ (HP2.out.1.later (Below.refl _ _).drew).bel⟩
        refine wpAnyH_take (i := 0) (v := ?_) rfl (by kernel_rfl) (by kernel_rfl) (by kernel_rfl) (fun _ _ _ h => h) (Or.inl ⟨by kernel_rfl, ?_⟩) (by assumption) ?_
        rotate_left
        · (intro w hSw; (try dsimp only at hSw); (try have hTk := Hid.out HTAKE _ hSw); go_simp)
          try (with_reducible rfl)
        rotate_left
        try simp (maxSteps := 4000000) only [Act.put, List.setIfInBounds_toArray, List.set_cons_zero, List.set_cons_succ, List.getElem_toArray, List.getElem_cons_zero, List.getElem_cons_succ]
        refine wpAnyH_take (i := 1) (v := ?_) rfl (by kernel_rfl) (by kernel_rfl) (by kernel_rfl) (fun _ _ _ h => h) (Or.inl ⟨by kernel_rfl, ?_⟩) (by assumption) ?_
        rotate_left
        · (intro w hSw; (try dsimp only at hSw); (try have hTk := Hid.out HTAKE _ hSw); go_simp)
          try (with_reducible rfl)
        rotate_left
        try simp (maxSteps := 4000000) only [Act.put, List.setIfInBounds_toArray, List.set_cons_zero, List.set_cons_succ, List.getElem_toArray, List.getElem_cons_zero, List.getElem_cons_succ]
        refine wpAnyH_take (i := 2) (v := ?_) rfl (by kernel_rfl) (by kernel_rfl) (by kernel_rfl) (fun _ _ _ h => h) (Or.inl ⟨by kernel_rfl, ?_⟩) (by assumption) ?_
        rotate_left
        · (intro w hSw; (try dsimp only at hSw); (try have hTk := Hid.out HTAKE _ hSw); go_simp)
          try (with_reducible rfl)
        rotate_left
        try simp (maxSteps := 4000000) only [Act.put, List.setIfInBounds_toArray, List.set_cons_zero, List.set_cons_succ, List.getElem_toArray, List.getElem_cons_zero, List.getElem_cons_succ]
        refine wpAnyH_take (i := 3) (v := ?_) rfl (by kernel_rfl) (by kernel_rfl) (by kernel_rfl) (fun _ _ _ h => h) (Or.inl ⟨by kernel_rfl, ?_⟩) (by assumption) ?_
        rotate_left
        · (intro w hSw; (try dsimp only at hSw); (try have hTk := Hid.out HTAKE _ hSw); go_simp)
          try (with_reducible rfl)
        rotate_left
        try simp (maxSteps := 4000000) only [Act.put, List.setIfInBounds_toArray, List.set_cons_zero, List.set_cons_succ, List.getElem_toArray, List.getElem_cons_zero, List.getElem_cons_succ]
        refine wpAnyH_take (i := 4) (v := ?_) rfl (by kernel_rfl) (by kernel_rfl) (by kernel_rfl) (fun _ _ _ h => h) (Or.inl ⟨by kernel_rfl, ?_⟩) (by assumption) ?_
        rotate_left
        · (intro w hSw; (try dsimp only at hSw); (try have hTk := Hid.out HTAKE _ hSw); go_simp)
          try (with_reducible rfl)
        rotate_left
        try simp (maxSteps := 4000000) only [Act.put, List.setIfInBounds_toArray, List.set_cons_zero, List.set_cons_succ, List.getElem_toArray, List.getElem_cons_zero, List.getElem_cons_succ]
        refine wpAnyH_take (i := 5) (v := ?_) rfl (by kernel_rfl) (by kernel_rfl) (by kernel_rfl) (fun _ _ _ h => h) (Or.inl ⟨by kernel_rfl, ?_⟩) (by assumption) ?_
        rotate_left
        · (intro w hSw; (try dsimp only at hSw); (try have hTk := Hid.out HTAKE _ hSw); go_simp)
          try (with_reducible rfl)
        rotate_left
        try simp (maxSteps := 4000000) only [Act.put, List.setIfInBounds_toArray, List.set_cons_zero, List.set_cons_succ, List.getElem_toArray, List.getElem_cons_zero, List.getElem_cons_succ]
        refine wpAnyH_take (i := 6) (v := ?_) rfl (by kernel_rfl) (by kernel_rfl) (by kernel_rfl) (fun _ _ _ h => h) (Or.inl ⟨by kernel_rfl, ?_⟩) (by assumption) ?_
        rotate_left
        · (intro w hSw; (try dsimp only at hSw); (try have hTk := Hid.out HTAKE _ hSw); go_simp)
          try (with_reducible rfl)
        rotate_left
        try simp (maxSteps := 4000000) only [Act.put, List.setIfInBounds_toArray, List.set_cons_zero, List.set_cons_succ, List.getElem_toArray, List.getElem_cons_zero, List.getElem_cons_succ]
        refine wpAnyH_take (i := 7) (v := ?_) rfl (by kernel_rfl) (by kernel_rfl) (by kernel_rfl) (fun _ _ _ h => h) (Or.inl ⟨by kernel_rfl, ?_⟩) (by assumption) ?_
        rotate_left
        · (intro w hSw; (try dsimp only at hSw); (try have hTk := Hid.out HTAKE _ hSw); go_simp)
          try (with_reducible rfl)
        rotate_left
        try simp (maxSteps := 4000000) only [Act.put, List.setIfInBounds_toArray, List.set_cons_zero, List.set_cons_succ, List.getElem_toArray, List.getElem_cons_zero, List.getElem_cons_succ]
        refine wpAnyH_take (i := 8) (v := ?_) rfl (by kernel_rfl) (by kernel_rfl) (by kernel_rfl) (fun _ _ _ h => h) (Or.inl ⟨by kernel_rfl, ?_⟩) (by assumption) ?_
        rotate_left
        · (intro w hSw; (try dsimp only at hSw); (try have hTk := Hid.out HTAKE _ hSw); go_simp)
          try (with_reducible rfl)
        rotate_left
        try simp (maxSteps := 4000000) only [Act.put, List.setIfInBounds_toArray, List.set_cons_zero, List.set_cons_succ, List.getElem_toArray, List.getElem_cons_zero, List.getElem_cons_succ]
        refine wpAnyH_take (i := 9) (v := ?_) rfl (by kernel_rfl) (by kernel_rfl) (by kernel_rfl) (fun _ _ _ h => h) (Or.inl ⟨by kernel_rfl, ?_⟩) (by assumption) ?_
        rotate_left
        · (intro w hSw; (try dsimp only at hSw); (try have hTk := Hid.out HTAKE _ hSw); go_simp)
          try (with_reducible rfl)
        rotate_left
        try simp (maxSteps := 4000000) only [Act.put, List.setIfInBounds_toArray, List.set_cons_zero, List.set_cons_succ, List.getElem_toArray, List.getElem_cons_zero, List.getElem_cons_succ]
        refine wpAnyH_ready (rs := [10]) (by kernel_rfl) (by simp) ?_
        refine AllReadyH.cons rfl (fun K2 hK2 => ?_) AllReadyH.nil
        go_simp
        obtain ⟨LD, hLD⟩ : ∃ n : Nat, c - (b : Int) + 1048576 = n := ⟨(c - (b : Int) + 1048576).toNat, by have := HBD.out; omega⟩
        with_reducible refine Calls.mono (cbytes_yes b l' LD q t c _ HOK.out hLD) ?_
        rintro e w3 ⟨D5, rfl, hD5, hrow, hb3⟩
        have hb : Below w2.heap.size w2 w3 := thn (Below.refl _ _).drew hb3
        have HP3 := Lib.hid (And.intro (HP2.out.1.later hb) HP2.out.2)
        have HX3 := Lib.hid (HX2.out.below hb)
        have HRW := Lib.hid hrow
        have HD5 : Hid (col D5 = 0) := Lib.hid (HP2.out.1.mem.old hD5)
        have HLD := Lib.hid hLD
        clear hD5 hrow hb3 hb HP2 HX2 hLD
        refine hK2.out _ _ (⟨HX3.out, HAB.out _ HP3.out.1.bel⟩) (fun hHeld2 => ?_)
        clear hK2 K2 hHeld
        have hHeld := hHeld2
        clear hHeld2
        try simp (maxSteps := 4000000) only [Act.put, List.setIfInBounds_toArray, List.set_cons_zero, List.set_cons_succ]
        refine wpAnyH_ready (rs := [11]) (by kernel_rfl) (by simp) ?_
        refine AllReadyH.cons rfl (fun K2 hK2 => ?_) AllReadyH.nil
        go_simp
        have ha := HA16.out
        have hq := HKQ.out
        have HT16 : Hid ((a16 : Int).tmod 16 = 0) := Lib.hid (by rw [Int.tmod_eq_emod_of_nonneg (by omega)]; omega)
        have hop : openB σ.pg (a16 : Int) 16 = pgM (kq / 16) := by
          rw [HP3.out.2.pg]
          unfold openB
          rw [mayB_iff.2 (by omega), Bool.true_and, Bool.eq_iff_iff, wholeF_iff]
          have e1 : ((a16 : Int) / 256).toNat = kq / 16 := by omega
          have e2 : (((a16 : Int) + 16 - 1) / 256 - (a16 : Int) / 256 + 1).toNat = 1 := by omega
          rw [e1, e2]
          exact ⟨fun h => h _ (Nat.le_refl _) (by omega), fun h y h1 h2 => by rw [show y = kq / 16 by omega]; exact h⟩
        cases hpg : pgM (kq / 16) with
        | true =>
          rw [hpg] at hop
          have HOP := Lib.hid hop
          have HDV : Hid (a16 % 16 = 0 ∧ a16 / 16 < 128) := Lib.hid (by omega)
          have HPGM : Hid (pgM (a16 / 16 / 16) = true) := Lib.hid (by rw [show a16 / 16 / 16 = kq / 16 by omega]; exact hpg)
          clear ha hq hop hpg
          have HCL : Hid (∀ i, i < 16 → w3.cell? ⟨D5, 0 + i, none⟩ = some (.int .u8 (codeF b l' LD q t i : Int))) := Lib.hid (fun i hi => by rw [Nat.zero_add]; exact (HRW.out.2 i hi).1)
          with_reducible refine Calls.mono (mkeep_ok a16 D5 0 16 (codeF b l' LD q t) HP3.out.1.mem HDV.out.1 HOP.out HCL.out HD5.out) ?_
          rintro e w4 ⟨rfl, hs⟩
          obtain ⟨col4, hd4, hc4, ho4⟩ := HP3.out.1.step hs
          have HX4 := Lib.hid (HX3.out.keep (by obtain ⟨_, _, _, _, h⟩ := hs; exact h.size) (ho4 x7 HX3.out.1 (by rw [HX0.out]; decide)))
          have HP4 := Lib.hid (And.intro hd4 (HP3.out.2.keep HDV.out.2 HPGM.out ⟨b, l', LD, q, t, c, rfl, HLD.out, HC9.out⟩ (codeF_lt _ _ _ _ _ (by have := HBD.out; omega) (by have := HBD.out; omega))))
          clear hs hd4 hc4 ho4 HP3 HX3
          refine hK2.out _ _ (⟨HX4.out, HAB.out _ HP4.out.1.bel⟩) (fun hHeld2 => ?_)
          clear hK2 K2 hHeld
          have hHeld := hHeld2
          clear hHeld2
          try simp (maxSteps := 4000000) only [Act.put, List.setIfInBounds_toArray, List.set_cons_zero, List.set_cons_succ]
          refine wpAnyH_done (by kernel_rfl) ?_ _
          clear hHeld HTAKE
          go_wp2_with fail
          go_roundw
          case rel => exact ⟨i + 1, _, _, _, by have := HGL.out; omega, by omega, by go_num, HP4⟩
          case measure => simp [intOf]; have := HGL.out; omega
        | false =>
          rw [hpg] at hop
          have hre : refE σ.pg (a16 : Int) 16 = 5 := by
            unfold refE
            rw [mayB_iff.2 (by omega), hop]
            rfl
          have HRE := Lib.hid hre
          clear ha hq hop hpg hre
          with_reducible refine Calls.mono (mkeep_no 5 (a16 : Int) (some ⟨D5, 0, none⟩) 16 16 HP3.out.1.mem (.inr (.inr ⟨rfl, HT16.out, HRE.out, by decide⟩)) (by decide)) ?_
          rintro e w4 ⟨rfl, hb⟩
          have HX4 := Lib.hid (HX3.out.below hb)
          have HP4 := Lib.hid (And.intro (HP3.out.1.later hb) HP3.out.2)
          clear hb HP3 HX3
          refine hK2.out _ _ (⟨HX4.out, HAB.out _ HP4.out.1.bel⟩) (fun hHeld2 => ?_)
          clear hK2 K2 hHeld
          have hHeld := hHeld2
          clear hHeld2
          try simp (maxSteps := 4000000) only [Act.put, List.setIfInBounds_toArray, List.set_cons_zero, List.set_cons_succ]
          refine wpAnyH_done (by kernel_rfl) ?_ _
          clear hHeld HTAKE
          go_wp2_with fail
          go_roundw
          case rel => exact ⟨i + 1, _, _, _, by have := HGL.out; omega, by omega, by go_num, HP4⟩
          case measure => simp [intOf]; have := HGL.out; omega
    · rename World => wz
      by_cases hL2 : i < L
      · have g1I : (i : Int) < (L : Int) := by omega
        have g2I : ¬ (i : Int) < 30 := by omega
        go_wp2_with fail
        go_ret2
        exact ⟨W.heap.size, col, M, R, g, σ, f, rfl, HP.out.1, HP.out.2⟩
      · have g1I : ¬ (i : Int) < (L : Int) := by omega
        go_wp2_with fail
        go_ret2
        exact ⟨W.heap.size, col, M, R, g, σ, f, rfl, HP.out.1, HP.out.2⟩
end Go.Proofs.YtljjcomedjdpaaaDoor
