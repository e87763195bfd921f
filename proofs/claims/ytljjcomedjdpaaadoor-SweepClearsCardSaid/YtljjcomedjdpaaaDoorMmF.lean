/- MmE, MmF in one text: a claim holds at most 60 files. -/
import Derived.Test.YtljjcomedjdpaaaDoorMmD
import Derived.Deep.RegionHeld3
namespace Go.Proofs.YtljjcomedjdpaaaDoor
set_option maxRecDepth 100000
open Go.RowKit Go.ChangeMaps Go.MapKept
set_option linter.unusedVariables false
set_option linter.unusedSimpArgs false

section
variable {B : Nat} {col : Nat → Nat} {M : Nat} {W : World} {σ : MS}
open Classical in
theorem st_lift {W' : World} {P sg t S kb b : Nat} {l l' : List (Nat × Nat)} {c' : Nat → Nat} (h : MEM B col M W σ) (hn : MCells M P sg t S kb W ∧ PgC col P W σ.pg σ.most σ.peak ∧ StC B col sg W σ.c ∧ TgC col t W σ.f ∧ SlC col S W σ.kp ∧ KpC col kb W σ.kp σ.kv)
    (hb : col b = 3) (hsg : col sg = 3) (hl : ∀ pq ∈ l, col pq.2 = 3) (hs : STL B sg b W' l' c') (hf : FR b l W W' l') (hB : Below B W W') (hc : ∀ x, c' x < 256) : MStep B col M W { σ with c := c' } W' := by
  have hbz : b < W.heap.size := (h.own b (by rw [hb]; decide)).2
  have hgz : sg < W.heap.size := (h.own sg (by rw [hsg]; decide)).2
  refine h.set_st (col' := fun i => if i < W.heap.size then col i else if ∃ pq ∈ l', pq.2 = i then 3 else 0) hn hB (fun i hi hc => hf.2 i hi (fun e => hc (by rw [e]; exact hb)) (fun pq hpq e => hc (by rw [← e]; exact hl pq hpq))) (fun i hi => if_pos hi) (fun i hi h0 => ?_) ⟨b, l', hs, (if_pos hgz).trans hsg, (if_pos hbz).trans hb, fun pq hpq => ?_, hc⟩
  · simp only [if_neg (show ¬ i < W.heap.size by omega)] at h0
    by_cases he : ∃ pq ∈ l', pq.2 = i
    · obtain ⟨pq, hpq, rfl⟩ := he
      exact (hs.2.2.2.1 pq hpq).2.2.2.1
    · rw [if_neg he] at h0
      exact absurd rfl h0
  · by_cases hz : pq.2 < W.heap.size
    · simp only [if_pos hz]
      rcases hf.1 pq hpq with h1 | h1
      · exact hl pq h1
      · omega
    · simp only [if_neg hz]
      rw [if_pos ⟨pq, hpq, rfl⟩]

def offF (kp : Nat → Bool) (f n : Nat) : Nat → Bool := fun x => kp x && !decide (f ≤ x ∧ x < f + n)
theorem kp_high {ws : List Nat} {kp : Nat → Bool} (hl : ws.length = 256) (hb : ∀ y, bitB ws y = kp y) (y : Nat) (hy : 16384 ≤ y) : kp y = false := by
  rw [← hb y]
  unfold bitB
  rw [List.getD_eq_getElem?_getD, List.getElem?_eq_none (by omega)]
  exact Nat.zero_testBit _
theorem drop_cnt {kp : Nat → Bool} {ws : List Nat} {f n : Nat} (hl : ws.length = 256) (hb : ∀ y, bitB ws y = kp y) (hfn : f + n ≤ 16384) : (dropN ws f n).2 ≤ (cntF kp 16384 : Nat) ∧ (cntF kp 16384 : Nat) - (dropN ws f n).2 = (cntF (offF kp f n) 16384 : Nat) ∧ (∀ y, bitB (dropN ws f n).1 y = offF kp f n y) ∧ (dropN ws f n).1.length = 256 := by
  have hbits : ∀ y, bitB (dropN ws f n).1 y = offF kp f n y := fun y => by rw [dropN_bits _ _ _ _ (by omega), hb]; rfl
  have h1 := dropN_cnt ws f n 16384 hfn (by omega)
  rw [cntB_F, cntB_F, show bitB (dropN ws f n).1 = offF kp f n from funext hbits, show bitB ws = kp from funext hb] at h1
  exact ⟨by omega, by omega, hbits, by rw [dropN_len]; exact hl⟩
theorem gr_sJ {b l : Int} (hm : mayB b l = true) : sJ 16384 (spF b l 16) (spN b l 16) = grN b l ∧ (spF b l 16).toNat = grF b := by
  obtain ⟨h1, h2, h3, h4, h5⟩ := gr_in hm
  rw [h1, h2]
  refine ⟨?_, Int.toNat_natCast _⟩
  unfold sJ sendI
  rw [if_pos (by omega)]
  omega

/-- The first granule from F on in which something is kept; -1: there is none. -/
def NextF (kp : Nat → Bool) (F : Nat) (r : Int) : Prop := (r = -1 ∧ ∀ y, F ≤ y → kp y = false) ∨ ∃ y : Nat, r = y ∧ F ≤ y ∧ y < 16384 ∧ kp y = true ∧ ∀ z, F ≤ z → z < y → kp z = false
theorem slnextF {S : Nat} {kp : Nat → Bool} (x : Int) (h : SlC col S W kp) (ht : TzTab W) :
    Calls Tryd.prog 65 #[.pointer (some ⟨S, 0, none⟩), .int .i64 x] W fun e w' => (∃ r, e = .returned (.int .i64 r) ∧ NextF kp (max x 0).toNat r) ∧ W = w' := by
  obtain ⟨lo, hi, g, ws, h1, h2, h3, h4⟩ := h
  refine (slnext x h1 ht).mono ?_
  rintro e w' ⟨rfl, r, rfl, q1, q2⟩
  refine ⟨⟨r, rfl, ?_⟩, rfl⟩
  by_cases hx : max x 0 < 16384
  · rcases q2 hx with ⟨e, q⟩ | ⟨y, e, y1, y2, y3, y4⟩
    · refine .inl ⟨e, fun y hy => ?_⟩
      by_cases hy2 : y / 64 < 256
      · rw [← h3 y]; exact q y hy (by rw [h2]; exact hy2)
      · exact kp_high h2 h3 y (by omega)
    · exact .inr ⟨y, e, y1, by rw [h2] at y2; omega, by rw [← h3]; exact y3, fun z a b => by rw [← h3]; exact y4 z a b⟩
  · exact .inl ⟨q1 (by omega), fun y hy => kp_high h2 h3 y (by omega)⟩
theorem slwroteF {S : Nat} {kp : Nat → Bool} (b l : Int) (h : SlC col S W kp) (hm : mayB b l = true) (hz : ∀ i, col i ≠ 0 → i < W.heap.size) :
    Calls Tryd.prog 82 #[.pointer (some ⟨S, 0, none⟩), .agg #[.int .i64 b, .int .i64 l]] W fun e w' => (∃ r, e = .returned (.int .i64 r)) ∧ SlC col S w' (offF kp (grF b) (grN b l)) ∧ (∀ i, i < W.heap.size → col i ≠ 5 → w'.heap[i]? = W.heap[i]?) ∧ (∃ lo, (∀ i, lo ≤ i → i ≤ S → col i = 5) ∧ lo ≤ S ∧ Below lo W w') := by
  obtain ⟨lo, hi, g, ws, h1, h2, h3, h4⟩ := h
  have hg := gr_in hm
  obtain ⟨d1, d2, d3, d4⟩ := drop_cnt h2 h3 (f := grF b) (n := grN b l) hg.2.2.1
  have hw := slwrote b l h1 (by rw [(gr_sJ hm).1, (gr_sJ hm).2]; exact d1)
  refine hw.mono ?_
  rintro e w' ⟨he, hs, hb, ho, hsz⟩
  rw [(gr_sJ hm).1, (gr_sJ hm).2] at hs
  rw [d2] at hs
  have hlS : lo ≤ S := by have := h1.1.1; have := h1.2.1.1; omega
  refine ⟨⟨_, he⟩, ⟨lo, hi, g, _, hs, d4, d3, h4⟩, fun i hi hc => ?_, lo, h4, hlS, hb⟩
  by_cases hi2 : lo ≤ i
  · by_cases hip : i ≤ S
    · exact absurd (h4 i hi2 hip) hc
    · exact ho i (by omega) hi
  · exact hb.block i (by omega)
/-- Behind forget: what is kept, and where. -/
theorem forget_end {w1 wr w3 : World} {P sg t S kb F N : Nat} {l : List (Nat × Nat × Nat)} (h : MEM B col M w1 σ) (hn : MCells M P sg t S kb w1 ∧ PgC col P w1 σ.pg σ.most σ.peak ∧ StC B col sg w1 σ.c ∧ TgC col t w1 σ.f ∧ SlC col S w1 σ.kp ∧ KpC col kb w1 σ.kp σ.kv)
    (hkb : kb < w1.heap.size ∧ col kb = 6) (hall : ∀ e ∈ l, col e.2.1 = 7 ∧ 16 ≤ e.2.2 ∧ e.2.2 ≤ 9223372036854775807 ∧ PGn e.2.1 16 w1 (σ.kv e.1)) (hiff : ∀ x, σ.kp x = true ↔ ∃ e ∈ l, e.1 = x)
    (hOB : OB kb w1 wr) (hsz : wr.heap.size = w1.heap.size) (hl : ∃ l', KM kb wr l' ∧ ∀ x, x ∈ l' ↔ (x ∈ l ∧ ¬ (F ≤ x.1 ∧ x.1 < F + N)))
    (hs3 : SlC col S w3 (offF σ.kp F N)) (ho3 : ∀ i, i < wr.heap.size → col i ≠ 5 → w3.heap[i]? = wr.heap[i]?) (hb3 : ∃ lo, (∀ i, lo ≤ i → i ≤ S → col i = 5) ∧ lo ≤ S ∧ Below lo wr w3) : MStep B col M w1 { σ with kp := offF σ.kp F N } w3 := by
  obtain ⟨l', k1, k2⟩ := hl
  obtain ⟨lo, b1, b2, b3⟩ := hb3
  have hloB : B ≤ lo := (h.own lo (by rw [b1 lo (Nat.le_refl _) b2]; decide)).1
  have hkB : B ≤ kb := (h.own kb (by rw [hkb.2]; decide)).1
  have hBe : Below B w1 w3 := (hOB.2.2 B hkB h.size).trans (b3.mono hloB)
  have hst : ∀ i, i < w1.heap.size → col i ≠ 5 → col i ≠ 6 → w3.heap[i]? = w1.heap[i]? := fun i hi h5 h6 => (ho3 i (by omega) h5).trans (hOB.2.1 i hi (fun e => h6 (by rw [e]; exact hkb.2)))
  have hsz3 := b3.size
  refine h.set_kp (col' := col) hn hBe hst (fun _ _ => rfl) (fun i hi h0 => by have := (h.own i h0).2; omega) hs3 ⟨l', k1.keep (ho3 kb (by omega) (by rw [hkb.2]; decide)), by omega, hkb.2, fun e he => ?_, fun x => ?_⟩
  · obtain ⟨m1, m2, m3, m4⟩ := hall e ((k2 e).1 he).1
    exact ⟨m1, m2, m3, m4.keep (by omega) (hst _ m4.1 (by rw [m1]; decide) (by rw [m1]; decide))⟩
  · unfold offF
    rw [Bool.and_eq_true, hiff, Bool.not_eq_true', decide_eq_false_iff_not]
    constructor
    · rintro ⟨⟨e, he, rfl⟩, hno⟩
      exact ⟨e, (k2 e).2 ⟨he, hno⟩, rfl⟩
    · rintro ⟨e, he, rfl⟩
      obtain ⟨a, b⟩ := (k2 e).1 he
      exact ⟨⟨e, a, rfl⟩, b⟩
end
end Go.Proofs.YtljjcomedjdpaaaDoor
namespace Go.Proofs.YtljjcomedjdpaaaDoor
set_option maxRecDepth 100000
open Go.RowKit Go.ChangeMaps Go.MapKept
set_option linter.unusedVariables false
set_option linter.unusedSimpArgs false

section
variable {B : Nat} {col : Nat → Nat} {M : Nat} {W : World} {σ : MS}
set_option maxHeartbeats 6400000 in
theorem mforget (b l : Int) (h : MEM B col M W σ) (hm : mayB b l = true) :
    Calls Tryd.prog 71 #[.pointer (some ⟨M, 1, none⟩), .agg #[.int .i64 b, .int .i64 l]] W fun e w' => e = .returned (.tuple #[]) ∧ MStep B col M W { σ with kp := offF σ.kp (grF b) (grN b l) } w' := by
  have H := Lib.hid h
  have HMB := Lib.hid hm
  have HG := Lib.hid (gr_in hm)
  clear h hm
  go_enter Tryd.func71, Tryd.ntmps71
  go_wp2_with fail
  refine (granules_any b l _).mono ?_
  rintro e w1 ⟨rfl, hb⟩
  have HB : Hid (Below W.heap.size W w1) := Lib.hid (thn (alc0 W _) hb)
  have hz1 : W.heap.size < w1.heap.size := by have := hb.size; simp at this; omega
  have s0 : w1.cell? ⟨W.heap.size, 0, none⟩ = some (.int .i64 b) := by rw [(bcell hb).1 _ _ (by simp)]; simp
  have s1 : w1.cell? ⟨W.heap.size, 1, none⟩ = some (.int .i64 l) := by rw [(bcell hb).1 _ _ (by simp)]; simp
  have HX0 : Hid (col W.heap.size = 0) := Lib.hid (H.out.old (Nat.le_refl _))
  have h1 := H.out.later HB.out
  have H1 := Lib.hid h1
  obtain ⟨P, sg, t, S, kb, hn⟩ := h1.ex
  have HN := Lib.hid hn
  obtain ⟨⟨-, -, -, k3, k4⟩, -, -, -, hsl, ⟨kl, hkm, hkz, hk6, hkall, hkiff⟩⟩ := hn
  have HK := Lib.hid (And.intro hkm (And.intro (And.intro hkz hk6) (And.intro hkall hkiff)))
  have hMz : M < w1.heap.size := h1.lo.2
  have hMk : M ≠ kb := fun e => by have := h1.me; rw [e, hk6] at this; exact absurd this (by decide)
  have HSL := Lib.hid hsl
  have hxk : W.heap.size ≠ kb := fun e => by have := HX0.out; rw [e, hk6] at this; exact absurd this (by decide)
  have HTZ := Lib.hid h1.tz
  have HTB : Hid (∀ wr, OB kb w1 wr → TzTab wr) := Lib.hid (fun wr ho => by
    obtain ⟨w0, t1, t2, t3⟩ := H1.out.tab
    have hkB : B ≤ kb := (H1.out.own kb (by rw [hk6]; decide)).1
    exact t1.later (t3.trans (ho.2.2 w0.heap.size (by omega) (by have := H1.out.size; omega))))
  rw [HG.out.1, HG.out.2.1]
  obtain ⟨g2, g3, g4⟩ := HG.out.2.2
  clear h1 hsl hkm hkz hkall hkiff hb
  obtain ⟨x3, hx3⟩ : ∃ x3, W.heap.size = x3 := ⟨_, rfl⟩
  have HX3 := Lib.hid hx3
  rw [hx3] at hz1 s0 s1 hxk
  try rw [hx3]
  clear hx3
  have HFN : Hid (grF b = grF b ∧ grN b l = grN b l) := Lib.hid ⟨rfl, rfl⟩
  obtain ⟨F0, hF0⟩ : ∃ F0, grF b = F0 := ⟨_, rfl⟩
  obtain ⟨N0, hN0⟩ : ∃ N0, grN b l = N0 := ⟨_, rfl⟩
  have HE := Lib.hid (And.intro hF0 hN0)
  rw [hF0, hN0] at g2
  rw [hN0] at g3
  rw [hF0] at g4
  rw [hF0, hN0]
  clear hF0 hN0 HG HFN
  have u2 : (F0 : Int) + (N0 : Int) ≤ 16384 := by omega
  go_wp2_with fail
  refine (slnextF (F0 : Int) HSL.out HTZ.out).mono ?_
  rintro e w' ⟨⟨r, rfl, hr⟩, rfl⟩
  have hr2 : NextF σ.kp F0 r := by
    rw [show (max (F0 : Int) 0).toNat = F0 by omega] at hr
    exact hr
  have HR := Lib.hid hr2
  clear hr hr2
  go_wp2_with fail
  go_loopw [6] (fun v6 wr => ∃ (r : Int) (F : Nat), v6 = .int .i64 r ∧ F0 ≤ F ∧ F ≤ F0 + N0 ∧ Hid (NextF σ.kp F r) ∧ Hid ((∃ l', KM kb wr l' ∧ ∀ x, x ∈ l' ↔ (x ∈ kl ∧ ¬ (F0 ≤ x.1 ∧ x.1 < F))) ∧ OB kb w1 wr ∧ wr.heap.size = w1.heap.size)) (fun v6 _ => lsM 16384 (intOf v6))
  case atStart => exact ⟨r, F0, rfl, Nat.le_refl _, Nat.le_add_right _ _, HR, Lib.hid ⟨⟨kl, HK.out.1, fun x => ⟨fun h => ⟨h, by omega⟩, fun h => h.1⟩⟩, OB.of_below (Below.refl _ _), rfl⟩⟩
  case round =>
    clear HR
    obtain ⟨r, F, rfl, hF, hF2, HR, HL⟩ := hrel
    have hzr : wr.heap.size = w1.heap.size := HL.out.2.2
    have c3 : wr.cell? ⟨M, 3, none⟩ = some (.pointer (some ⟨S, 0, none⟩)) := (World.cell?_of_block (HL.out.2.1.2.1 M hMz hMk)).trans k3
    have c4 : wr.cell? ⟨M, 4, none⟩ = some (.map (some kb)) := (World.cell?_of_block (HL.out.2.1.2.1 M hMz hMk)).trans k4
    have d0 : wr.cell? ⟨x3, 0, none⟩ = some (.int .i64 b) := (World.cell?_of_block (HL.out.2.1.2.1 x3 hz1 hxk)).trans s0
    have d1 : wr.cell? ⟨x3, 1, none⟩ = some (.int .i64 l) := (World.cell?_of_block (HL.out.2.1.2.1 x3 hz1 hxk)).trans s1
    have HSLr : Hid (SlC col S wr.drew σ.kp) := Lib.hid (HSL.out.move (by show w1.heap.size ≤ wr.heap.size; omega) (fun i hi hc => HL.out.2.1.2.1 i hi (fun e => by rw [e, hk6] at hc; exact absurd hc (by decide))) (fun _ _ => rfl))
    have HEND : Hid ((∀ y, F ≤ y → y < F0 + N0 → σ.kp y = false) → ∀ w3, SlC col S w3 (offF σ.kp F0 N0) → (∀ i, i < wr.heap.size → col i ≠ 5 → w3.heap[i]? = wr.heap[i]?) → (∃ lo, (∀ i, lo ≤ i → i ≤ S → col i = 5) ∧ lo ≤ S ∧ Below lo wr w3) → MStep B col M W { σ with kp := offF σ.kp F0 N0 } w3) := Lib.hid (fun hno w3 q1 q2 q3 => by
      obtain ⟨⟨l', m1, m2⟩, m3, m4⟩ := HL.out
      refine MStep.before H.out.size HB.out (forget_end H1.out HN.out HK.out.2.1 HK.out.2.2.1 HK.out.2.2.2 m3 m4 ⟨l', m1, fun x => ?_⟩ q1 q2 q3)
      rw [m2 x]
      constructor
      · rintro ⟨a1, a2⟩
        refine ⟨a1, fun a3 => ?_⟩
        have := hno x.1 (by omega) a3.2
        rw [(HK.out.2.2.2 x.1).2 ⟨x, a1, rfl⟩] at this
        exact absurd this (by decide)
      · rintro ⟨a1, a2⟩
        exact ⟨a1, fun a3 => a2 ⟨a3.1, by omega⟩⟩)
    have HZ : Hid (∀ i, col i ≠ 0 → i < wr.drew.heap.size) := Lib.hid (fun i hi => by show i < wr.heap.size; have := (H1.out.own i hi).2; omega)
    rcases HR.out with ⟨rfl, hno⟩ | ⟨y, rfl, y1, y2, y3, y4⟩
    · have HF := Lib.hid (HEND.out (fun z a _ => hno z a))
      clear hno HEND HR HL
      go_upto_region 6 with (fail)
      refine wp_region_held_drew (S := fun w' => w'.cell? ⟨M, 3, none⟩ = some (.pointer (some ⟨S, 0, none⟩)) ∧ w'.cell? ⟨x3, 0, none⟩ = some (.int .i64 b) ∧ w'.cell? ⟨x3, 1, none⟩ = some (.int .i64 l)) (by kernel_rfl) ?_ (fun hHeld => ?_)
      · exact ⟨c3, d0, d1⟩
      refine wpAnyH_take (i := 0) (v := ?_) rfl (by kernel_rfl) (by kernel_rfl) (by kernel_rfl) (fun _ _ _ h => h) (Or.inl ⟨by kernel_rfl, ?_⟩) (by assumption) ?_
      rotate_left
      · (intro w hSw; (try dsimp only at hSw); go_simp)
        try (with_reducible rfl)
      rotate_left
      try simp (maxSteps := 4000000) only [Act.put, List.setIfInBounds_toArray, List.set_cons_zero, List.set_cons_succ, List.getElem_toArray, List.getElem_cons_zero, List.getElem_cons_succ]
      refine wpAnyH_take (i := 1) (v := ?_) rfl (by kernel_rfl) (by kernel_rfl) (by kernel_rfl) (fun _ _ _ h => h) (Or.inl ⟨by kernel_rfl, ?_⟩) (by assumption) ?_
      rotate_left
      · (intro w hSw; (try dsimp only at hSw); go_simp)
        try (with_reducible rfl)
      rotate_left
      try simp (maxSteps := 4000000) only [Act.put, List.setIfInBounds_toArray, List.set_cons_zero, List.set_cons_succ, List.getElem_toArray, List.getElem_cons_zero, List.getElem_cons_succ]
      refine wpAnyH_take (i := 2) (v := ?_) rfl (by kernel_rfl) (by kernel_rfl) (by kernel_rfl) (fun _ _ _ h => h) (Or.inl ⟨by kernel_rfl, ?_⟩) (by assumption) ?_
      rotate_left
      · (intro w hSw; (try dsimp only at hSw); go_simp)
        try (with_reducible rfl)
      rotate_left
      try simp (maxSteps := 4000000) only [Act.put, List.setIfInBounds_toArray, List.set_cons_zero, List.set_cons_succ, List.getElem_toArray, List.getElem_cons_zero, List.getElem_cons_succ]
      refine wpAnyH_take (i := 3) (v := ?_) rfl (by kernel_rfl) (by kernel_rfl) (by kernel_rfl) (fun _ _ _ h => h) (Or.inl ⟨by kernel_rfl, ?_⟩) (by assumption) ?_
      rotate_left
      · (intro w hSw; (try dsimp only at hSw); go_simp)
        try (with_reducible rfl)
      rotate_left
      try simp (maxSteps := 4000000) only [Act.put, List.setIfInBounds_toArray, List.set_cons_zero, List.set_cons_succ, List.getElem_toArray, List.getElem_cons_zero, List.getElem_cons_succ]
      refine wpAnyH_take (i := 4) (v := ?_) rfl (by kernel_rfl) (by kernel_rfl) (by kernel_rfl) (fun _ _ _ h => h) (Or.inl ⟨by kernel_rfl, ?_⟩) (by assumption) ?_
      rotate_left
      · (intro w hSw; (try dsimp only at hSw); go_simp)
        try (with_reducible rfl)
      rotate_left
      try simp (maxSteps := 4000000) only [Act.put, List.setIfInBounds_toArray, List.set_cons_zero, List.set_cons_succ, List.getElem_toArray, List.getElem_cons_zero, List.getElem_cons_succ]
      refine wpAnyH_ready (rs := [5]) (by kernel_rfl) (by simp) ?_
      refine AllReadyH.cons rfl (fun K2 hK2 => ?_) AllReadyH.nil
      go_simp
      with_reducible refine Calls.mono (slwroteF b l HSLr.out HMB.out HZ.out) ?_
      rintro e w3 ⟨⟨r3, rfl⟩, q1, q2, q3⟩
      rw [HE.out.1, HE.out.2] at q1
      have e3 : w3.cell? ⟨M, 3, none⟩ = some (.pointer (some ⟨S, 0, none⟩)) := (World.cell?_of_block (q2 M (by show M < wr.heap.size; omega) (by rw [H1.out.me]; decide))).trans c3
      have e0 : w3.cell? ⟨x3, 0, none⟩ = some (.int .i64 b) := (World.cell?_of_block (q2 x3 (by show x3 < wr.heap.size; omega) (by rw [← HX3.out, HX0.out]; decide))).trans d0
      have e1 : w3.cell? ⟨x3, 1, none⟩ = some (.int .i64 l) := (World.cell?_of_block (q2 x3 (by show x3 < wr.heap.size; omega) (by rw [← HX3.out, HX0.out]; decide))).trans d1
      have HFIN := Lib.hid (HF.out w3 q1 q2 (by obtain ⟨lo, a, b, c⟩ := q3; exact ⟨lo, a, b, (Below.refl _ _).drew.trans c⟩))
      clear q1 q2 q3 HF
      refine hK2.out _ _ ⟨e3, e0, e1⟩ (fun hHeld2 => ?_)
      clear hK2 K2 hHeld
      have hHeld := hHeld2
      clear hHeld2
      try simp (maxSteps := 4000000) only [Act.put, List.setIfInBounds_toArray, List.set_cons_zero, List.set_cons_succ]
      refine wpAnyH_done (by kernel_rfl) ?_ _
      go_wp2
      exact bodyPost_end (v := .tuple #[]) (by simp [results, Tryd.results71, go_sem]) rfl ⟨rfl, by rw [HE.out.1, HE.out.2]; exact HFIN.out⟩
    · by_cases hlt : y < F0 + N0
      · have y0 : (0 : Int) ≤ (y : Int) := by omega
        have u1 : (y : Int) < (F0 : Int) + (N0 : Int) := by omega
        obtain ⟨⟨l', m1, m2⟩, m3, m4⟩ := HL.out
        obtain ⟨w2, l2, hdel, hkm2, hs2, hob2, hmem2⟩ := delK wr kb l' m1 (by have := HK.out.2.1.1; omega) y (by omega)
        have hdel2 : ∀ ty, (Builtin.delete_ #[76, 3] ty #[.map (some kb), .int .i64 (y : Int)]).run Tryd.prog wr = .ok (.tuple #[]) w2 := hdel
        have hob1 : OB kb w1 w2 := m3.trans hob2 (.inl rfl)
        have c3b : w2.cell? ⟨M, 3, none⟩ = some (.pointer (some ⟨S, 0, none⟩)) := (World.cell?_of_block (hob1.2.1 M hMz hMk)).trans k3
        have HSL2 : Hid (SlC col S w2 σ.kp) := Lib.hid (HSL.out.move (by omega) (fun i hi hc => hob1.2.1 i hi (fun e => by rw [e, hk6] at hc; exact absurd hc (by decide))) (fun _ _ => rfl))
        have HL2 : Hid ((∃ l', KM kb w2 l' ∧ ∀ x, x ∈ l' ↔ (x ∈ kl ∧ ¬ (F0 ≤ x.1 ∧ x.1 < y + 1))) ∧ OB kb w1 w2 ∧ w2.heap.size = w1.heap.size) := Lib.hid ⟨⟨l2, hkm2, fun x => by
          rw [hmem2, m2]
          constructor
          · rintro ⟨⟨a1, a2⟩, a3⟩
            refine ⟨a1, fun a4 => ?_⟩
            by_cases e : x.1 < F
            · exact a2 ⟨a4.1, e⟩
            · have := y4 x.1 (by omega) (by omega)
              rw [(HK.out.2.2.2 x.1).2 ⟨x, a1, rfl⟩] at this
              exact absurd this (by decide)
          · rintro ⟨a1, a2⟩
            exact ⟨⟨a1, fun a3 => a2 ⟨a3.1, by omega⟩⟩, fun e => a2 ⟨by omega, by omega⟩⟩⟩, hob1, by omega⟩
        have HTZ2 := Lib.hid (HTB.out w2 hob1)
        have HY := Lib.hid (And.intro hlt (And.intro y1 y2))
        clear hdel hkm2 hmem2 hob1 hob2 m1 m2 m3 y3 y4 HEND HR HL d0 d1
        go_wp2_with fail
        refine (slnextF ((y : Int) + 1) HSL2.out HTZ2.out).mono ?_
        rintro e w' ⟨⟨r', rfl, hr'⟩, rfl⟩
        rw [show (max ((y : Int) + 1) 0).toNat = y + 1 by omega] at hr'
        have HR2 := Lib.hid hr'
        clear hr'
        go_wp2_with fail
        go_roundw
        case rel => exact ⟨r', y + 1, rfl, by have := HY.out; omega, by have := HY.out; omega, HR2, HL2⟩
        case measure =>
          refine lsM_lt HY.out.2.2 ?_
          rcases HR2.out with ⟨e, _⟩ | ⟨z, e, z1, _⟩
          · exact .inl e
          · right
            show (y : Int) < r'
            omega
      · have HF := Lib.hid (HEND.out (fun z a b => y4 z a (by omega)))
        have y0 : (0 : Int) ≤ (y : Int) := by omega
        have u1 : ¬ (y : Int) < (F0 : Int) + (N0 : Int) := by omega
        clear y3 y4 HEND HR HL
        go_upto_region 6 with (fail)
        refine wp_region_held_drew (S := fun w' => w'.cell? ⟨M, 3, none⟩ = some (.pointer (some ⟨S, 0, none⟩)) ∧ w'.cell? ⟨x3, 0, none⟩ = some (.int .i64 b) ∧ w'.cell? ⟨x3, 1, none⟩ = some (.int .i64 l)) (by kernel_rfl) ?_ (fun hHeld => ?_)
        · exact ⟨c3, d0, d1⟩
        refine wpAnyH_take (i := 0) (v := ?_) rfl (by kernel_rfl) (by kernel_rfl) (by kernel_rfl) (fun _ _ _ h => h) (Or.inl ⟨by kernel_rfl, ?_⟩) (by assumption) ?_
        rotate_left
        · (intro w hSw; (try dsimp only at hSw); go_simp)
          try (with_reducible rfl)
        rotate_left
        try simp (maxSteps := 4000000) only [Act.put, List.setIfInBounds_toArray, List.set_cons_zero, List.set_cons_succ, List.getElem_toArray, List.getElem_cons_zero, List.getElem_cons_succ]
        refine wpAnyH_take (i := 1) (v := ?_) rfl (by kernel_rfl) (by kernel_rfl) (by kernel_rfl) (fun _ _ _ h => h) (Or.inl ⟨by kernel_rfl, ?_⟩) (by assumption) ?_
        rotate_left
        · (intro w hSw; (try dsimp only at hSw); go_simp)
          try (with_reducible rfl)
        rotate_left
        try simp (maxSteps := 4000000) only [Act.put, List.setIfInBounds_toArray, List.set_cons_zero, List.set_cons_succ, List.getElem_toArray, List.getElem_cons_zero, List.getElem_cons_succ]
        refine wpAnyH_take (i := 2) (v := ?_) rfl (by kernel_rfl) (by kernel_rfl) (by kernel_rfl) (fun _ _ _ h => h) (Or.inl ⟨by kernel_rfl, ?_⟩) (by assumption) ?_
        rotate_left
        · (intro w hSw; (try dsimp only at hSw); go_simp)
          try (with_reducible rfl)
        rotate_left
        try simp (maxSteps := 4000000) only [Act.put, List.setIfInBounds_toArray, List.set_cons_zero, List.set_cons_succ, List.getElem_toArray, List.getElem_cons_zero, List.getElem_cons_succ]
        refine wpAnyH_take (i := 3) (v := ?_) rfl (by kernel_rfl) (by kernel_rfl) (by kernel_rfl) (fun _ _ _ h => h) (Or.inl ⟨by kernel_rfl, ?_⟩) (by assumption) ?_
        rotate_left
        · (intro w hSw; (try dsimp only at hSw); go_simp)
          try (with_reducible rfl)
        rotate_left
        try simp (maxSteps := 4000000) only [Act.put, List.setIfInBounds_toArray, List.set_cons_zero, List.set_cons_succ, List.getElem_toArray, List.getElem_cons_zero, List.getElem_cons_succ]
        refine wpAnyH_take (i := 4) (v := ?_) rfl (by kernel_rfl) (by kernel_rfl) (by kernel_rfl) (fun _ _ _ h => h) (Or.inl ⟨by kernel_rfl, ?_⟩) (by assumption) ?_
        rotate_left
        · (intro w hSw; (try dsimp only at hSw); go_simp)
          try (with_reducible rfl)
        rotate_left
        try simp (maxSteps := 4000000) only [Act.put, List.setIfInBounds_toArray, List.set_cons_zero, List.set_cons_succ, List.getElem_toArray, List.getElem_cons_zero, List.getElem_cons_succ]
        refine wpAnyH_ready (rs := [5]) (by kernel_rfl) (by simp) ?_
        refine AllReadyH.cons rfl (fun K2 hK2 => ?_) AllReadyH.nil
        go_simp
        with_reducible refine Calls.mono (slwroteF b l HSLr.out HMB.out HZ.out) ?_
        rintro e w3 ⟨⟨r3, rfl⟩, q1, q2, q3⟩
        rw [HE.out.1, HE.out.2] at q1
        have e3 : w3.cell? ⟨M, 3, none⟩ = some (.pointer (some ⟨S, 0, none⟩)) := (World.cell?_of_block (q2 M (by show M < wr.heap.size; omega) (by rw [H1.out.me]; decide))).trans c3
        have e0 : w3.cell? ⟨x3, 0, none⟩ = some (.int .i64 b) := (World.cell?_of_block (q2 x3 (by show x3 < wr.heap.size; omega) (by rw [← HX3.out, HX0.out]; decide))).trans d0
        have e1 : w3.cell? ⟨x3, 1, none⟩ = some (.int .i64 l) := (World.cell?_of_block (q2 x3 (by show x3 < wr.heap.size; omega) (by rw [← HX3.out, HX0.out]; decide))).trans d1
        have HFIN := Lib.hid (HF.out w3 q1 q2 (by obtain ⟨lo, a, b, c⟩ := q3; exact ⟨lo, a, b, (Below.refl _ _).drew.trans c⟩))
        clear q1 q2 q3 HF
        refine hK2.out _ _ ⟨e3, e0, e1⟩ (fun hHeld2 => ?_)
        clear hK2 K2 hHeld
        have hHeld := hHeld2
        clear hHeld2
        try simp (maxSteps := 4000000) only [Act.put, List.setIfInBounds_toArray, List.set_cons_zero, List.set_cons_succ]
        refine wpAnyH_done (by kernel_rfl) ?_ _
        go_wp2
        exact bodyPost_end (v := .tuple #[]) (by simp [results, Tryd.results71, go_sem]) rfl ⟨rfl, by rw [HE.out.1, HE.out.2]; exact HFIN.out⟩
end
end Go.Proofs.YtljjcomedjdpaaaDoor

