/- Memory: what an act of the store, or of the slots, is to a memory. -/
import Derived.Test.YtgidnmjeifgciaaDoorMmD
namespace Go.Proofs.YtgidnmjeifgciaaDoor
set_option maxRecDepth 100000
open Go.RowKit Go.ChangeMaps Go.MapKept
set_option linter.unusedVariables false
set_option linter.unusedSimpArgs false

section
variable {B : Nat} {col : Nat → Nat} {M : Nat} {W : World} {σ : MS}
open Classical in
theorem st_lift {W' : World} {P sg t S kb b : Nat} {l l' : List (Nat × Nat)} {c' : Nat → Nat} (h : MEM B col M W σ) (hn : MCells M P sg t S kb W ∧ PgC col P W σ.pg σ.most σ.peak ∧ StC B col sg W σ.c ∧ TgC col t W σ.f ∧ SlC col S W σ.kp ∧ KpC col kb W σ.kp σ.kv)
    (hb : col b = 3) (hsg : col sg = 3) (hl : ∀ pq ∈ l, col pq.2 = 3) (hs : STL B sg b W' l' c') (hf : FR b l W W' l') (hB : Below B W W') (hc : ∀ x, c' x < 256) : MStep B col M W { σ with c := c' } W' := by
  have hbz : b < W.heap.size := (h.own b (by rw [hb]; decide)).2
  have hgz : sg < W.heap.size := (h.own sg (by rw [hsg]; decide)).2
  refine h.set_st (col' := fun i => if i < W.heap.size then col i else if ∃ pq ∈ l', pq.2 = i then 3 else 0) hn hB (fun i hi hc => hf.2 i hi (fun e => hc (by rw [e]; exact hb)) (fun pq hpq e => hc (by rw [← e]; exact hl pq hpq))) (fun i hi => if_pos hi) (fun i hi h0 => ?_) ⟨b, l', hs, (if_pos hgz).trans hsg, (if_pos hbz).trans hb, fun pq hpq => ?_, hc⟩
  · simp only [if_neg (show ¬ i < W.heap.size by omega)] at h0
    by_cases he : ∃ pq ∈ l', pq.2 = i
    · obtain ⟨pq, hpq, rfl⟩ := he
      exact (hs.2.2.2.1 pq hpq).2.2.2.1
    · rw [if_neg he] at h0
      exact absurd rfl h0
  · by_cases hz : pq.2 < W.heap.size
    · simp only [if_pos hz]
      rcases hf.1 pq hpq with h1 | h1
      · exact hl pq h1
      · omega
    · simp only [if_neg hz]
      rw [if_pos ⟨pq, hpq, rfl⟩]

def offF (kp : Nat → Bool) (f n : Nat) : Nat → Bool := fun x => kp x && !decide (f ≤ x ∧ x < f + n)
theorem kp_high {ws : List Nat} {kp : Nat → Bool} (hl : ws.length = 256) (hb : ∀ y, bitB ws y = kp y) (y : Nat) (hy : 16384 ≤ y) : kp y = false := by
  rw [← hb y]
  unfold bitB
  rw [List.getD_eq_getElem?_getD, List.getElem?_eq_none (by omega)]
  exact Nat.zero_testBit _
theorem drop_cnt {kp : Nat → Bool} {ws : List Nat} {f n : Nat} (hl : ws.length = 256) (hb : ∀ y, bitB ws y = kp y) (hfn : f + n ≤ 16384) : (dropN ws f n).2 ≤ (cntF kp 16384 : Nat) ∧ (cntF kp 16384 : Nat) - (dropN ws f n).2 = (cntF (offF kp f n) 16384 : Nat) ∧ (∀ y, bitB (dropN ws f n).1 y = offF kp f n y) ∧ (dropN ws f n).1.length = 256 := by
  have hbits : ∀ y, bitB (dropN ws f n).1 y = offF kp f n y := fun y => by rw [dropN_bits _ _ _ _ (by omega), hb]; rfl
  have h1 := dropN_cnt ws f n 16384 hfn (by omega)
  rw [cntB_F, cntB_F, show bitB (dropN ws f n).1 = offF kp f n from funext hbits, show bitB ws = kp from funext hb] at h1
  exact ⟨by omega, by omega, hbits, by rw [dropN_len]; exact hl⟩
theorem gr_sJ {b l : Int} (hm : mayB b l = true) : sJ 16384 (spF b l 16) (spN b l 16) = grN b l ∧ (spF b l 16).toNat = grF b := by
  obtain ⟨h1, h2, h3, h4, h5⟩ := gr_in hm
  rw [h1, h2]
  refine ⟨?_, Int.toNat_natCast _⟩
  unfold sJ sendI
  rw [if_pos (by omega)]
  omega

/-- The first granule from F on in which something is kept; -1: there is none. -/
def NextF (kp : Nat → Bool) (F : Nat) (r : Int) : Prop := (r = -1 ∧ ∀ y, F ≤ y → kp y = false) ∨ ∃ y : Nat, r = y ∧ F ≤ y ∧ y < 16384 ∧ kp y = true ∧ ∀ z, F ≤ z → z < y → kp z = false
theorem slnextF {S : Nat} {kp : Nat → Bool} (x : Int) (h : SlC col S W kp) (ht : TzTab W) :
    Calls Tryd.prog 79 #[.pointer (some ⟨S, 0, none⟩), .int .i64 x] W fun e w' => (∃ r, e = .returned (.int .i64 r) ∧ NextF kp (max x 0).toNat r) ∧ W = w' := by
  obtain ⟨lo, hi, g, ws, h1, h2, h3, h4⟩ := h
  refine (slnext x h1 ht).mono ?_
  rintro e w' ⟨rfl, r, rfl, q1, q2⟩
  refine ⟨⟨r, rfl, ?_⟩, rfl⟩
  by_cases hx : max x 0 < 16384
  · rcases q2 hx with ⟨e, q⟩ | ⟨y, e, y1, y2, y3, y4⟩
    · refine .inl ⟨e, fun y hy => ?_⟩
      by_cases hy2 : y / 64 < 256
      · rw [← h3 y]; exact q y hy (by rw [h2]; exact hy2)
      · exact kp_high h2 h3 y (by omega)
    · exact .inr ⟨y, e, y1, by rw [h2] at y2; omega, by rw [← h3]; exact y3, fun z a b => by rw [← h3]; exact y4 z a b⟩
  · exact .inl ⟨q1 (by omega), fun y hy => kp_high h2 h3 y (by omega)⟩
theorem slwroteF {S : Nat} {kp : Nat → Bool} (b l : Int) (h : SlC col S W kp) (hm : mayB b l = true) (hz : ∀ i, col i ≠ 0 → i < W.heap.size) :
    Calls Tryd.prog 108 #[.pointer (some ⟨S, 0, none⟩), .agg #[.int .i64 b, .int .i64 l]] W fun e w' => (∃ r, e = .returned (.int .i64 r)) ∧ SlC col S w' (offF kp (grF b) (grN b l)) ∧ (∀ i, i < W.heap.size → col i ≠ 5 → w'.heap[i]? = W.heap[i]?) ∧ (∃ lo, (∀ i, lo ≤ i → i ≤ S → col i = 5) ∧ lo ≤ S ∧ Below lo W w') := by
  obtain ⟨lo, hi, g, ws, h1, h2, h3, h4⟩ := h
  have hg := gr_in hm
  obtain ⟨d1, d2, d3, d4⟩ := drop_cnt h2 h3 (f := grF b) (n := grN b l) hg.2.2.1
  have hw := slwrote b l h1 (by rw [(gr_sJ hm).1, (gr_sJ hm).2]; exact d1)
  refine hw.mono ?_
  rintro e w' ⟨he, hs, hb, ho, hsz⟩
  rw [(gr_sJ hm).1, (gr_sJ hm).2] at hs
  rw [d2] at hs
  have hlS : lo ≤ S := by have := h1.1.1; have := h1.2.1.1; omega
  refine ⟨⟨_, he⟩, ⟨lo, hi, g, _, hs, d4, d3, h4⟩, fun i hi hc => ?_, lo, h4, hlS, hb⟩
  by_cases hi2 : lo ≤ i
  · by_cases hip : i ≤ S
    · exact absurd (h4 i hi2 hip) hc
    · exact ho i (by omega) hi
  · exact hb.block i (by omega)
/-- Behind forget: what is kept, and where. -/
theorem forget_end {w1 wr w3 : World} {P sg t S kb F N : Nat} {l : List (Nat × Nat × Nat)} (h : MEM B col M w1 σ) (hn : MCells M P sg t S kb w1 ∧ PgC col P w1 σ.pg σ.most σ.peak ∧ StC B col sg w1 σ.c ∧ TgC col t w1 σ.f ∧ SlC col S w1 σ.kp ∧ KpC col kb w1 σ.kp σ.kv)
    (hkb : kb < w1.heap.size ∧ col kb = 6) (hall : ∀ e ∈ l, col e.2.1 = 7 ∧ 16 ≤ e.2.2 ∧ e.2.2 ≤ 9223372036854775807 ∧ PGn e.2.1 16 w1 (σ.kv e.1)) (hiff : ∀ x, σ.kp x = true ↔ ∃ e ∈ l, e.1 = x)
    (hOB : OB kb w1 wr) (hsz : wr.heap.size = w1.heap.size) (hl : ∃ l', KM kb wr l' ∧ ∀ x, x ∈ l' ↔ (x ∈ l ∧ ¬ (F ≤ x.1 ∧ x.1 < F + N)))
    (hs3 : SlC col S w3 (offF σ.kp F N)) (ho3 : ∀ i, i < wr.heap.size → col i ≠ 5 → w3.heap[i]? = wr.heap[i]?) (hb3 : ∃ lo, (∀ i, lo ≤ i → i ≤ S → col i = 5) ∧ lo ≤ S ∧ Below lo wr w3) : MStep B col M w1 { σ with kp := offF σ.kp F N } w3 := by
  obtain ⟨l', k1, k2⟩ := hl
  obtain ⟨lo, b1, b2, b3⟩ := hb3
  have hloB : B ≤ lo := (h.own lo (by rw [b1 lo (Nat.le_refl _) b2]; decide)).1
  have hkB : B ≤ kb := (h.own kb (by rw [hkb.2]; decide)).1
  have hBe : Below B w1 w3 := (hOB.2.2 B hkB h.size).trans (b3.mono hloB)
  have hst : ∀ i, i < w1.heap.size → col i ≠ 5 → col i ≠ 6 → w3.heap[i]? = w1.heap[i]? := fun i hi h5 h6 => (ho3 i (by omega) h5).trans (hOB.2.1 i hi (fun e => h6 (by rw [e]; exact hkb.2)))
  have hsz3 := b3.size
  refine h.set_kp (col' := col) hn hBe hst (fun _ _ => rfl) (fun i hi h0 => by have := (h.own i h0).2; omega) hs3 ⟨l', k1.keep (ho3 kb (by omega) (by rw [hkb.2]; decide)), by omega, hkb.2, fun e he => ?_, fun x => ?_⟩
  · obtain ⟨m1, m2, m3, m4⟩ := hall e ((k2 e).1 he).1
    exact ⟨m1, m2, m3, m4.keep (by omega) (hst _ m4.1 (by rw [m1]; decide) (by rw [m1]; decide))⟩
  · unfold offF
    rw [Bool.and_eq_true, hiff, Bool.not_eq_true', decide_eq_false_iff_not]
    constructor
    · rintro ⟨⟨e, he, rfl⟩, hno⟩
      exact ⟨e, (k2 e).2 ⟨he, hno⟩, rfl⟩
    · rintro ⟨e, he, rfl⟩
      obtain ⟨a, b⟩ := (k2 e).1 he
      exact ⟨⟨e, a, rfl⟩, b⟩
end
end Go.Proofs.YtgidnmjeifgciaaDoor
