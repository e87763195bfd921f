/- SweepClears: what is swept, step by step. -/
import Derived.Test.YtljjcomedjdpaaaDoorSgB
import Derived.Test.YtljjcomedjdpaaaDoorSwC
namespace Go.Proofs.YtljjcomedjdpaaaDoor
set_option maxRecDepth 100000
open Go.RowKit Go.ChangeMaps Go.MapKept
set_option linter.unusedVariables false
set_option linter.unusedSimpArgs false

/-- The granule that comes as the j-th; the page that comes as the i-th. -/
def grI (j : Nat) : Nat := if j < 48 then j else j + 32
def PL5 (i : Nat) : Nat := if i < 3 then i else i + 2
theorem grI_pl {q : Nat} (h : q < 80) : PL5 (q / 16) * 16 + q % 16 = grI q := by
  unfold PL5 grI
  by_cases e : q < 48
  · rw [if_pos e, if_pos (by omega)]; omega
  · rw [if_neg e, if_neg (by omega)]; omega
/-- Is a granule swept, when so much is done? -/
def swp (d y : Nat) : Bool := decide ((y < 48 ∧ y + 6 < d) ∨ (80 ≤ y ∧ y < 112 ∧ y < d + 26))
def sgD (PT : Nat → Bool) (σ : MS) (d : Nat) : MS := { σ with kp := fun y => σ.kp y && !(swp d y && PM PT (capK σ y)) }
def ffD (PT : Nat → Bool) (f : Nat → CapV) (d : Nat) : Nat → CapV := fun h => if h < d ∧ h < 6 ∧ PM PT (f h) = true then cap0 else f h
def itF (PT : Nat → Bool) (σ : MS) (f : Nat → CapV) (d : Nat) : Bool := if d < 6 then PM PT (f d) else PM PT (capK σ (grI (d - 6)))
theorem swp_low {d y : Nat} (h : d ≤ 6) : swp d y = false := decide_eq_false (by omega)
theorem swp_next {q y : Nat} (h : q < 80) : swp (q + 6 + 1) y = (swp (q + 6) y || decide (y = grI q)) := by
  unfold swp grI
  rw [Bool.eq_iff_iff]
  simp only [Bool.or_eq_true, decide_eq_true_eq]
  split <;> omega
theorem swp_self {q : Nat} (h : q < 80) : swp (q + 6) (grI q) = false := by
  unfold swp grI
  apply decide_eq_false
  split <;> omega
theorem MS.eq_kp {σ σ' : MS} (h1 : σ.pg = σ'.pg) (h2 : σ.most = σ'.most) (h3 : σ.peak = σ'.peak) (h4 : σ.c = σ'.c) (h5 : σ.f = σ'.f) (h6 : σ.kp = σ'.kp) (h7 : σ.kv = σ'.kv) : σ = σ' := by
  cases σ; cases σ'; simp_all
theorem sgD_zero (PT : Nat → Bool) (σ : MS) {d : Nat} (h : d ≤ 6) : sgD PT σ d = σ := by
  refine MS.eq_kp rfl rfl rfl rfl rfl ?_ rfl
  funext y
  show (σ.kp y && !(swp d y && PM PT (capK σ y))) = σ.kp y
  rw [swp_low h, Bool.false_and, Bool.not_false, Bool.and_true]
theorem sgD_yes {PT : Nat → Bool} {σ : MS} {q : Nat} (h : q < 80) (hr : PM PT (capK σ (grI q)) = true) : ({ sgD PT σ (q + 6) with kp := offK (sgD PT σ (q + 6)).kp (grI q) } : MS) = sgD PT σ (q + 6 + 1) := by
  refine MS.eq_kp rfl rfl rfl rfl rfl ?_ rfl
  funext y
  show ((σ.kp y && !(swp (q + 6) y && PM PT (capK σ y))) && !decide (grI q = y)) = (σ.kp y && !(swp (q + 6 + 1) y && PM PT (capK σ y)))
  rw [swp_next h]
  by_cases e : y = grI q
  · subst e
    rw [hr, decide_eq_true rfl]
    simp
  · rw [decide_eq_false e, decide_eq_false (fun q => e q.symm), Bool.or_false]
    simp
theorem sgD_no {PT : Nat → Bool} {σ : MS} {q : Nat} (h : q < 80) (hr : PM PT (capK σ (grI q)) = false) : sgD PT σ (q + 6) = sgD PT σ (q + 6 + 1) := by
  refine MS.eq_kp rfl rfl rfl rfl rfl ?_ rfl
  funext y
  show (σ.kp y && !(swp (q + 6) y && PM PT (capK σ y))) = (σ.kp y && !(swp (q + 6 + 1) y && PM PT (capK σ y)))
  rw [swp_next h]
  by_cases e : y = grI q
  · subst e
    rw [hr, Bool.and_false, Bool.and_false]
  · rw [decide_eq_false e, Bool.or_false]
theorem capK_sg {PT : Nat → Bool} {σ : MS} {q : Nat} (h : q < 80) : capK (sgD PT σ (q + 6)) (grI q) = capK σ (grI q) := by
  unfold capK
  show (if (σ.kp (grI q) && !(swp (q + 6) (grI q) && PM PT (capK σ (grI q)))) = true then _ else _) = _
  rw [swp_self h, Bool.false_and, Bool.not_false, Bool.and_true]
  rfl
theorem ffD_zero (PT : Nat → Bool) (f : Nat → CapV) : ffD PT f 0 = f := by
  funext h
  unfold ffD
  rw [if_neg (by omega)]
theorem ffD_high {PT : Nat → Bool} {f : Nat → CapV} {d : Nat} (h : 6 ≤ d) : ffD PT f (d + 1) = ffD PT f d := by
  funext y
  unfold ffD
  by_cases e : y < 6
  · simp only [show y < d + 1 by omega, show y < d by omega]
  · simp only [e, false_and, and_false]
theorem ffD_self {PT : Nat → Bool} {f : Nat → CapV} {d : Nat} : ffD PT f d d = f d := by
  unfold ffD
  rw [if_neg (by omega)]
theorem ffD_next {PT : Nat → Bool} {f : Nat → CapV} {d : Nat} (h : d < 6) : (if PM PT (f d) = true then updC (ffD PT f d) d cap0 else ffD PT f d) = ffD PT f (d + 1) := by
  funext y
  cases hp : PM PT (f d) with
  | true =>
    rw [if_pos rfl]
    unfold updC ffD
    by_cases e : y = d
    · subst e
      rw [if_pos rfl, if_pos ⟨by omega, h, hp⟩]
    · rw [if_neg e]
      simp only [show (y < d + 1) = (y < d) from propext (by omega)]
  | false =>
    rw [if_neg (by decide)]
    unfold ffD
    by_cases e : y = d
    · subst e
      rw [if_neg (by omega), if_neg (fun k => by rw [hp] at k; exact absurd k.2.2 (by decide))]
    · simp only [show (y < d + 1) = (y < d) from propext (by omega)]
theorem cntF_up (p : Nat → Bool) (d : Nat) : cntF p (d + 1) = upN (p d) (cntF p d) := by
  rw [cntF]
  unfold upN
  cases p d <;> rfl
theorem MDE.other {B : Nat} {col : Nat → Nat} {M R g s : Nat} {V w w' : World} {σ : MS} {f : Nat → CapV} (h : MDE B col M R g V w σ f) (hs : col s = 0 ∧ s ≠ R ∧ s ≠ g ∧ B ≤ s) (hz : w'.heap.size = w.heap.size) (hb : Below B w w') (hk : ∀ i, i ≠ s → w'.heap[i]? = w.heap[i]?) : MDE B col M R g V w' σ f :=
  ⟨h.mem.keep hb (fun i _ hc => hk i (fun e => by rw [e] at hc; exact hc hs.1)), h.reg.keep (Nat.le_of_eq hz.symm) (hk R (Ne.symm hs.2.1)) (hk g (Ne.symm hs.2.2.1)), h.cr, h.br, h.bel.trans (hb.mono h.br.2.2)⟩
/-- What stands while it is swept. -/
structure IW (B M R g s lo P pgb pb po cp : Nat) (c : Int) (ws : List Nat) (PT : Nat → Bool) (σ : MS) (f : Nat → CapV) (V W0 : World) (col0 : Nat → Nat) (d n : Nat) (w : World) : Prop where
  hd : d ≤ 86
  hn : n = cntF (itF PT σ f) d
  sw : SWAt s 6 (some ⟨pb, po, none⟩) 5 cp d n w
  mde : ∃ col, MDE B col M R g V w (sgD PT σ d) (ffD PT f d) ∧ ∀ i, i < W0.heap.size → col i = col0 i
  st : W0.heap.size ≤ w.heap.size ∧ ∀ i, i < W0.heap.size → col0 i = 0 → i ≠ g → i ≠ s → w.heap[i]? = W0.heap[i]?
/-- What does not change. -/
structure IW0 (B M R g s lo P pgb pb po : Nat) (c : Int) (ws : List Nat) (PT : Nat → Bool) (σ : MS) (f : Nat → CapV) (V W0 : World) (col0 : Nat → Nat) : Prop where
  mg : MadeG σ f
  pt : PtIs lo P pgb P W0 c ws
  bt : ∀ y, bitB ws y = PT y
  ptc : ∀ i, lo ≤ i → i ≤ P → col0 i = 0 ∧ i ≠ g ∧ i ≠ s
  pl : PgR pb po 5 W0 PL5
  plc : col0 pb = 0 ∧ pb ≠ g ∧ pb ≠ s
  sc : col0 s = 0 ∧ s ≠ R ∧ s ≠ g ∧ B ≤ s ∧ s < W0.heap.size
  tz : TzTab V
section
variable {B M R g s lo P pgb pb po cp : Nat} {c : Int} {ws : List Nat} {PT : Nat → Bool} {σ : MS} {f : Nat → CapV} {V W0 : World} {col0 : Nat → Nat} {d n : Nat} {w w' : World}
theorem IW.later (h : IW B M R g s lo P pgb pb po cp c ws PT σ f V W0 col0 d n w) (hb : Below w.heap.size w w') : IW B M R g s lo P pgb pb po cp c ws PT σ f V W0 col0 d n w' := by
  obtain ⟨col, h1, h2⟩ := h.mde
  exact ⟨h.hd, h.hn, h.sw.below hb, ⟨col, h1.later hb, h2⟩, ⟨Nat.le_trans h.st.1 hb.size, fun i a b c e => (hb.block i (Nat.lt_of_lt_of_le a h.st.1)).trans (h.st.2 i a b c e)⟩⟩
theorem IW.ptw (k : IW0 B M R g s lo P pgb pb po c ws PT σ f V W0 col0) (h : IW B M R g s lo P pgb pb po cp c ws PT σ f V W0 col0 d n w) : PtIs lo P pgb P w c ws :=
  k.pt.keep h.st.1 (fun i i1 i2 => h.st.2 i (Nat.lt_of_le_of_lt i2 k.pt.2.1.2) (k.ptc i i1 i2).1 (k.ptc i i1 i2).2.1 (k.ptc i i1 i2).2.2)
theorem IW.plw (k : IW0 B M R g s lo P pgb pb po c ws PT σ f V W0 col0) (h : IW B M R g s lo P pgb pb po cp c ws PT σ f V W0 col0 d n w) : PgR pb po 5 w PL5 :=
  k.pl.keep h.st.1 (h.st.2 pb k.pl.1 k.plc.1 k.plc.2.1 k.plc.2.2)
theorem IW.one (k : IW0 B M R g s lo P pgb pb po c ws PT σ f V W0 col0) (h : IW B M R g s lo P pgb pb po cp c ws PT σ f V W0 col0 d n w) (hd : d < 86) :
    Calls Tryd.prog 39 #[.pointer (some ⟨s, 0, none⟩), .pointer (some ⟨M, 0, none⟩), .pointer (some ⟨R, 0, none⟩), .pointer (some ⟨P, 0, none⟩)] w (fun e w' => SWAt s 6 (some ⟨pb, po, none⟩) 5 cp d n w' ∧ Mid s (IW B M R g s lo P pgb pb po cp c ws PT σ f V W0 col0) d n e w') := by
  obtain ⟨col, hm, hc⟩ := h.mde
  have hcs : col s = 0 := (hc s k.sc.2.2.2.2).trans k.sc.1
  have hsn : col s = 0 ∧ s ≠ R ∧ s ≠ g ∧ B ≤ s := ⟨hcs, k.sc.2.1, k.sc.2.2.1, k.sc.2.2.2.1⟩
  by_cases h6 : d < 6
  · have hf : ffD PT f d d = f d := ffD_self
    refine (sone_reg s 6 _ 5 cp d n M R g P lo P pgb w (ffD PT f d) c ws (PM PT (f d)) h.sw hm.reg (IW.ptw k h) (k.tz.later hm.bel) h6 (fun hv => ?_) (fun hv => ?_)).mono ?_
    · rw [hf] at hv ⊢
      exact PM_some hv (k.mg.fv d hv) k.bt
    · rw [hf] at hv
      exact PM_none hv
    · rintro e w' ⟨rfl, hr, hk⟩
      rw [ffD_next h6] at hr
      have hs' := h.sw.keep hk.1.size (hk.2 s h.sw.1 k.sc.2.2.1)
      have hmd : MDE B col M R g V w' (sgD PT σ (d + 1)) (ffD PT f (d + 1)) := by
        rw [sgD_zero PT σ (show d + 1 ≤ 6 by omega)]
        rw [sgD_zero PT σ (show d ≤ 6 by omega)] at hm
        exact hm.put hr hk
      refine ⟨hs', PM PT (f d), rfl, by omega, ?_, hs'.bump _ (by omega), ⟨col, hmd.other hsn (bump_size _ _ _ _ _) (bump_below _ _ _ (Below.refl _ _) hsn.2.2.2) (fun i hi => bump_other _ _ _ _ hi), hc⟩, ?_⟩
      · rw [cntF_up, ← h.hn]
        unfold itF
        rw [if_pos h6]
      · refine ⟨by rw [bump_size]; exact Nat.le_trans h.st.1 hk.1.size, fun i a b c e => ?_⟩
        rw [bump_other _ _ _ _ e, hk.2 i (Nat.lt_of_lt_of_le a h.st.1) c]
        exact h.st.2 i a b c e
  · obtain ⟨q, rfl⟩ : ∃ q, d = q + 6 := ⟨d - 6, by omega⟩
    have hq : q < 80 := by omega
    have hgx : grI q < 128 := by unfold grI; split <;> omega
    refine (sone_g s 6 5 cp (q + 6) n M R P lo P pgb pb po (grI q) q B col PL5 PT (sgD PT σ (q + 6)) w c ws (PM PT (capK σ (grI q))) h.sw hm.mem (IW.ptw k h) k.bt (IW.plw k h) (by omega) (by omega) (by omega) (grI_pl hq) (by omega) (fun hk => ?_) (k.mg.kv _) (by rw [capK_sg hq])).mono ?_
    · have hk2 : (σ.kp (grI q) && !(swp (q + 6) (grI q) && PM PT (capK σ (grI q)))) = true := hk
      rw [Bool.and_eq_true] at hk2
      exact (k.mg.kp _ hk2.1).2
    · rintro e w' ⟨rfl, hr⟩
      have fin : ∀ col', MDE B col' M R g V w' (sgD PT σ (q + 6 + 1)) (ffD PT f (q + 6)) → (∀ i, i < w.heap.size → col' i = col i) → (∀ i, i < w.heap.size → col i ≤ 1 → w'.heap[i]? = w.heap[i]?) → w.heap.size ≤ w'.heap.size → SWAt s 6 (some ⟨pb, po, none⟩) 5 cp (q + 6) n w' ∧ Mid s (IW B M R g s lo P pgb pb po cp c ws PT σ f V W0 col0) (q + 6) n (.returned (.bool (PM PT (capK σ (grI q))))) w' := by
        intro col' hmd hcc hkk hsz
        have hs' := h.sw.keep hsz (hkk s h.sw.1 (by rw [hcs]; decide))
        have hc2 : ∀ i, i < W0.heap.size → col' i = col0 i := fun i hi => (hcc i (Nat.lt_of_lt_of_le hi h.st.1)).trans (hc i hi)
        refine ⟨hs', _, rfl, by omega, ?_, hs'.bump _ (by omega), ⟨col', ?_, hc2⟩, ?_⟩
        · rw [cntF_up, ← h.hn]
          unfold itF
          rw [if_neg (by omega), show q + 6 - 6 = q by omega]
        · rw [ffD_high (by omega)]
          exact hmd.other ⟨(hc2 s k.sc.2.2.2.2).trans k.sc.1, hsn.2⟩ (bump_size _ _ _ _ _) (bump_below _ _ _ (Below.refl _ _) hsn.2.2.2) (fun i hi => bump_other _ _ _ _ hi)
        · refine ⟨by rw [bump_size]; exact Nat.le_trans h.st.1 hsz, fun i a b c e => ?_⟩
          rw [bump_other _ _ _ _ e, hkk i (Nat.lt_of_lt_of_le a h.st.1) (by rw [hc i a, b]; decide)]
          exact h.st.2 i a b c e
      cases hp : PM PT (capK σ (grI q)) with
      | true =>
        rw [hp] at hr fin
        rw [if_pos rfl, sgD_yes hq hp] at hr
        obtain ⟨col', h1, h2, h3⟩ := hm.step hr
        exact fin col' h1 h2 h3 (by obtain ⟨_, _, _, _, h4⟩ := hr; exact h4.size)
      | false =>
        rw [hp] at hr fin
        rw [if_neg (by decide)] at hr
        rw [sgD_no hq hp] at hm
        exact fin col (hm.later hr) (fun _ _ => rfl) (fun i hi _ => hr.block i hi) hr.size
end
end Go.Proofs.YtljjcomedjdpaaaDoor
