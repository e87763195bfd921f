/- BrE. -/
import Derived.Test.YtnfcpohbdkionaaGreatDoorZ26
import Derived.Deep.RegionHeld3
namespace Go.Proofs.YtnfcpohbdkionaaGreatDoor
set_option maxRecDepth 100000
open Go.RowKit Go.ChangeMaps Go.MapKept
set_option linter.unusedVariables false
set_option linter.unusedSimpArgs false
def PaintIs (b l : Int) (ws : List Nat) : Prop := ∀ y : Nat, bitB ws y = decide (1 ≤ l ∧ b / 16 ≤ y ∧ (y : Int) ≤ (b + l - 1) / 16)
theorem paint_new (b l : Int) (h0 : 0 ≤ b) (h1 : b ≤ 1023) (h2 : 0 ≤ l) (h3 : l ≤ 63) : ∃ ws v, putN (List.replicate 256 0) (spF b l 16).toNat (sJ 16384 (spF b l 16) (spN b l 16)) = (ws, v) ∧ PaintIs b l ws ∧ 0 ≤ v ∧ v ≤ 16384 := by
  by_cases hl : 1 ≤ l
  · have hm : mayB b l = true := mayB_iff.2 (by omega)
    obtain ⟨e1, e2⟩ := spG hm
    have e3 : sJ 16384 (spF b l 16) (spN b l 16) = ((b + l - 1) / 16 - b / 16 + 1).toNat := by
      rw [e1, e2]
      unfold sJ sendI
      split <;> omega
    rw [e3, e1]
    refine ⟨_, _, rfl, fun y => ?_, ?_⟩
    · rw [put_zero_bits _ _ _ (by omega), decide_eq_decide]; omega
    · rw [put_zero_count _ _ (by omega)]; omega
  · have hm : mayB b l = false := mayB_false.2 (by omega)
    have e1 : spF b l 16 = 0 := by simp [spF, hm]
    have e2 : spN b l 16 = 0 := by simp [spN, hm]
    refine ⟨List.replicate 256 0, 0, by rw [e1, e2]; rfl, fun y => ?_, by decide, by decide⟩
    rw [bitB_none, decide_eq_false (by omega)]
def s37 : MS := { newS 4 with pg := onF (newS 4).pg 0 4, peak := max (newS 4).peak ((cntF (newS 4).pg 1024 : Nat) + 4) }
def s37b : MS := { s37 with f := setF s37.f (grF 0) (grN 0 1024) 1 }
theorem s37_open : openB s37.pg 0 1024 = true := by decide +kernel
theorem cntF_none37 (n : Nat) : cntF (fun _ => false) n = 0 := by
  induction n with
  | zero => rfl
  | succ n ih => rw [cntF, ih]; rfl
theorem RegAt.keep {p g k : Nat} {W W' : World} {V : Nat → Value} (h : RegAt p g k W V) (hs : W.heap.size ≤ W'.heap.size) (h1 : W'.heap[p]? = W.heap[p]?) (h2 : W'.heap[g]? = W.heap[g]?) : RegAt p g k W' V := by
  obtain ⟨k1, k2, k3, k4, k5, k6⟩ := h
  exact ⟨by omega, by omega, k3, k4, (World.cell?_of_block h1).trans k5, fun i hi => ⟨(World.cell?_of_block h2).trans (k6 i hi).1, (World.frozen?_of_block h2).trans (k6 i hi).2⟩⟩
section
variable {B lo g : Nat} {col : Nat → Nat} {M R P pg : Nat} {W : World} {σ : MS} {V : Nat → Value} {pc : Int} {ws : List Nat}
theorem BPl.mstep {σ' : MS} {w' : World} (h : BPl B lo g col M R P pg W σ V pc ws) (hs : MStep B col M W σ' w') :
    ∃ col', BPl B lo g col' M R P pg w' σ' V pc ws ∧ (∀ i, i < W.heap.size → col' i = col i) ∧ (∀ i, i < W.heap.size → col i ≤ 1 → w'.heap[i]? = W.heap[i]?) ∧ Below B W w' := by
  obtain ⟨col', hm, hc, ho, hb⟩ := hs
  have r1 := h.reg.1
  have r2 := h.reg.2.1
  have p1 := h.pt.2.1.2
  refine ⟨col', ⟨hm, h.reg.keep hb.size (ho R r1 (by rw [h.cr.1]; decide)) (ho g r2 (by rw [h.cr.2]; decide)), h.pt.keep hb.size (fun i i1 i2 => ho i (by omega) (by rw [h.cp i i1 i2]; decide)), ⟨(hc R r1).trans h.cr.1, (hc g r2).trans h.cr.2⟩, fun i i1 i2 => (hc i (by omega)).trans (h.cp i i1 i2), h.br, h.df⟩, hc, ho, hb⟩
theorem BPl.paint {w' : World} {pc' : Int} {ws' : List Nat} (h : BPl B lo g col M R P pg W σ V pc ws) (hp : PtIs lo P pg P w' pc' ws') (hb : Below lo W w') (hi : ∀ i, P < i → i < W.heap.size → w'.heap[i]? = W.heap[i]?) (hrg : R < lo ∧ g < lo) : BPl B lo g col M R P pg w' σ V pc' ws' := by
  refine ⟨h.mem.keep (hb.mono h.br.2.2) (fun i i1 hc => ?_), h.reg.keep hb.size (hb.block R hrg.1) (hb.block g hrg.2), hp, h.cr, h.cp, h.br, h.df⟩
  by_cases e : i < lo
  · exact hb.block i e
  · by_cases e2 : i ≤ P
    · exact absurd (h.cp i (by omega) e2) hc
    · exact hi i (by omega) i1
theorem BPl.low {w0 w' : World} (h : BPl B lo g col M R P pg W σ V pc ws) (t : TzTab w0) (hs0 : w0.heap.size ≤ B) (hb : Below w0.heap.size w0 w') (hs : w'.heap.size = W.heap.size) (hk : ∀ i, B ≤ i → w'.heap[i]? = W.heap[i]?) : BPl B lo g col M R P pg w' σ V pc ws := by
  obtain ⟨Q, sg, u, S, kb, h1, h2, h3, h4, h5, h6⟩ := h.mem.ex
  have hs' : W.heap.size ≤ w'.heap.size := by omega
  have hk2 : ∀ i, col i ≠ 0 → w'.heap[i]? = W.heap[i]? := fun i hi => hk i (h.mem.own i hi).1
  have bd := h.br
  refine ⟨⟨fun i hi => by have := h.mem.own i hi; omega, h.mem.me, ⟨w0, t, hs0, hb⟩, Q, sg, u, S, kb, h1.keep (hk2 M (by rw [h.mem.me]; decide)), ?_, ?_, ?_, ?_, ?_⟩, h.reg.keep hs' (hk R bd.1) (hk g bd.2.1), h.pt.keep hs' (fun i i1 i2 => hk i (by omega)), h.cr, h.cp, h.br, h.df⟩
  · exact h2.move hs' (fun i a e => hk2 i (by rw [e]; decide)) (fun _ _ => rfl)
  · exact h3.move hs' (fun i a e => hk2 i (by rw [e]; decide)) (fun _ _ => rfl)
  · exact h4.move hs' (fun i a e => hk2 i (by rw [e]; decide)) (fun _ _ => rfl)
  · exact h5.move hs' (fun i a e => hk2 i (by rw [e]; decide)) (fun _ _ => rfl)
  · exact h6.move hs' (fun i a e => hk2 i (by rcases e with e | e <;> rw [e] <;> decide)) (fun _ _ => rfl)
end
def MadePost (b l : Int) (W : World) (e : Ending) (w' : World) : Prop :=
  ∃ (B lo g : Nat) (col : Nat → Nat) (M R P pg : Nat) (pc : Int) (ws : List Nat), e = .returned (.agg #[.pointer (some ⟨M, 0, none⟩), .pointer (some ⟨R, 0, none⟩), .pointer (some ⟨P, 0, none⟩)]) ∧ BPl B lo g col M R P pg w' s37b zeroV pc ws ∧ PaintIs b l ws ∧ W.heap.size ≤ B ∧ Below W.heap.size W w'
set_option maxHeartbeats 3200000 in
theorem w37made (b l : Int) (W : World) (h0 : 0 ≤ b) (h1 : b ≤ 1023) (h2 : 0 ≤ l) (h3 : l ≤ 63) (ht : TzTab W) :
    Calls Tryz.prog 5 #[.agg #[.int .i64 b, .int .i64 l]] W (MadePost b l W) := by
  have T := Lib.hid ht
  obtain ⟨ws, vp, hpn, hpi, hv0, hv1⟩ := paint_new b l h0 h1 h2 h3
  have T0 : Hid (TzTab W) := T
  have HPN := Lib.hid hpn
  have HPI := Lib.hid hpi
  have HV := Lib.hid (And.intro hv0 hv1)
  have HQ0 := Lib.hid (And.intro ((alc0 W (.cells #[.int .i64 b, .int .i64 l] 23)).cell (p := ⟨W.heap.size, 0, none⟩)) True.intro)
  clear ht hpn hpi hv0 hv1 h0 h1 h2 h3 HQ0
  have HB1 := Lib.hid (alc (alc0 W (.cells #[.int .i64 b, .int .i64 l] 23)) (.cells #[.pointer none, .pointer none, .pointer none] 31))
  go_enter Tryz.func5, Tryz.ntmps5
  go_upto_region 1 with (fail)
  have HS1 : Hid (((W.alloc (.cells #[.int .i64 b, .int .i64 l] 23)).alloc (.cells #[.pointer none, .pointer none, .pointer none] 31)).cell? ⟨W.heap.size, 0, none⟩ = some (.int .i64 b) ∧ ((W.alloc (.cells #[.int .i64 b, .int .i64 l] 23)).alloc (.cells #[.pointer none, .pointer none, .pointer none] 31)).cell? ⟨W.heap.size, 1, none⟩ = some (.int .i64 l)) := Lib.hid (by simp)
  have HR1 : Hid (((W.alloc (.cells #[.int .i64 b, .int .i64 l] 23)).alloc (.cells #[.pointer none, .pointer none, .pointer none] 31)).frozen? ⟨W.heap.size + 1, 0, none⟩ = false ∧ ((W.alloc (.cells #[.int .i64 b, .int .i64 l] 23)).alloc (.cells #[.pointer none, .pointer none, .pointer none] 31)).frozen? ⟨W.heap.size + 1, 1, none⟩ = false ∧ ((W.alloc (.cells #[.int .i64 b, .int .i64 l] 23)).alloc (.cells #[.pointer none, .pointer none, .pointer none] 31)).frozen? ⟨W.heap.size + 1, 2, none⟩ = false ∧ ((W.alloc (.cells #[.int .i64 b, .int .i64 l] 23)).alloc (.cells #[.pointer none, .pointer none, .pointer none] 31)).cell? ⟨W.heap.size + 1, 0, none⟩ = some (.pointer none) ∧ ((W.alloc (.cells #[.int .i64 b, .int .i64 l] 23)).alloc (.cells #[.pointer none, .pointer none, .pointer none] 31)).cell? ⟨W.heap.size + 1, 1, none⟩ = some (.pointer none) ∧ ((W.alloc (.cells #[.int .i64 b, .int .i64 l] 23)).alloc (.cells #[.pointer none, .pointer none, .pointer none] 31)).cell? ⟨W.heap.size + 1, 2, none⟩ = some (.pointer none)) := Lib.hid (by simp)
  have HZ1 : Hid (W.heap.size + 1 < ((W.alloc (.cells #[.int .i64 b, .int .i64 l] 23)).alloc (.cells #[.pointer none, .pointer none, .pointer none] 31)).heap.size) := Lib.hid (by simp)
  generalize hw1 : (W.alloc (.cells #[.int .i64 b, .int .i64 l] 23)).alloc (.cells #[.pointer none, .pointer none, .pointer none] 31) = w1 at *
  clear hw1
  go_wp2_with fail
  refine (mnew 4 4 _ (T.out.later HB1.out) (by decide)).mono ?_
  rintro e v1 ⟨M, col, rfl, hm, hb⟩
  have HM := Lib.hid hm
  have HBa := Lib.hid hb
  clear hm hb
  go_wp2_with fail
  refine (rnew 4 4 (by decide) v1).mono ?_
  rintro e v2 ⟨R, g, rfl, hr, hb, hr0, hg0⟩
  have HRg := Lib.hid (And.intro hr (And.intro hr0 hg0))
  have HBb := Lib.hid hb
  clear hr hb hr0 hg0
  go_wp2_with fail
  refine (ptnew_any v2).mono ?_
  rintro e v3 ⟨pg, P, rfl, hp, hb⟩
  have HPl : Hid (BPl w1.heap.size v2.heap.size g col M R P pg v3 (newS 4) zeroV 0 (List.replicate 256 0)) := Lib.hid (by
    have q1 := HM.out.size
    have q2 := HBb.out.size
    have q3 := HRg.out.1.1
    have q4 := HRg.out.1.2.1
    exact ⟨(HM.out.later HBb.out).later hb, HRg.out.1.below hb, hp, ⟨HM.out.old HRg.out.2.1, HM.out.old HRg.out.2.2⟩, fun i i1 i2 => HM.out.old (by omega), ⟨by have := HRg.out.2.1; omega, by have := HRg.out.2.2; omega, by omega⟩, fun i i1 i2 => ⟨by omega, by omega⟩⟩)
  have HLo : Hid (R < v2.heap.size ∧ g < v2.heap.size) := Lib.hid ⟨HRg.out.1.1, HRg.out.1.2.1⟩
  have HB3 : Hid (Below w1.heap.size w1 v3) := Lib.hid ((HBa.out.trans (HBb.out.mono HM.out.size)).trans (hb.mono (by have := HBb.out.size; have := HM.out.size; omega)))
  clear hp hb HM HBa HBb HRg
  generalize v2.heap.size = lo at *
  go_upto_region 2 with (fail)
  have hbq := alc0 v3 (.cells #[.pointer (some ⟨M, 0, none⟩), .pointer (some ⟨R, 0, none⟩), .pointer (some ⟨P, 0, none⟩)] 31)
  have HX4 := Lib.hid (PlAt.new v3 M R P 31)
  have HPl4 := Lib.hid (HPl.out.later hbq)
  have HB4 := Lib.hid (thn HB3.out hbq)
  have HC4 : Hid (col v3.heap.size = 0 ∧ lo ≤ v3.heap.size ∧ P < v3.heap.size) := Lib.hid ⟨HPl.out.mem.old (Nat.le_refl _), by have := HPl.out.pt.2.1; have := HPl.out.pt.1.1; omega, HPl.out.pt.2.1.2⟩
  clear hbq HPl HB3
  generalize hw4 : v3.alloc (.cells #[.pointer (some ⟨M, 0, none⟩), .pointer (some ⟨R, 0, none⟩), .pointer (some ⟨P, 0, none⟩)] 31) = v4 at *
  generalize v3.heap.size = x at *
  clear hw4
  obtain ⟨-, k0, k1, k2⟩ := HX4.out
  have K1 := Lib.hid (mmap_free 0 4 HPl4.out.mem (by decide) (fun y _ _ => rfl))
  go_wp2_with fail
  refine K1.out.mono ?_
  rintro e v5 (⟨h, _⟩ | ⟨-, rfl, hs2, -⟩)
  · exfalso
    have : cntF (newS 4).pg 1024 = 0 := cntF_none37 1024
    rw [this] at h
    revert h
    decide
  obtain ⟨col5, hp5, hc5, ho5, hb5⟩ := HPl4.out.mstep hs2
  have HX5 := Lib.hid (HX4.out.keep hb5.size (ho5 _ HX4.out.1 (by rw [HC4.out.1]; decide)))
  have HC5 : Hid (col5 x = 0) := Lib.hid ((hc5 _ HX4.out.1).trans HC4.out.1)
  have HPl5 : Hid (BPl w1.heap.size lo g col5 M R P pg v5 s37 zeroV 0 (List.replicate 256 0)) := Lib.hid hp5
  have HB5 := Lib.hid (HB4.out.trans hb5)
  clear hs2 hp5 hc5 ho5 hb5 K1 k0 k1 k2 HX4 HPl4 HB4
  obtain ⟨-, k0, k1, k2⟩ := HX5.out
  go_wp2_with fail
  with_reducible refine Calls.mono (msettag_ok 0 1024 1 HPl5.out.mem (by decide) s37_open) ?_
  rintro e v6 ⟨rfl, hs6⟩
  obtain ⟨col6, hp6, hc6, ho6, hb6⟩ := HPl5.out.mstep hs6
  have HX6 := Lib.hid (HX5.out.keep hb6.size (ho6 _ HX5.out.1 (by rw [HC5.out]; decide)))
  have HPl6 : Hid (BPl w1.heap.size lo g col6 M R P pg v6 s37b zeroV 0 (List.replicate 256 0)) := Lib.hid hp6
  have HB6 := Lib.hid (HB5.out.trans hb6)
  clear hs6 hp6 hc6 ho6 hb6 k0 k1 k2 HX5 HPl5 HB5
  obtain ⟨-, k0, k1, k2⟩ := HX6.out
  have s0 := (HB6.out.cell (p := ⟨W.heap.size, 0, none⟩) (by have := HZ1.out; show W.heap.size < _; omega)).trans HS1.out.1
  have s1 := (HB6.out.cell (p := ⟨W.heap.size, 1, none⟩) (by have := HZ1.out; show W.heap.size < _; omega)).trans HS1.out.2
  go_wp2_with fail
  with_reducible refine Calls.mono (ptput b l vp vp ws HPl6.out.pt HPN.out (by omega) HV.out) ?_
  rintro e v7 ⟨rfl, hp7, hb7, hi7, hz7⟩
  have HPl7 := Lib.hid (HPl6.out.paint hp7 hb7 hi7 HLo.out)
  have HX7 := Lib.hid (HX6.out.keep hb7.size (hi7 _ HC4.out.2.2 HX6.out.1))
  have HB7 : Hid (Below w1.heap.size w1 v7) := Lib.hid (HB6.out.trans (hb7.mono HPl6.out.br.2.2))
  clear hp7 hb7 hi7 hz7 k0 k1 k2 s0 s1 HX6 HPl6 HB6
  obtain ⟨-, k0, k1, k2⟩ := HX7.out
  have z1 := HZ1.out
  have f0 := (HB7.out.frozen (p := ⟨W.heap.size + 1, 0, none⟩) z1).trans HR1.out.1
  have f1 := (HB7.out.frozen (p := ⟨W.heap.size + 1, 1, none⟩) z1).trans HR1.out.2.1
  have f2 := (HB7.out.frozen (p := ⟨W.heap.size + 1, 2, none⟩) z1).trans HR1.out.2.2.1
  have r0 := (HB7.out.cell (p := ⟨W.heap.size + 1, 0, none⟩) z1).trans HR1.out.2.2.2.1
  have r1 := (HB7.out.cell (p := ⟨W.heap.size + 1, 1, none⟩) z1).trans HR1.out.2.2.2.2.1
  have r2 := (HB7.out.cell (p := ⟨W.heap.size + 1, 2, none⟩) z1).trans HR1.out.2.2.2.2.2
  clear z1
  go_wp2
  refine bodyPost_ret (v := .agg #[.pointer (some ⟨M, 0, none⟩), .pointer (some ⟨R, 0, none⟩), .pointer (some ⟨P, 0, none⟩)]) (by simp [results, Tryz.results5, go_sem, f0, f1, f2, r0, r1, r2]) rfl ?_
  have hx : ∀ (W0 : World) (o : Nat) (v : Value) (i : Nat), i ≠ W.heap.size + 1 → (W0.setCell ⟨W.heap.size + 1, o, none⟩ v).heap[i]? = W0.heap[i]? := fun W0 o v i hi => Below.heap_setCell _ _ _ _ (by simpa using hi)
  have hbF : Below W.heap.size W (((v7.setCell ⟨W.heap.size + 1, 0, none⟩ (.pointer (some ⟨M, 0, none⟩))).setCell ⟨W.heap.size + 1, 1, none⟩ (.pointer (some ⟨R, 0, none⟩))).setCell ⟨W.heap.size + 1, 2, none⟩ (.pointer (some ⟨P, 0, none⟩))) := (((HB1.out.trans (HB7.out.mono HB1.out.size)).setCell (by show W.heap.size ≤ W.heap.size + 1; omega) _).setCell (by show W.heap.size ≤ W.heap.size + 1; omega) _).setCell (by show W.heap.size ≤ W.heap.size + 1; omega) _
  refine ⟨w1.heap.size, lo, g, col6, M, R, P, pg, vp, ws, rfl, HPl7.out.low T0.out HB1.out.size hbF (by simp only [size_set']) (fun i hi => ?_), HPI.out, HB1.out.size, hbF⟩
  have hi' : i ≠ W.heap.size + 1 := by have := HZ1.out; omega
  rw [hx _ _ _ _ hi', hx _ _ _ _ hi', hx _ _ _ _ hi']
end Go.Proofs.YtnfcpohbdkionaaGreatDoor
