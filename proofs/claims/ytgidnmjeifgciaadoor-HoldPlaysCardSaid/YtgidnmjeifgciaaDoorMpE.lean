/- MemPlays: the statement's awake, its argument, the two memories side by side, what is kept and cleared (MmW, MpB, MpC, MpD in one text: a claim holds at most 60 files). -/
import Derived.Test.YtgidnmjeifgciaaDoorMmI
import Derived.Test.YtgidnmjeifgciaaDoorMmN
import Derived.Test.YtgidnmjeifgciaaDoorMmR
import Derived.Lib.SlBytesConst
import Derived.Test.YtgidnmjeifgciaaDoorMpA
import Derived.Test.YtgidnmjeifgciaaDoorRecs
import Derived.OpenShut
import Derived.SizedLaws
import Derived.Test.YtgidnmjeifgciaaDoorInts0
namespace Go.Proofs.YtgidnmjeifgciaaDoor
set_option maxRecDepth 100000
open Go.RowKit Go.ChangeMaps Go.MapKept
set_option linter.unusedVariables false
set_option linter.unusedSimpArgs false

theorem cntF_onK {kp : Nat → Bool} {x n : Nat} (hx : x < n) (h : kp x = false) : cntF (onK kp x) n = cntF kp n + 1 := by
  have key : ∀ m, cntF (onK kp x) m = cntF kp m + if x < m then 1 else 0 := fun m => by
    induction m with
    | zero => rfl
    | succ m ih =>
      rw [cntF, cntF, ih]
      by_cases e : x = m
      · subst e
        have h1 : onK kp x x = true := by unfold onK; rw [decide_eq_true rfl, Bool.or_true]
        rw [h1, h, if_neg (show ¬ x < x by omega), if_pos (show x < x + 1 by omega)]
        simp
      · have h1 : onK kp x m = kp m := by unfold onK; rw [decide_eq_false e, Bool.or_false]
        rw [h1]
        by_cases e2 : x < m
        · rw [if_pos e2, if_pos (show x < m + 1 by omega)]; omega
        · rw [if_neg e2, if_neg (show ¬ x < m + 1 by omega)]; omega
  rw [key, if_pos hx]
theorem offF_none {kp : Nat → Bool} {f n x : Nat} (h : kp x = false) : offF kp f n x = false := by unfold offF; rw [h]; rfl
def b16 (i : Nat) : Nat := [48, 49, 50, 51, 52, 53, 54, 55, 56, 57, 97, 98, 99, 100, 101, 102].getD i 0
set_option maxHeartbeats 3200000 in
theorem w08awake (w : World) (ht : TzTab w) :
    Calls Tryd.prog 10 #[] w fun e w' => e = .returned (.bool true) ∧ Below w.heap.size w w' := by
  have T := Lib.hid ht; clear ht
  go_enter Tryd.func10, Tryd.ntmps10
  go_wp2_with fail
  refine (mnew 4 4 _ T.out (by decide)).mono ?_
  rintro e v1 ⟨M, col, rfl, hm1, hb1⟩
  have HM1 := Lib.hid hm1
  have HB1 := Lib.hid hb1
  clear hm1 hb1
  have K1 := Lib.hid (mmap_free 0 1 HM1.out (by decide) (fun y _ _ => rfl))
  go_wp2_with fail
  refine K1.out.mono ?_
  rintro e v2 (⟨h, _⟩ | ⟨-, rfl, hs2, -⟩)
  · exfalso
    have : cntF (newS 4).pg 1024 = 0 := cntF_none 1024
    rw [this] at h
    revert h
    decide
  have HS2 := Lib.hid hs2
  obtain ⟨col2, hm2, -, -, hb2⟩ := hs2
  have HB2 : Hid (Below w.heap.size w v2) := Lib.hid (HB1.out.trans hb2)
  have HM2 := Lib.hid hm2
  clear hb2 hm2 HS2 K1
  have hcv := Lib.run_convert_bytes_const (P := Tryd.prog) v2 35 5 #[.int .u8 48, .int .u8 49, .int .u8 50, .int .u8 51, .int .u8 52, .int .u8 53, .int .u8 54, .int .u8 55, .int .u8 56, .int .u8 57, .int .u8 97, .int .u8 98, .int .u8 99, .int .u8 100, .int .u8 101, .int .u8 102] 16 16 Tryd.underlying35 Tryd.underlying5
  go_wp2_with fail
  refine (mkeep_ok 16 v2.heap.size 0 16 b16 (HM2.out.later (alc0 _ _)) (by decide) (by decide) (fun i hi => ?_) (HM2.out.old (Nat.le_refl _))).mono ?_
  · have h16 : i = 0 ∨ i = 1 ∨ i = 2 ∨ i = 3 ∨ i = 4 ∨ i = 5 ∨ i = 6 ∨ i = 7 ∨ i = 8 ∨ i = 9 ∨ i = 10 ∨ i = 11 ∨ i = 12 ∨ i = 13 ∨ i = 14 ∨ i = 15 := by omega
    rw [Nat.zero_add, World.cell?_alloc_mark]
    rcases h16 with rfl | rfl | rfl | rfl | rfl | rfl | rfl | rfl | rfl | rfl | rfl | rfl | rfl | rfl | rfl | rfl <;> rfl
  rintro e v3 ⟨rfl, col3, hm3, -, -, hb3⟩
  have HB3 : Hid (Below w.heap.size w v3) := Lib.hid ((HB2.out.alloc HB2.out.size _).trans hb3)
  have HM3 := Lib.hid hm3
  clear hb3 hm3
  go_wp2_with fail
  refine (mread_ok 16 2 HM3.out (by decide)).mono ?_
  rintro e v4 ⟨D, rfl, hD, hP, hb4⟩
  have c0 : v4.cell? ⟨D, 0, none⟩ = some (.int .u8 0) := hP.2.1 0 (by decide)
  have hDz := hP.1
  have HB4 : Hid (Below w.heap.size w v4) := Lib.hid (HB3.out.trans (hb4.mono HB3.out.size))
  have HM4 := Lib.hid (HM3.out.later hb4)
  clear hP hb4
  go_wp2_with fail
  refine (mkept_yes 1 HM4.out (by decide)).mono ?_
  rintro e v5 ⟨D2, cap, rfl, hD2, hcap, hP2, hb5⟩
  have e0 : v5.cell? ⟨D2, 0, none⟩ = some (.int .u8 48) := hP2.2.1 0 (by decide)
  have e1 : v5.cell? ⟨D, 0, none⟩ = some (.int .u8 0) := (hb5.cell (p := ⟨D, 0, none⟩) hDz).trans c0
  have HB5 : Hid (Below w.heap.size w v5) := Lib.hid (HB4.out.trans (hb5.mono HB4.out.size))
  have hcc : cntF (keepS { newS 4 with pg := onF (newS 4).pg 0 1, peak := max (newS 4).peak ((cntF (newS 4).pg 1024 : Nat) + 1) } 16 b16).kp 16384 = 1 := by
    show cntF (onK (fun _ => false) 1) 16384 = 1
    rw [cntF_onK (by decide) rfl, cntF_none]
  have hc := mcaps (HM4.out.later hb5)
  rw [hcc] at hc
  have HC := Lib.hid hc
  clear hP2 hb5 hc hcc c0
  go_wp2_with fail
  refine HC.out.mono ?_
  rintro e w' ⟨rfl, rfl⟩
  go_wp2
  go_ret
  exact ⟨rfl, HB5.out⟩
end Go.Proofs.YtgidnmjeifgciaaDoor
namespace Go.Proofs.YtgidnmjeifgciaaDoor
set_option maxRecDepth 100000
open Go.RowKit Go.ChangeShapes Go.WideShapes Go.Deep
set_option linter.unusedVariables false
set_option linter.unusedSimpArgs false

/-- An act: its kind, its place, its bytes, its number. -/
structure AV where
  w : Int
  a : Int
  P : Option Addr
  ln : Nat
  cp : Nat
  d : Nat → Nat
  n : Int
def BS (W : World) (P : Option Addr) (ln cp : Nat) (d : Nat → Nat) : Prop :=
  (ln = 0 ∨ ∃ (sb so : Nat), P = some ⟨sb, so, none⟩ ∧ sb < W.heap.size ∧ ∀ i, i < ln → W.cell? ⟨sb, so + i, none⟩ = some (.int .u8 (d i : Int))) ∧ ln ≤ cp ∧ ∀ i, d i < 256
theorem BS.keep {W W' : World} {P : Option Addr} {ln cp : Nat} {d : Nat → Nat} (h : BS W P ln cp d) (hb : Below W.heap.size W W') : BS W' P ln cp d := by
  obtain ⟨h | ⟨sb, so, e, h1, h2⟩, h3⟩ := h
  · exact ⟨.inl h, h3⟩
  · exact ⟨.inr ⟨sb, so, e, Nat.lt_of_lt_of_le h1 hb.size, fun i hi => (hb.cell (p := ⟨sb, so + i, none⟩) h1).trans (h2 i hi)⟩, h3⟩
def AvAt (W : World) (b off : Nat) (p : AV) : Prop :=
  (W.cell? ⟨b, off, none⟩ = some (.int .i64 p.w) ∧ W.cell? ⟨b, off + 1, none⟩ = some (.int .i64 p.a) ∧ W.cell? ⟨b, off + 2, none⟩ = some (.int .i64 p.n) ∧ W.cell? ⟨b, off + 3, none⟩ = some (.slice p.P p.ln p.cp)) ∧ BS W p.P p.ln p.cp p.d ∧ p.ln ≤ 9223372036854775807
theorem AvAt.keep {W W' : World} {b off : Nat} {p : AV} (h : AvAt W b off p) (hb : b < W.heap.size) (hB : Below W.heap.size W W') : AvAt W' b off p := by
  obtain ⟨⟨h0, h1, h2, h3⟩, h4, h5⟩ := h
  exact ⟨⟨(hB.cell (p := ⟨b, off, none⟩) hb).trans h0, (hB.cell (p := ⟨b, off + 1, none⟩) hb).trans h1, (hB.cell (p := ⟨b, off + 2, none⟩) hb).trans h2, (hB.cell (p := ⟨b, off + 3, none⟩) hb).trans h3⟩, h4.keep hB, h5⟩
/-- A slice of acts. -/
def ACTS (W : World) (A : Option Addr) (l : List AV) : Prop :=
  l = [] ∨ ∃ b off, A = some ⟨b, off, none⟩ ∧ b < W.heap.size ∧ ∀ i p, l[i]? = some p → AvAt W b (off + i * 4) p
theorem ACTS.keep {W W' : World} {A : Option Addr} {l : List AV} (h : ACTS W A l) (hB : Below W.heap.size W W') : ACTS W' A l := by
  rcases h with h | ⟨b, off, e, h1, h2⟩
  · exact .inl h
  · exact .inr ⟨b, off, e, Nat.lt_of_lt_of_le h1 hB.size, fun i p hp => (h2 i p hp).keep h1 hB⟩
section
variable {H : Type} {enc : TypeId × Value → H} {w : World} {base : Nat} {spare : Nat → Bool} {held : Bool}
theorem bs_of {fuel : Nat} {v : Value} {x : DataW H × List MemPlace} (h : DataW.trod enc Tryd.prog w base spare held fuel 35 [v] = some x) :
    ∃ A ln cp d, v = .slice A ln cp ∧ BS w A ln cp d ∧ ln ≤ 9223372036854775807 := by
  rcases open_ints Tryd.underlying35 Tryd.underlying5 (by kernel_rfl) h with ⟨hcs, _⟩ | ⟨a, len, cap, zs, hcs, _, hl, hm, hz, hx, hcell, hwz⟩
  · injection hcs with hv _
    exact ⟨none, 0, 0, fun _ => 0, hv, ⟨.inl rfl, Nat.le_refl _, fun _ => Nat.zero_lt_succ 255⟩, by decide⟩
  · injection hcs with hv _
    subst hv
    have hzl : len ≤ zs.length := by rw [hz]; split <;> omega
    have h1 : IntKind.u8.min = 0 := rfl
    have h2 : IntKind.u8.max = 255 := rfl
    have hb : ∀ i, 0 ≤ zs.getD i 0 ∧ zs.getD i 0 < 256 := fun i => by
      by_cases hi : i < zs.length
      · have h3 := hwz zs[i] (List.getElem_mem hi)
        simp [Lit.wf] at h3
        have e : zs.getD i 0 = zs[i] := by simp [List.getD, hi]
        rw [e]
        omega
      · have e : zs.getD i 0 = 0 := by simp [List.getD, hi]
        rw [e]
        omega
    refine ⟨some a, len, cap, fun i => (zs.getD i 0).toNat, rfl, ⟨?_, hl, fun i => by have := hb i; show (zs.getD i 0).toNat < 256; omega⟩, by unfold maxLen at hm; omega⟩
    by_cases h0 : len = 0
    · exact .inl h0
    · obtain ⟨b, off, rfl, hc⟩ := ints_at hcell (show 0 < zs.length by omega)
      refine .inr ⟨b, off, rfl, World.block_lt_of_cell? w _ (hc 0 (by omega)), fun i hi => ?_⟩
      rw [hc i (by omega)]
      refine congrArg (fun z => some (Value.int .u8 z)) ?_
      show zs.getD i 0 = (((zs.getD i 0).toNat : Nat) : Int)
      have := hb i
      omega
theorem elem4 {P : Program} {t : TypeId} {f0 f1 f2 f3 : Field} {fuel : Nat} {cs : List Value} {x : DataW H × List MemPlace} (hs : P.underlying t = some (.struct #[f0, f1, f2, f3])) (hone : oneCellFields P #[f0, f1, f2, f3] = true) (hl : cs.length = 4)
    (h : DataW.trod enc P w base spare held fuel t cs = some x) :
    ∃ (c0 c1 c2 c3 : Value) (y0 y1 y2 y3 : DataW H × List MemPlace) (n : Nat), cs = [c0, c1, c2, c3] ∧
      DataW.trod enc P w base spare held n f0.type [c0] = some y0 ∧ DataW.trod enc P w base spare held n f1.type [c1] = some y1 ∧ DataW.trod enc P w base spare held n f2.type [c2] = some y2 ∧ DataW.trod enc P w base spare held n f3.type [c3] = some y3 := by
  obtain ⟨ys, n, _, hx, _, hlen, hg⟩ := DataW.trod_struct hs h
  match cs, hl with
  | [c0, c1, c2, c3], _ =>
    match ys, hlen with
    | [y0, y1, y2, y3], _ =>
      obtain ⟨o0, k0⟩ := hone_of hone 0 f0 rfl
      obtain ⟨o1, k1⟩ := hone_of hone 1 f1 rfl
      obtain ⟨o2, k2⟩ := hone_of hone 2 f2 rfl
      obtain ⟨o3, k3⟩ := hone_of hone 3 f3 rfl
      exact ⟨c0, c1, c2, c3, y0, y1, y2, y3, n, rfl, by simpa [o0, k0] using hg 0 f0 rfl, by simpa [o1, k1] using hg 1 f1 rfl, by simpa [o2, k2] using hg 2 f2 rfl, by simpa [o3, k3] using hg 3 f3 rfl⟩
def enc4 (p : AV) : List Value := [.int .i64 p.w, .int .i64 p.a, .int .i64 p.n, .slice p.P p.ln p.cp]
theorem act_of {fuel : Nat} {cs : List Value} {x : DataW H × List MemPlace} (h : DataW.trod enc Tryd.prog w base spare held fuel 37 cs = some x) (hl : cs.length = 4) :
    ∃ p : AV, cs = enc4 p ∧ BS w p.P p.ln p.cp p.d ∧ p.ln ≤ 9223372036854775807 := by
  obtain ⟨c0, c1, c2, c3, y0, y1, y2, y3, n, rfl, h0, h1, h2, h3⟩ := elem4 Tryd.underlying37 (by kernel_rfl) hl h
  obtain ⟨z0, e0, -, b0⟩ := DataW.trod_int Tryd.underlying3 h0
  obtain ⟨z1, e1, -, b1⟩ := DataW.trod_int Tryd.underlying3 h1
  obtain ⟨z2, e2, -, b2⟩ := DataW.trod_int Tryd.underlying3 h2
  obtain ⟨A, ln, cp, d, rfl, hd, hln⟩ := bs_of h3
  injection e0 with e0 _
  injection e1 with e1 _
  injection e2 with e2 _
  subst e0 e1 e2
  exact ⟨⟨z0, z1, A, ln, cp, d, z2⟩, rfl, hd, hln⟩
theorem acts_of {fuel : Nat} {v : Value} {x : DataW H × List MemPlace} (h : DataW.trod enc Tryd.prog w base spare held fuel 22 [v] = some x) :
    ∃ (A : Option Addr) (l : List AV) (c : Nat), v = .slice A l.length c ∧ l.length ≤ 9223372036854775807 ∧ ACTS w A l := by
  rcases open_slice Tryd.underlying22 h with ⟨hcs, _⟩ | ⟨a, len, cap, m, k, D, Pl, hcs, hb, hl, hm, hmm, hx, hi⟩
  · injection hcs with hv _
    subst hv
    exact ⟨none, [], 0, rfl, by simp, .inl rfl⟩
  · injection hcs with hv _
    subst hv
    have hlm : len ≤ m := by rw [hmm]; split <;> omega
    have hC : Tryd.prog.cellsOf 37 = 4 := by kernel_rfl
    have key : ∀ i, i < len → ∃ p : AV, (∀ j, j < 4 → w.cell? (a.add (i * 4 + j)) = (enc4 p)[j]?) ∧ BS w p.P p.ln p.cp p.d ∧ p.ln ≤ 9223372036854775807 := by
      intro i hin
      obtain ⟨cs', hc, ht'⟩ := hi i (by omega)
      rw [hC] at hc
      obtain ⟨_, hcl, hat⟩ := World.cells?_some hc
      obtain ⟨p, e, h1, h2⟩ := act_of ht' hcl
      subst e
      refine ⟨p, fun j hj => ?_, h1, h2⟩
      rw [← hat j hj, add_add]
    haveI : Inhabited AV := ⟨⟨0, 0, none, 0, 0, fun _ => 0, 0⟩⟩
    obtain ⟨f, hf⟩ := choose_lt key
    have hll : ((List.range len).map f).length = len := by simp
    refine ⟨some a, (List.range len).map f, cap, by rw [hll], by rw [hll]; unfold maxLen at hm; omega, ?_⟩
    by_cases h0 : len = 0
    · exact .inl (by subst h0; rfl)
    · have g0 := (hf 0 (by omega)).1 0 (by decide)
      obtain ⟨b, off, spot⟩ := a
      have hspot : spot = none := by simpa [Addr.add] using World.cell?_spot (g0.trans (show (enc4 (f 0))[0]? = some _ from rfl))
      subst hspot
      refine .inr ⟨b, off, rfl, World.block_lt_of_cell? w _ (g0.trans (show (enc4 (f 0))[0]? = some _ from rfl)), fun i p hp => ?_⟩
      have hin : i < len := by have := (List.getElem?_eq_some_iff.1 hp).1; simpa using this
      have e : f i = p := by simpa [hin] using hp
      obtain ⟨k1, k2, k3⟩ := hf i hin
      rw [e] at k1 k2 k3
      have kk : ∀ j, j < 4 → w.cell? ⟨b, off + i * 4 + j, none⟩ = (enc4 p)[j]? := fun j hj => by
        have := k1 j hj
        rw [addp] at this
        rw [← this, Nat.add_assoc]
      exact ⟨⟨kk 0 (by decide), kk 1 (by decide), kk 2 (by decide), kk 3 (by decide)⟩, k2, k3⟩
end
end Go.Proofs.YtgidnmjeifgciaaDoor
namespace Go.Proofs.YtgidnmjeifgciaaDoor
set_option maxRecDepth 100000
open Go.RowKit Go.ChangeMaps Go.MapKept
set_option linter.unusedVariables false
set_option linter.unusedSimpArgs false

set_option maxRecDepth 1000000 in
theorem builtM : Tryd.prog.built 34 ((#[] : Array (Nat × Value)).toList) = some zeroR.l.toArray := by kernel_rfl
theorem MEM.obs {B : Nat} {col : Nat → Nat} {M A : Nat} {W w' : World} {σ : MS} (h : MEM B col M W σ) (ho : OB A W w') (hA : col A = 0) (hB : B ≤ A) : MEM B col M w' σ :=
  h.keep (ho.2.2 B hB h.size) (fun i hi hc => ho.2.1 i hi (fun e => hc (by rw [e]; exact hA)))
structure ML (B M A : Nat) (v0 : World) (σ : MS) (r : RS) (cl : Nat → Nat) (w : World) : Prop where
  mem : MEM B cl M w σ
  ca : cl A = 0
  rat : RAt A w r
  one : r.One
  lk : LKM σ r
  most : σ.most = 6
  bel : Below B v0 w
  ba : B ≤ A ∧ B ≤ v0.heap.size
section
variable {B M A : Nat} {v0 : World} {σ : MS} {r : RS} {cl : Nat → Nat} {w : World}
theorem ML.later {w' : World} (h : ML B M A v0 σ r cl w) (hb : Below w.heap.size w w') : ML B M A v0 σ r cl w' :=
  ⟨h.mem.later hb, h.ca, h.rat.below hb, h.one, h.lk, h.most, h.bel.trans (hb.mono h.mem.size), h.ba⟩
/-- Behind an act of the memory, ahead of the document's. -/
structure MHalf (B M A : Nat) (v0 : World) (σ : MS) (r : RS) (cl : Nat → Nat) (w : World) : Prop where
  mem : MEM B cl M w σ
  ca : cl A = 0
  rat : RAt A w r
  one : r.One
  bel : Below B v0 w
  ba : B ≤ A ∧ B ≤ v0.heap.size
theorem ML.step {σ' : MS} {w' : World} (h : ML B M A v0 σ r cl w) (hs : MStep B cl M w σ' w') : ∃ cl', MHalf B M A v0 σ' r cl' w' := by
  obtain ⟨cl', hm, hc, ho, hb⟩ := hs
  have hAz := h.rat.1
  exact ⟨cl', hm, by rw [hc A hAz]; exact h.ca, h.rat.keep hb.size (ho A hAz (by rw [h.ca]; decide)), h.one, h.bel.trans hb, h.ba⟩
theorem ML.half (h : ML B M A v0 σ r cl w) : MHalf B M A v0 σ r cl w := ⟨h.mem, h.ca, h.rat, h.one, h.bel, h.ba⟩
theorem MHalf.later {w' : World} (h : MHalf B M A v0 σ r cl w) (hb : Below w.heap.size w w') : MHalf B M A v0 σ r cl w' :=
  ⟨h.mem.later hb, h.ca, h.rat.below hb, h.one, h.bel.trans (hb.mono h.mem.size), h.ba⟩
theorem MHalf.full (h : MHalf B M A v0 σ r cl w) (hl : LKM σ r) (hm : σ.most = 6) : ML B M A v0 σ r cl w := ⟨h.mem, h.ca, h.rat, h.one, hl, hm, h.bel, h.ba⟩
theorem MHalf.put {r' : RS} (h : MHalf B M A v0 σ r cl w) (ho : r'.One) : MHalf B M A v0 σ r' cl (w.setCells A 0 r'.l) :=
  ⟨h.mem.obs (ob_cells _ _ _ _).1 h.ca h.ba.1, h.ca, h.rat.cells, ho, h.bel.trans ((ob_cells _ _ _ _).1.2.2 _ h.ba.1 h.mem.size), h.ba⟩
theorem MHalf.there (h : MHalf B M A v0 σ r cl w) (r' : RS) : w.there A 0 r'.l.toArray.size := by
  rw [show r'.l.toArray.size = 3080 by rw [List.size_toArray, RS.len]]; exact h.rat.there
def MEET (B M A : Nat) (v0 : World) (v8 v9 : Value) (w : World) : Prop := ∃ (X : Int) (σ : MS) (r : RS) (cl : Nat → Nat), v8 = .int .i64 X ∧ v9 = .int .i64 X ∧ ML B M A v0 σ r cl w

theorem LKM.page {pk : Int} {y : Nat} (h : LKM σ r) (hy : y < 8) (ho : r.o y = false) : LKM { σ with pg := onF σ.pg y 1, peak := pk } (freshN r y true 256 16) := by
  have e1 : ∀ z, z < 8 → (freshN r y true 256 16).o z = if z = y then true else r.o z := fun z _ => rfl
  have eb : ∀ x, x < 2048 → (freshN r y true 256 16).b x = r.b x := fun x hx => by
    show (if 256 * y ≤ x ∧ x < 256 * y + 256 then 0 else r.b x) = r.b x
    split
    · rw [h.cb x hx (by rw [show x / 256 = y by omega]; exact ho)]
    · rfl
  have et : ∀ g, g < 128 → (freshN r y true 256 16).t g = r.t g := fun g hg => by
    show (if 16 * y ≤ g ∧ g < 16 * y + 16 then 0 else r.t g) = r.t g
    split
    · rw [(h.ct g hg (by rw [show g / 16 = y by omega]; exact ho)).1]
    · rfl
  have ek : ∀ g, g < 128 → (freshN r y true 256 16).k g = r.k g := fun g hg => by
    show (if 16 * y ≤ g ∧ g < 16 * y + 16 then false else r.k g) = r.k g
    split
    · rw [(h.ct g hg (by rw [show g / 16 = y by omega]; exact ho)).2]
    · rfl
  refine ⟨fun z hz => ?_, fun z hz => ?_, fun x hx => by rw [eb x hx]; exact h.byt x hx, fun g hg => by rw [et g hg]; exact h.tag g hg, fun g hg => by rw [ek g hg]; exact h.kep g hg, h.khi, fun g hg hk => ?_, h.vlt, fun x hx hc => ?_, fun g hg hc => ?_⟩
  · show (σ.pg z || decide ((y : Int) ≤ z ∧ (z : Int) < y + 1)) = _
    rw [e1 z hz, h.same z hz]
    by_cases e : z = y
    · rw [if_pos e, decide_eq_true (by omega), Bool.or_true]
    · rw [if_neg e, decide_eq_false (by omega), Bool.or_false]
  · show (σ.pg z || decide ((y : Int) ≤ z ∧ (z : Int) < y + 1)) = false
    rw [h.high z hz, decide_eq_false (by omega)]; rfl
  · show (if 96 * y ≤ 6 * g ∧ 6 * g < 96 * y + 6 * 16 then zv (6 * g) else r.v (6 * g)) = _
    have hno : ¬ (96 * y ≤ 6 * g ∧ 6 * g < 96 * y + 6 * 16) := fun hc => by
      have := (h.ct g hg (by rw [show g / 16 = y by omega]; exact ho)).2
      rw [h.kep g hg] at this
      exact absurd (hk.symm.trans this) (by decide)
    rw [if_neg hno]
    exact h.val g hg hk
  · rw [eb x hx]
    refine h.cb x hx ?_
    rw [e1 _ (by omega)] at hc
    by_cases e : x / 256 = y
    · rw [if_pos e] at hc; cases hc
    · rwa [if_neg e] at hc
  · rw [et g hg, ek g hg]
    refine h.ct g hg ?_
    rw [e1 _ (by omega)] at hc
    by_cases e : g / 16 = y
    · rw [if_pos e] at hc; cases hc
    · rwa [if_neg e] at hc
theorem LKM.gone {y : Nat} (h : LKM σ r) (hy : y < 8) : LKM { wipeS σ y 1 with pg := offP σ.pg y 1 } (freshN r y false 256 16) := by
  have e1 : ∀ z, (freshN r y false 256 16).o z = if z = y then false else r.o z := fun z => rfl
  have eb : ∀ x, (freshN r y false 256 16).b x = if 256 * y ≤ x ∧ x < 256 * y + 256 then 0 else r.b x := fun x => rfl
  have et : ∀ g, (freshN r y false 256 16).t g = if 16 * y ≤ g ∧ g < 16 * y + 16 then 0 else r.t g := fun g => rfl
  have ek : ∀ g, (freshN r y false 256 16).k g = if 16 * y ≤ g ∧ g < 16 * y + 16 then false else r.k g := fun g => rfl
  refine ⟨fun z hz => ?_, fun z hz => ?_, fun x hx => ?_, fun g hg => ?_, fun g hg => ?_, fun g hg => ?_, fun g hg hk => ?_, fun g hg hk => ?_, fun x hx hc => ?_, fun g hg hc => ?_⟩
  · show (σ.pg z && !decide (y ≤ z ∧ z < y + 1)) = _
    rw [e1, h.same z hz]
    by_cases e : z = y
    · rw [if_pos e, decide_eq_true (by omega), Bool.not_true, Bool.and_false]
    · rw [if_neg e, decide_eq_false (by omega), Bool.not_false, Bool.and_true]
  · show (σ.pg z && !decide (y ≤ z ∧ z < y + 1)) = false
    rw [h.high z hz]; rfl
  · show (if y ≤ x / 256 ∧ x / 256 < y + 1 then 0 else σ.c x) = _
    rw [eb]
    by_cases e : 256 * y ≤ x ∧ x < 256 * y + 256
    · rw [if_pos e, if_pos (by omega)]
    · rw [if_neg e, if_neg (by omega)]; exact h.byt x hx
  · show _ = ((if 16 * y ≤ g ∧ g < 16 * y + 16 * 1 then 0 else σ.f g : Nat) : Int)
    rw [et]
    by_cases e : 16 * y ≤ g ∧ g < 16 * y + 16
    · rw [if_pos e, if_pos (by omega)]; rfl
    · rw [if_neg e, if_neg (by omega)]; exact h.tag g hg
  · show _ = (σ.kp g && !decide (16 * y ≤ g ∧ g < 16 * y + 16 * 1))
    rw [ek]
    by_cases e : 16 * y ≤ g ∧ g < 16 * y + 16
    · rw [if_pos e, decide_eq_true (by omega), Bool.not_true, Bool.and_false]
    · rw [if_neg e, decide_eq_false (by omega), Bool.not_false, Bool.and_true]; exact h.kep g hg
  · show (σ.kp g && !decide (16 * y ≤ g ∧ g < 16 * y + 16 * 1)) = false
    rw [h.khi g hg]; rfl
  · have hk2 : (σ.kp g && !decide (16 * y ≤ g ∧ g < 16 * y + 16 * 1)) = true := hk
    rw [Bool.and_eq_true, Bool.not_eq_true', decide_eq_false_iff_not] at hk2
    show (if 96 * y ≤ 6 * g ∧ 6 * g < 96 * y + 6 * 16 then zv (6 * g) else r.v (6 * g)) = _
    rw [if_neg (by omega)]
    exact h.val g hg hk2.1
  · have hk2 : (σ.kp g && !decide (16 * y ≤ g ∧ g < 16 * y + 16 * 1)) = true := hk
    rw [Bool.and_eq_true] at hk2
    exact h.vlt g hg hk2.1
  · rw [eb]
    split
    · rfl
    · rw [e1, if_neg (by omega)] at hc
      exact h.cb x hx hc
  · rw [et, ek]
    by_cases e : 16 * y ≤ g ∧ g < 16 * y + 16
    · rw [if_pos e, if_pos e]; exact ⟨rfl, rfl⟩
    · rw [if_neg e, if_neg e]
      rw [e1, if_neg (by omega)] at hc
      exact h.ct g hg hc
theorem LKM.write {a n : Nat} {d : Nat → Nat} (h : LKM σ r) (hn : 1 ≤ n) (han : a + n ≤ 2048) (ho : openR r.o a n = true) : LKM (wrS σ a n d) (wrN r a d n) := by
  have hop : ∀ x, a ≤ x → x < a + n → r.o (x / 256) = true := fun x h1 h2 => by
    rw [openR, Bool.and_eq_true, wholeF_iff] at ho
    exact ho.2 _ (by omega) (by omega)
  have eg : ∀ g, (grF (a : Int) ≤ g ∧ g < grF (a : Int) + grN a n) ↔ Tch a n g := fun g => by unfold grF grN Tch; omega
  refine ⟨h.same, h.high, fun x hx => ?_, h.tag, fun g hg => ?_, fun g hg => ?_, fun g hg hk => ?_, fun g hg hk => ?_, fun x hx hc => ?_, fun g hg hc => ?_⟩
  · show (if a ≤ x ∧ x < a + n then d (x - a) else σ.c x) = if a ≤ x ∧ x < a + n then d (x - a) else r.b x
    split
    · rfl
    · exact h.byt x hx
  · show (if Tch a n g then false else r.k g) = (σ.kp g && !decide (grF (a : Int) ≤ g ∧ g < grF (a : Int) + grN a n))
    by_cases e : Tch a n g
    · rw [if_pos e, decide_eq_true ((eg g).2 e), Bool.not_true, Bool.and_false]
    · rw [if_neg e, decide_eq_false (fun q => e ((eg g).1 q)), Bool.not_false, Bool.and_true]; exact h.kep g hg
  · show (σ.kp g && _) = false
    rw [h.khi g hg]; rfl
  · have hk2 : (σ.kp g && !decide (grF (a : Int) ≤ g ∧ g < grF (a : Int) + grN a n)) = true := hk
    rw [Bool.and_eq_true, Bool.not_eq_true', decide_eq_false_iff_not, eg] at hk2
    show (if Tch a n (6 * g / 6) then zv (6 * g) else r.v (6 * g)) = _
    rw [show 6 * g / 6 = g by omega, if_neg hk2.2]
    exact h.val g hg hk2.1
  · have hk2 : (σ.kp g && !decide (grF (a : Int) ≤ g ∧ g < grF (a : Int) + grN a n)) = true := hk
    rw [Bool.and_eq_true] at hk2
    exact h.vlt g hg hk2.1
  · show (if a ≤ x ∧ x < a + n then d (x - a) else r.b x) = 0
    by_cases e : a ≤ x ∧ x < a + n
    · have := hop x e.1 e.2
      have hc2 : r.o (x / 256) = false := hc
      rw [this] at hc2; cases hc2
    · rw [if_neg e]; exact h.cb x hx hc
  · refine ⟨(h.ct g hg hc).1, ?_⟩
    show (if Tch a n g then false else r.k g) = false
    split
    · rfl
    · exact (h.ct g hg hc).2
theorem LKM.tags {a n : Int} {t F E : Nat} (h : LKM σ r) (hF : a / 16 = F) (hE : (a + n - 1) / 16 = E) (h0 : 0 ≤ a) (hn : 1 ≤ n) (han : a + n ≤ 2048) (ho : openR r.o a n = true) : LKM { σ with f := setF σ.f (grF a) (grN a n) t } (tagN r F (E - F + 1) t) := by
  have eg : grF a = F ∧ grN a n = E - F + 1 := by unfold grF grN; omega
  refine ⟨h.same, h.high, h.byt, fun g hg => ?_, h.kep, h.khi, h.val, h.vlt, h.cb, fun g hg hc => ⟨?_, (h.ct g hg hc).2⟩⟩
  · show (if F ≤ g ∧ g < F + (E - F + 1) then (t : Int) else r.t g) = ((if grF a ≤ g ∧ g < grF a + grN a n then t else σ.f g : Nat) : Int)
    rw [eg.1, eg.2]
    by_cases e : F ≤ g ∧ g < F + (E - F + 1)
    · rw [if_pos e, if_pos e]
    · rw [if_neg e, if_neg e]; exact h.tag g hg
  · show (if F ≤ g ∧ g < F + (E - F + 1) then (t : Int) else r.t g) = 0
    rw [if_neg (fun e => by
      rw [openR, Bool.and_eq_true, wholeF_iff] at ho
      have := ho.2 (g / 16) (by omega) (by omega)
      have hc2 : r.o (g / 16) = false := hc
      rw [this] at hc2; cases hc2)]
    exact (h.ct g hg hc).1
end
end Go.Proofs.YtgidnmjeifgciaaDoor
namespace Go.Proofs.YtgidnmjeifgciaaDoor
set_option maxRecDepth 100000
open Go.RowKit Go.ChangeMaps Go.MapKept
set_option linter.unusedVariables false
set_option linter.unusedSimpArgs false

section
variable {B M A : Nat} {v0 : World} {σ : MS} {r : RS} {cl : Nat → Nat} {w : World}
theorem rat_kv {g : Nat} (h : RAt A w r) (hg : g < 128) (kb : Bool) (f : Nat → Value) (vs : List Value) (hl : vs.length = 6) (hf : ∀ q, q < 6 → vs[q]? = some (f (6 * g + q))) :
    RAt A ((w.setCell ⟨A, 2184 + g, none⟩ (.bool kb)).setCells A (2312 + g * 6) vs) (setV (setK r g kb) g f) := by
  rw [show g * 6 = 6 * g by omega]
  exact (h.setK hg kb).setV hg f vs hl hf
theorem MHalf.kv {g : Nat} (h : MHalf B M A v0 σ r cl w) (hg : g < 128) (kb : Bool) (f : Nat → Value) (vs : List Value) (hl : vs.length = 6) (hf : ∀ q, q < 6 → vs[q]? = some (f (6 * g + q)))
    (ho : ∀ x, 6 * g ≤ x → x < 6 * g + 6 → (f x).oneCell' = true) :
    MHalf B M A v0 σ (setV (setK r g kb) g f) cl ((w.setCell ⟨A, 2184 + g, none⟩ (.bool kb)).setCells A (2312 + g * 6) vs) := by
  have hob : OB A w ((w.setCell ⟨A, 2184 + g, none⟩ (.bool kb)).setCells A (2312 + g * 6) vs) := (ob_set _ _ _ _).trans (ob_cells _ _ _ _).1 (.inl rfl)
  refine ⟨h.mem.obs hob h.ca h.ba.1, h.ca, rat_kv h.rat hg kb f vs hl hf, fun x hx => ?_, h.bel.trans (hob.2.2 _ h.ba.1 h.mem.size), h.ba⟩
  show (if 6 * g ≤ x ∧ x < 6 * g + 6 then f x else r.v x).oneCell' = true
  split
  · rename_i hc; exact ho x hc.1 hc.2
  · exact h.one x hx
theorem rat_thkv {g : Nat} (h : RAt A w r) (hg : g < 128) (kb : Bool) : (w.setCell ⟨A, 2184 + g, none⟩ (.bool kb)).there A (2312 + g * 6) 6 := fun j hj => by
  have h1 := h.2 (2312 + g * 6 + j) (by omega)
  rw [World.cell?_setCell_other _ _ _ _ (by intro q; injection q with _ q; omega), World.frozen?_setCell, h1.1]
  exact ⟨rfl, h1.2⟩
theorem LKM.clear {g : Nat} {kp : Nat → Bool} (h : LKM σ r) (hg : g < 128) (hk : ∀ y, kp y = (σ.kp y && !decide (g = y))) : LKM { σ with kp := kp } (setV (setK r g false) g zv) := by
  refine ⟨h.same, h.high, h.byt, h.tag, fun y hy => ?_, fun y hy => ?_, fun y hy hk2 => ?_, fun y hy hk2 => ?_, h.cb, fun y hy hc => ⟨(h.ct y hy hc).1, ?_⟩⟩
  · show (if y = g then false else r.k y) = kp y
    rw [hk, ← h.kep y hy]
    by_cases e : y = g
    · rw [if_pos e, decide_eq_true e.symm, Bool.not_true, Bool.and_false]
    · rw [if_neg e, decide_eq_false (fun q => e q.symm), Bool.not_false, Bool.and_true]
  · show kp y = false
    rw [hk, h.khi y hy]; rfl
  · have hk3 : (σ.kp y && !decide (g = y)) = true := (hk y).symm.trans hk2
    rw [Bool.and_eq_true, Bool.not_eq_true', decide_eq_false_iff_not] at hk3
    show (if 6 * g ≤ 6 * y ∧ 6 * y < 6 * g + 6 then zv (6 * y) else r.v (6 * y)) = _
    rw [if_neg (by omega)]
    exact h.val y hy hk3.1
  · have hk3 : (σ.kp y && !decide (g = y)) = true := (hk y).symm.trans hk2
    rw [Bool.and_eq_true] at hk3
    exact h.vlt y hy hk3.1
  · show (if y = g then false else r.k y) = false
    split
    · rfl
    · exact (h.ct y hy hc).2
/-- A capability whose Base is n alone. -/
def vb (n : Int) (i : Nat) : Value := if i % 6 = 5 then .bool false else if i % 6 = 0 then .int .i64 n else .int .i64 0
abbrev capB (n : Int) : List Value := [.int .i64 n, .int .i64 0, .int .i64 0, .int .i64 0, .int .i64 0, .bool false]
theorem vb_one (n : Int) (i : Nat) : (vb n i).oneCell' = true := by
  unfold vb; split
  · rfl
  · split <;> rfl
theorem zv_one (i : Nat) : (zv i).oneCell' = true := by
  unfold zv; split <;> rfl
theorem capB_at (n : Int) (i q : Nat) (hq : q < 6) : (capB n)[q]? = some (vb n (6 * i + q)) := by
  have h6 : q = 0 ∨ q = 1 ∨ q = 2 ∨ q = 3 ∨ q = 4 ∨ q = 5 := by omega
  unfold vb
  rcases h6 with rfl | rfl | rfl | rfl | rfl | rfl
  · rw [if_neg (by omega), if_pos (by omega)]; rfl
  · rw [if_neg (by omega), if_neg (by omega)]; rfl
  · rw [if_neg (by omega), if_neg (by omega)]; rfl
  · rw [if_neg (by omega), if_neg (by omega)]; rfl
  · rw [if_neg (by omega), if_neg (by omega)]; rfl
  · rw [if_pos (by omega)]; rfl
theorem capBOne (n : Int) : (#[.int .i64 n, .int .i64 0, .int .i64 0, .int .i64 0, .int .i64 0, .bool false] : Array Value).all (·.oneCell') = true := by simp [Value.oneCell']
theorem LKM.keep {a g n : Nat} {d : Nat → Nat} (h : LKM σ r) (hg : a = 16 * g) (hg8 : g < 128) (ho : openR r.o a 16 = true) (hd : d 0 = n) (hn : n < 256) :
    LKM (keepS σ a d) (setV (setK (wrN r a (fun _ => 0) 16) g true) g (vb n)) := by
  have hw := h.write (a := a) (n := 16) (d := fun _ => 0) (by decide) (by omega) ho
  have eg : a / 16 = g := by omega
  have e1 : grF (a : Int) = g := by unfold grF; omega
  have e2 : grN (a : Int) (16 : Nat) = 1 := by unfold grN; omega
  have hoff : ∀ y, (wrS σ a 16 (fun _ => 0)).kp y = (σ.kp y && !decide (g ≤ y ∧ y < g + 1)) := fun y => by
    show (σ.kp y && !decide (grF (a : Int) ≤ y ∧ y < grF (a : Int) + grN (a : Int) (16 : Nat))) = _
    rw [e1, e2]
  have hon : ∀ y, (keepS σ a d).kp y = (σ.kp y || decide (g = y)) := fun y => by
    rw [← eg]; rfl
  have hgo : r.o (g / 16) = true := by
    rw [openR, Bool.and_eq_true, wholeF_iff] at ho
    exact ho.2 _ (by omega) (by omega)
  have hkp : ∀ y, y ≠ g → (keepS σ a d).kp y = (wrS σ a 16 (fun _ => 0)).kp y := fun y hy => by
    rw [hon, hoff, decide_eq_false (fun q => hy q.symm), decide_eq_false (by omega), Bool.or_false, Bool.not_false, Bool.and_true]
  refine ⟨h.same, h.high, hw.byt, h.tag, fun y hy => ?_, fun y hy => ?_, fun y hy hk2 => ?_, fun y hy hk2 => ?_, hw.cb, fun y hy hc => ⟨(h.ct y hy hc).1, ?_⟩⟩
  · show (if y = g then true else (wrN r a (fun _ => 0) 16).k y) = _
    by_cases e : y = g
    · rw [if_pos e, hon, decide_eq_true e.symm, Bool.or_true]
    · rw [if_neg e, hkp y e]; exact hw.kep y hy
  · rw [hkp y (by omega)]; exact hw.khi y hy
  · show (if 6 * g ≤ 6 * y ∧ 6 * y < 6 * g + 6 then vb n (6 * y) else (wrN r a (fun _ => 0) 16).v (6 * y)) = .int .i64 (((if y = a / 16 then d else σ.kv y) 0 : Nat) : Int)
    rw [eg]
    by_cases e : y = g
    · rw [if_pos (by omega), if_pos e, hd]
      unfold vb; rw [if_neg (by omega), if_pos (by omega)]
    · rw [if_neg (by omega), if_neg e]
      rw [hkp y e] at hk2
      exact hw.val y hy hk2
  · show (if y = a / 16 then d else σ.kv y) 0 < 256
    rw [eg]
    by_cases e : y = g
    · rw [if_pos e, hd]; exact hn
    · rw [if_neg e]
      rw [hkp y e] at hk2
      exact hw.vlt y hy hk2
  · show (if y = g then true else (wrN r a (fun _ => 0) 16).k y) = false
    by_cases e : y = g
    · subst e
      have hc2 : r.o (y / 16) = false := hc
      rw [hgo] at hc2; cases hc2
    · rw [if_neg e]; exact (hw.ct y hy hc).2
theorem errE_zero {a n : Int} (h : errE r a n = 0) : 0 ≤ a ∧ 1 ≤ n ∧ a + n ≤ 2048 ∧ openR r.o a n = true := by
  unfold errE at h
  split at h
  · cases h
  · split at h
    · rename_i h1 h2
      have h3 := h2
      rw [openR, Bool.and_eq_true, decide_eq_true_iff] at h3
      exact ⟨h3.1.1, h3.1.2.1, by omega, h2⟩
    · cases h
end
theorem page_new (w : World) (n : Nat) (E : TypeId) (d : Nat → Nat) : PGn w.heap.size n (w.alloc (.cells (madeCells #[.int .u8 0] n) E)) (fun j => if j < 0 then d j else 0) :=
  ⟨by simp, fun j hj => by simp only [Nat.not_lt_zero, if_false]; exact made_cell w n E j hj, fun o => made_frozen w n E o⟩
theorem page_step {D n : Nat} {w : World} {d : Nat → Nat} {k : Nat} (h : PGn D n w (fun j => if j < k then d j else 0)) (hk : k < n) (x : Nat) (hx : x = d k) : PGn D n (w.setCell ⟨D, k, none⟩ (.int .u8 (x : Int))) (fun j => if j < k + 1 then d j else 0) :=
  (h.set k x hk).congr (fun j hj => by
    by_cases e : j = k
    · subst e; rw [if_pos rfl, if_pos (by omega), hx]
    · rw [if_neg e]
      by_cases e2 : j < k
      · rw [if_pos e2, if_pos (by omega)]
      · rw [if_neg e2, if_neg (by omega)])
theorem BS.less {W : World} {P : Option Addr} {ln cp : Nat} {d : Nat → Nat} (h : BS W P ln cp d) (n : Nat) (hn : n ≤ ln) : BS W P n cp d := by
  obtain ⟨h | ⟨sb, so, e, h1, h2⟩, h3, h4⟩ := h
  · exact ⟨.inl (by omega), by omega, h4⟩
  · exact ⟨.inr ⟨sb, so, e, h1, fun i hi => h2 i (by omega)⟩, by omega, h4⟩
end Go.Proofs.YtgidnmjeifgciaaDoor
