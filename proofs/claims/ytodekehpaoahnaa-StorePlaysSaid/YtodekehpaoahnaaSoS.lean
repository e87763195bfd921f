/- StorePlays' argument: a list of acts. -/
import Derived.Test.YtodekehpaoahnaaSoR
import Derived.Test.YtodekehpaoahnaaRecs
import Derived.OpenShut
import Derived.SizedLaws
namespace Go.Proofs.Ytodekehpaoahnaa
open Go.RowKit Go.ChangeShapes Go.WideShapes Go.Deep
set_option linter.unusedVariables false
set_option linter.unusedSimpArgs false

/-- An act: its kind, its place, its bytes, its number. -/
structure AV where
  w : Int
  a : Int
  P : Option Addr
  ln : Nat
  cp : Nat
  d : Nat → Nat
  n : Nat
def BS (W : World) (P : Option Addr) (ln cp : Nat) (d : Nat → Nat) : Prop :=
  (ln = 0 ∨ ∃ (sb so : Nat), P = some ⟨sb, so, none⟩ ∧ sb < W.heap.size ∧ ∀ i, i < ln → W.cell? ⟨sb, so + i, none⟩ = some (.int .u8 (d i : Int))) ∧ ln ≤ cp ∧ ∀ i, d i < 256
theorem BS.keep {W W' : World} {P : Option Addr} {ln cp : Nat} {d : Nat → Nat} (h : BS W P ln cp d) (hb : Below W.heap.size W W') : BS W' P ln cp d := by
  obtain ⟨h | ⟨sb, so, e, h1, h2⟩, h3⟩ := h
  · exact ⟨.inl h, h3⟩
  · exact ⟨.inr ⟨sb, so, e, Nat.lt_of_lt_of_le h1 hb.size, fun i hi => (hb.cell (p := ⟨sb, so + i, none⟩) h1).trans (h2 i hi)⟩, h3⟩
def AvAt (W : World) (b off : Nat) (p : AV) : Prop :=
  (W.cell? ⟨b, off, none⟩ = some (.int .i64 p.w) ∧ W.cell? ⟨b, off + 1, none⟩ = some (.int .i64 p.a) ∧ W.cell? ⟨b, off + 2, none⟩ = some (.slice p.P p.ln p.cp) ∧ W.cell? ⟨b, off + 3, none⟩ = some (.int .u64 (p.n : Int))) ∧ BS W p.P p.ln p.cp p.d ∧ p.n < 18446744073709551616
theorem AvAt.keep {W W' : World} {b off : Nat} {p : AV} (h : AvAt W b off p) (hb : b < W.heap.size) (hB : Below W.heap.size W W') : AvAt W' b off p := by
  obtain ⟨⟨h0, h1, h2, h3⟩, h4, h5⟩ := h
  exact ⟨⟨(hB.cell (p := ⟨b, off, none⟩) hb).trans h0, (hB.cell (p := ⟨b, off + 1, none⟩) hb).trans h1, (hB.cell (p := ⟨b, off + 2, none⟩) hb).trans h2, (hB.cell (p := ⟨b, off + 3, none⟩) hb).trans h3⟩, h4.keep hB, h5⟩
/-- A slice of acts. -/
def ACTS (W : World) (A : Option Addr) (l : List AV) : Prop :=
  l = [] ∨ ∃ b off, A = some ⟨b, off, none⟩ ∧ b < W.heap.size ∧ ∀ i p, l[i]? = some p → AvAt W b (off + i * 4) p
theorem ACTS.keep {W W' : World} {A : Option Addr} {l : List AV} (h : ACTS W A l) (hB : Below W.heap.size W W') : ACTS W' A l := by
  rcases h with h | ⟨b, off, e, h1, h2⟩
  · exact .inl h
  · exact .inr ⟨b, off, e, Nat.lt_of_lt_of_le h1 hB.size, fun i p hp => (h2 i p hp).keep h1 hB⟩
section
variable {H : Type} {enc : TypeId × Value → H} {w : World} {base : Nat} {spare : Nat → Bool} {held : Bool}
theorem bs_of {fuel : Nat} {v : Value} {x : DataW H × List MemPlace} (h : DataW.trod enc Try.prog w base spare held fuel 26 [v] = some x) :
    ∃ A ln cp d, v = .slice A ln cp ∧ BS w A ln cp d := by
  rcases open_ints Try.underlying26 Try.underlying5 (by kernel_rfl) h with ⟨hcs, _⟩ | ⟨a, len, cap, zs, hcs, _, hl, hm, hz, hx, hcell, hwz⟩
  · injection hcs with hv _
    exact ⟨none, 0, 0, fun _ => 0, hv, .inl rfl, Nat.le_refl _, fun _ => Nat.zero_lt_succ 255⟩
  · injection hcs with hv _
    subst hv
    have hzl : len ≤ zs.length := by rw [hz]; split <;> omega
    have h1 : IntKind.u8.min = 0 := rfl
    have h2 : IntKind.u8.max = 255 := rfl
    have hb : ∀ i, 0 ≤ zs.getD i 0 ∧ zs.getD i 0 < 256 := fun i => by
      by_cases hi : i < zs.length
      · have h3 := hwz zs[i] (List.getElem_mem hi)
        simp [Lit.wf] at h3
        have e : zs.getD i 0 = zs[i] := by simp [List.getD, hi]
        rw [e]
        omega
      · have e : zs.getD i 0 = 0 := by simp [List.getD, hi]
        rw [e]
        omega
    refine ⟨some a, len, cap, fun i => (zs.getD i 0).toNat, rfl, ?_, hl, fun i => by have := hb i; show (zs.getD i 0).toNat < 256; omega⟩
    by_cases h0 : len = 0
    · exact .inl h0
    · obtain ⟨b, off, rfl, hc⟩ := ints_at hcell (show 0 < zs.length by omega)
      refine .inr ⟨b, off, rfl, World.block_lt_of_cell? w _ (hc 0 (by omega)), fun i hi => ?_⟩
      rw [hc i (by omega)]
      refine congrArg (fun z => some (Value.int .u8 z)) ?_
      show zs.getD i 0 = (((zs.getD i 0).toNat : Nat) : Int)
      have := hb i
      omega
theorem elem4 {P : Program} {t : TypeId} {f0 f1 f2 f3 : Field} {fuel : Nat} {cs : List Value} {x : DataW H × List MemPlace} (hs : P.underlying t = some (.struct #[f0, f1, f2, f3])) (hone : oneCellFields P #[f0, f1, f2, f3] = true) (hl : cs.length = 4)
    (h : DataW.trod enc P w base spare held fuel t cs = some x) :
    ∃ (c0 c1 c2 c3 : Value) (y0 y1 y2 y3 : DataW H × List MemPlace) (n : Nat), cs = [c0, c1, c2, c3] ∧
      DataW.trod enc P w base spare held n f0.type [c0] = some y0 ∧ DataW.trod enc P w base spare held n f1.type [c1] = some y1 ∧ DataW.trod enc P w base spare held n f2.type [c2] = some y2 ∧ DataW.trod enc P w base spare held n f3.type [c3] = some y3 := by
  obtain ⟨ys, n, _, hx, _, hlen, hg⟩ := DataW.trod_struct hs h
  match cs, hl with
  | [c0, c1, c2, c3], _ =>
    match ys, hlen with
    | [y0, y1, y2, y3], _ =>
      obtain ⟨o0, k0⟩ := hone_of hone 0 f0 rfl
      obtain ⟨o1, k1⟩ := hone_of hone 1 f1 rfl
      obtain ⟨o2, k2⟩ := hone_of hone 2 f2 rfl
      obtain ⟨o3, k3⟩ := hone_of hone 3 f3 rfl
      exact ⟨c0, c1, c2, c3, y0, y1, y2, y3, n, rfl, by simpa [o0, k0] using hg 0 f0 rfl, by simpa [o1, k1] using hg 1 f1 rfl, by simpa [o2, k2] using hg 2 f2 rfl, by simpa [o3, k3] using hg 3 f3 rfl⟩
def enc4 (p : AV) : List Value := [.int .i64 p.w, .int .i64 p.a, .slice p.P p.ln p.cp, .int .u64 (p.n : Int)]
theorem act_of {fuel : Nat} {cs : List Value} {x : DataW H × List MemPlace} (h : DataW.trod enc Try.prog w base spare held fuel 29 cs = some x) (hl : cs.length = 4) :
    ∃ p : AV, cs = enc4 p ∧ BS w p.P p.ln p.cp p.d ∧ p.n < 18446744073709551616 := by
  obtain ⟨c0, c1, c2, c3, y0, y1, y2, y3, n, rfl, h0, h1, h2, h3⟩ := elem4 Try.underlying29 (by kernel_rfl) hl h
  obtain ⟨z0, e0, -, b0⟩ := DataW.trod_int Try.underlying3 h0
  obtain ⟨z1, e1, -, b1⟩ := DataW.trod_int Try.underlying3 h1
  obtain ⟨A, ln, cp, d, rfl, hd⟩ := bs_of h2
  obtain ⟨z3, e3, -, b3⟩ := DataW.trod_int Try.underlying27 h3
  injection e0 with e0 _
  injection e1 with e1 _
  injection e3 with e3 _
  subst e0 e1 e3
  have hn : 0 ≤ z3 ∧ z3 < 18446744073709551616 := by
    simp [Lit.wf] at b3
    have h1 : IntKind.u64.min = 0 := rfl
    have h2 : IntKind.u64.max = 18446744073709551615 := rfl
    omega
  refine ⟨⟨z0, z1, A, ln, cp, d, z3.toNat⟩, ?_, hd, ?_⟩
  · simp only [enc4]
    rw [Int.toNat_of_nonneg hn.1]
  · show z3.toNat < _
    omega
theorem acts_of {fuel : Nat} {v : Value} {x : DataW H × List MemPlace} (h : DataW.trod enc Try.prog w base spare held fuel 22 [v] = some x) :
    ∃ (A : Option Addr) (l : List AV) (c : Nat), v = .slice A l.length c ∧ l.length ≤ 9223372036854775807 ∧ ACTS w A l := by
  rcases open_slice Try.underlying22 h with ⟨hcs, _⟩ | ⟨a, len, cap, m, k, D, Pl, hcs, hb, hl, hm, hmm, hx, hi⟩
  · injection hcs with hv _
    subst hv
    exact ⟨none, [], 0, rfl, by simp, .inl rfl⟩
  · injection hcs with hv _
    subst hv
    have hlm : len ≤ m := by rw [hmm]; split <;> omega
    have hC : Try.prog.cellsOf 29 = 4 := by kernel_rfl
    have key : ∀ i, i < len → ∃ p : AV, (∀ j, j < 4 → w.cell? (a.add (i * 4 + j)) = (enc4 p)[j]?) ∧ BS w p.P p.ln p.cp p.d ∧ p.n < 18446744073709551616 := by
      intro i hin
      obtain ⟨cs', hc, ht'⟩ := hi i (by omega)
      rw [hC] at hc
      obtain ⟨_, hcl, hat⟩ := World.cells?_some hc
      obtain ⟨p, e, h1, h2⟩ := act_of ht' hcl
      subst e
      refine ⟨p, fun j hj => ?_, h1, h2⟩
      rw [← hat j hj, add_add]
    haveI : Inhabited AV := ⟨⟨0, 0, none, 0, 0, fun _ => 0, 0⟩⟩
    obtain ⟨f, hf⟩ := choose_lt key
    have hll : ((List.range len).map f).length = len := by simp
    refine ⟨some a, (List.range len).map f, cap, by rw [hll], by rw [hll]; unfold maxLen at hm; omega, ?_⟩
    by_cases h0 : len = 0
    · exact .inl (by subst h0; rfl)
    · have g0 := (hf 0 (by omega)).1 0 (by decide)
      obtain ⟨b, off, spot⟩ := a
      have hspot : spot = none := by simpa [Addr.add] using World.cell?_spot (g0.trans (show (enc4 (f 0))[0]? = some _ from rfl))
      subst hspot
      refine .inr ⟨b, off, rfl, World.block_lt_of_cell? w _ (g0.trans (show (enc4 (f 0))[0]? = some _ from rfl)), fun i p hp => ?_⟩
      have hin : i < len := by have := (List.getElem?_eq_some_iff.1 hp).1; simpa using this
      have e : f i = p := by simpa [hin] using hp
      obtain ⟨k1, k2, k3⟩ := hf i hin
      rw [e] at k1 k2 k3
      have kk : ∀ j, j < 4 → w.cell? ⟨b, off + i * 4 + j, none⟩ = (enc4 p)[j]? := fun j hj => by
        have := k1 j hj
        rw [addp] at this
        rw [← this, Nat.add_assoc]
      exact ⟨⟨kk 0 (by decide), kk 1 (by decide), kk 2 (by decide), kk 3 (by decide)⟩, k2, k3⟩
end
end Go.Proofs.Ytodekehpaoahnaa
