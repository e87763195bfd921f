/- BatchPlays' argument: a list of acts. -/
import Derived.Test.YtokdjonnblbegaaBaL0
import Derived.Test.YtokdjonnblbegaaRecs
import Derived.OpenShut
import Derived.SizedLaws
namespace Go.Proofs.Ytokdjonnblbegaa
open Go.RowKit Go.ChangeShapes Go.WideShapes Go.Deep
set_option linter.unusedVariables false
set_option linter.unusedSimpArgs false

/-- An act: its kind, its numbers. -/
structure AV where
  w : Int
  P : Option Addr
  cp : Nat
  d : List Int
def IS (W : World) (P : Option Addr) (cp : Nat) (d : List Int) : Prop :=
  (d = [] ∨ ∃ (sb so : Nat), P = some ⟨sb, so, none⟩ ∧ sb < W.heap.size ∧ ∀ (i : Nat) (x : Int), d[i]? = some x → W.cell? ⟨sb, so + i, none⟩ = some (.int .i64 x)) ∧ d.length ≤ cp ∧ cp ≤ 9223372036854775807 ∧ ∀ x ∈ d, I64 x
theorem IS.keep {W W' : World} {P : Option Addr} {cp : Nat} {d : List Int} (h : IS W P cp d) (hb : Below W.heap.size W W') : IS W' P cp d := by
  obtain ⟨h | ⟨sb, so, e, h1, h2⟩, h3⟩ := h
  · exact ⟨.inl h, h3⟩
  · exact ⟨.inr ⟨sb, so, e, Nat.lt_of_lt_of_le h1 hb.size, fun i x hx => (hb.cell (p := ⟨sb, so + i, none⟩) h1).trans (h2 i x hx)⟩, h3⟩
def AvAt (W : World) (b off : Nat) (p : AV) : Prop :=
  (W.cell? ⟨b, off, none⟩ = some (.int .i64 p.w) ∧ W.cell? ⟨b, off + 1, none⟩ = some (.slice p.P p.d.length p.cp)) ∧ IS W p.P p.cp p.d
theorem AvAt.keep {W W' : World} {b off : Nat} {p : AV} (h : AvAt W b off p) (hb : b < W.heap.size) (hB : Below W.heap.size W W') : AvAt W' b off p := by
  obtain ⟨⟨h0, h1⟩, h4⟩ := h
  exact ⟨⟨(hB.cell (p := ⟨b, off, none⟩) hb).trans h0, (hB.cell (p := ⟨b, off + 1, none⟩) hb).trans h1⟩, h4.keep hB⟩
/-- A slice of acts. -/
def ACTS (W : World) (A : Option Addr) (l : List AV) : Prop :=
  l = [] ∨ ∃ b off, A = some ⟨b, off, none⟩ ∧ b < W.heap.size ∧ ∀ i p, l[i]? = some p → AvAt W b (off + i * 2) p
theorem ACTS.keep {W W' : World} {A : Option Addr} {l : List AV} (h : ACTS W A l) (hB : Below W.heap.size W W') : ACTS W' A l := by
  rcases h with h | ⟨b, off, e, h1, h2⟩
  · exact .inl h
  · exact .inr ⟨b, off, e, Nat.lt_of_lt_of_le h1 hB.size, fun i p hp => (h2 i p hp).keep h1 hB⟩
theorem take_gi {α : Type} {zs : List α} {n i : Nat} {x : α} (h : (zs.take n)[i]? = some x) : zs[i]? = some x := by
  rw [List.getElem?_take] at h
  split at h
  · exact h
  · cases h
section
variable {H : Type} {enc : TypeId × Value → H} {w : World} {base : Nat} {spare : Nat → Bool} {held : Bool}
theorem is_of {fuel : Nat} {v : Value} {x : DataW H × List MemPlace} (h : DataW.trod enc Try.prog w base spare held fuel 26 [v] = some x) :
    ∃ A cp d, v = .slice A d.length cp ∧ IS w A cp d := by
  rcases open_ints Try.underlying26 Try.underlying3 (by kernel_rfl) h with ⟨hcs, _⟩ | ⟨a, len, cap, zs, hcs, _, hl, hm, hz, hx, hcell, hwz⟩
  · injection hcs with hv _
    exact ⟨none, 0, [], hv, .inl rfl, Nat.le_refl _, by omega, by simp⟩
  · injection hcs with hv _
    subst hv
    have hzl : len ≤ zs.length := by rw [hz]; split <;> omega
    have hll : (zs.take len).length = len := by rw [List.length_take]; omega
    have hb : ∀ x ∈ zs.take len, I64 x := fun x hx => by
      have h3 := hwz x (List.mem_of_mem_take hx)
      have h1 : IntKind.i64.min = -9223372036854775808 := rfl
      have h2 : IntKind.i64.max = 9223372036854775807 := rfl
      simp [Lit.wf] at h3
      unfold I64
      omega
    refine ⟨some a, cap, zs.take len, by rw [hll], ?_, by rw [hll]; exact hl, by unfold maxLen at hm; omega, hb⟩
    by_cases h0 : len = 0
    · subst h0
      exact .inl rfl
    · obtain ⟨b, off, rfl, hc⟩ := ints_at hcell (show 0 < zs.length by omega)
      refine .inr ⟨b, off, rfl, World.block_lt_of_cell? w _ (hc 0 (by omega)), fun i x hx => ?_⟩
      have hx2 := take_gi hx
      have hi : i < zs.length := (List.getElem?_eq_some_iff.1 hx2).1
      rw [hc i hi]
      refine congrArg (fun z => some (Value.int .i64 z)) ?_
      rw [List.getD, hx2]
      rfl
theorem elem2 {P : Program} {t : TypeId} {f0 f1 : Field} {fuel : Nat} {cs : List Value} {x : DataW H × List MemPlace} (hs : P.underlying t = some (.struct #[f0, f1])) (hone : oneCellFields P #[f0, f1] = true) (hl : cs.length = 2)
    (h : DataW.trod enc P w base spare held fuel t cs = some x) :
    ∃ (c0 c1 : Value) (y0 y1 : DataW H × List MemPlace) (n : Nat), cs = [c0, c1] ∧
      DataW.trod enc P w base spare held n f0.type [c0] = some y0 ∧ DataW.trod enc P w base spare held n f1.type [c1] = some y1 := by
  obtain ⟨ys, n, _, hx, _, hlen, hg⟩ := DataW.trod_struct hs h
  match cs, hl with
  | [c0, c1], _ =>
    match ys, hlen with
    | [y0, y1], _ =>
      obtain ⟨o0, k0⟩ := hone_of hone 0 f0 rfl
      obtain ⟨o1, k1⟩ := hone_of hone 1 f1 rfl
      exact ⟨c0, c1, y0, y1, n, rfl, by simpa [o0, k0] using hg 0 f0 rfl, by simpa [o1, k1] using hg 1 f1 rfl⟩
def encAV (p : AV) : List Value := [.int .i64 p.w, .slice p.P p.d.length p.cp]
theorem act_of {fuel : Nat} {cs : List Value} {x : DataW H × List MemPlace} (h : DataW.trod enc Try.prog w base spare held fuel 28 cs = some x) (hl : cs.length = 2) :
    ∃ p : AV, cs = encAV p ∧ IS w p.P p.cp p.d := by
  obtain ⟨c0, c1, y0, y1, n, rfl, h0, h1⟩ := elem2 Try.underlying28 (by kernel_rfl) hl h
  obtain ⟨z0, e0, -, b0⟩ := DataW.trod_int Try.underlying3 h0
  obtain ⟨A, cp, d, rfl, hd⟩ := is_of h1
  injection e0 with e0 _
  subst e0
  exact ⟨⟨z0, A, cp, d⟩, rfl, hd⟩
theorem acts_of {fuel : Nat} {v : Value} {x : DataW H × List MemPlace} (h : DataW.trod enc Try.prog w base spare held fuel 22 [v] = some x) :
    ∃ (A : Option Addr) (l : List AV) (c : Nat), v = .slice A l.length c ∧ l.length ≤ 9223372036854775807 ∧ ACTS w A l := by
  rcases open_slice Try.underlying22 h with ⟨hcs, _⟩ | ⟨a, len, cap, m, k, D, Pl, hcs, hb, hl, hm, hmm, hx, hi⟩
  · injection hcs with hv _
    subst hv
    exact ⟨none, [], 0, rfl, by simp, .inl rfl⟩
  · injection hcs with hv _
    subst hv
    have hlm : len ≤ m := by rw [hmm]; split <;> omega
    have hC : Try.prog.cellsOf 28 = 2 := by kernel_rfl
    have key : ∀ i, i < len → ∃ p : AV, (∀ j, j < 2 → w.cell? (a.add (i * 2 + j)) = (encAV p)[j]?) ∧ IS w p.P p.cp p.d := by
      intro i hin
      obtain ⟨cs', hc, ht'⟩ := hi i (by omega)
      rw [hC] at hc
      obtain ⟨_, hcl, hat⟩ := World.cells?_some hc
      obtain ⟨p, e, h1⟩ := act_of ht' hcl
      subst e
      refine ⟨p, fun j hj => ?_, h1⟩
      rw [← hat j hj, add_add]
    haveI : Inhabited AV := ⟨⟨0, none, 0, []⟩⟩
    obtain ⟨f, hf⟩ := choose_lt key
    have hll : ((List.range len).map f).length = len := by simp
    refine ⟨some a, (List.range len).map f, cap, by rw [hll], by rw [hll]; unfold maxLen at hm; omega, ?_⟩
    by_cases h0 : len = 0
    · exact .inl (by subst h0; rfl)
    · have g0 := (hf 0 (by omega)).1 0 (by decide)
      obtain ⟨b, off, spot⟩ := a
      have hspot : spot = none := by simpa [Addr.add] using World.cell?_spot (g0.trans (show (encAV (f 0))[0]? = some _ from rfl))
      subst hspot
      refine .inr ⟨b, off, rfl, World.block_lt_of_cell? w _ (g0.trans (show (encAV (f 0))[0]? = some _ from rfl)), fun i p hp => ?_⟩
      have hin : i < len := by have := (List.getElem?_eq_some_iff.1 hp).1; simpa using this
      have e : f i = p := by simpa [hin] using hp
      obtain ⟨k1, k2⟩ := hf i hin
      rw [e] at k1 k2
      have kk : ∀ j, j < 2 → w.cell? ⟨b, off + i * 2 + j, none⟩ = (encAV p)[j]? := fun j hj => by
        have := k1 j hj
        rw [addp] at this
        rw [← this, Nat.add_assoc]
      exact ⟨⟨kk 0 (by decide), kk 1 (by decide)⟩, k2⟩
end
end Go.Proofs.Ytokdjonnblbegaa
