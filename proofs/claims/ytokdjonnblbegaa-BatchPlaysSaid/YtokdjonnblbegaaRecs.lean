/- Slices that came in, whose elements are so many integers each (structs or arrays). -/
import Derived.WalkKit
import Derived.OpenShut
import Derived.Deep.Slices
import Derived.Deep.Fields
import Derived.Below
import Derived.Lib.Hide
namespace Go.Proofs.Ytokdjonnblbegaa
set_option maxRecDepth 100000
open Go.RowKit Go.ChangeShapes Go.WideShapes Go.Deep
set_option linter.unusedVariables false

/-- A slice of records of n ints: nil, or len of them, one behind the other; zs are all their ints. -/
def IsRecs (n : Nat) (w : World) (a : Option Addr) (len cap : Nat) (zs : List Int) : Prop :=
  (a = none ∧ len = 0 ∧ cap = 0 ∧ zs = []) ∨
  ∃ x, a = some x ∧ len ≤ cap ∧ cap ≤ maxLen ∧ zs.length = len * n ∧ (∀ i, i < len * n → w.cell? (x.add i) = some (.int .i64 (zs.getD i 0))) ∧ ∀ z ∈ zs, (Lit.int .i64 z).wf = true

theorem list_each {L : Nat} {p : Nat → Int → Prop} (h : ∀ i, i < L → ∃ z, p i z) : ∃ zs : List Int, zs.length = L ∧ ∀ i, i < L → p i (zs.getD i 0) := by
  obtain ⟨f, hf⟩ := choose_lt h
  refine ⟨(List.range L).map f, by simp, fun i hi => ?_⟩
  have e : ((List.range L).map f).getD i 0 = f i := by simp [List.getD, hi]
  rw [e]
  exact hf i hi

section
variable {H : Type} {enc : TypeId × Value → H} {P : Program} {w : World} {base : Nat} {spare : Nat → Bool} {held : Bool}

/-- Each element's cells are ints: so is the row. -/
theorem recs_of {t e : TypeId} {n fuel : Nat} {cs : List Value} {x : DataW H × List MemPlace} (ht : P.underlying t = some (.slice e)) (hC : P.cellsOf e = n) (hn : 0 < n) (h : DataW.trod enc P w base spare held fuel t cs = some x)
    (hone : ∀ (m : Nat) (cs' : List Value) (y : DataW H × List MemPlace), cs'.length = n → DataW.trod enc P w base spare held m e cs' = some y → ∀ j, j < n → ∃ z, cs'[j]? = some (.int .i64 z) ∧ (Lit.int .i64 z).wf = true) :
    ∃ a len cap zs, cs = [.slice a len cap] ∧ IsRecs n w a len cap zs := by
  rcases open_slice ht h with ⟨rfl, _⟩ | ⟨a, len, cap, m, k, D, Pl, rfl, hb, hl, hm, hmm, _, hi⟩
  · exact ⟨none, 0, 0, [], rfl, .inl ⟨rfl, rfl, rfl, rfl⟩⟩
  · have hlm : len ≤ m := by rw [hmm]; split <;> omega
    have key : ∀ i, i < len * n → ∃ z, w.cell? (a.add i) = some (.int .i64 z) ∧ (Lit.int .i64 z).wf = true := by
      intro i hin
      have hq : i / n < len := by
        rw [Nat.div_lt_iff_lt_mul hn]; exact hin
      obtain ⟨cs', hc, ht'⟩ := hi (i / n) (by omega)
      rw [hC] at hc
      obtain ⟨_, hcl, hat⟩ := World.cells?_some hc
      have hj : i % n < n := Nat.mod_lt _ hn
      obtain ⟨z, hz, hw⟩ := hone k cs' _ hcl ht' (i % n) hj
      refine ⟨z, ?_, hw⟩
      have := hat (i % n) hj
      rw [add_add, Nat.div_add_mod' i n, hz] at this
      exact this
    obtain ⟨zs, hz, hzs⟩ := list_each key
    refine ⟨some a, len, cap, zs, rfl, .inr ⟨a, rfl, hl, hm, hz, fun i hin => (hzs i hin).1, fun z hz' => ?_⟩⟩
    obtain ⟨i, hi', rfl⟩ := List.mem_iff_getElem.1 hz'
    have := (hzs i (by omega)).2
    simpa [List.getD, List.getElem?_eq_getElem hi'] using this

theorem ints_of_struct {e : TypeId} {fs : Array Field} {n : Nat} (he : P.underlying e = some (.struct fs)) (hone : oneCellFields P fs = true) (hs : fs.size = n) {u : TypeId} (hu : P.underlying u = some (.int .i64)) (hk : (fs.all fun f => f.type == u) = true) :
    ∀ (m : Nat) (cs' : List Value) (y : DataW H × List MemPlace), cs'.length = n → DataW.trod enc P w base spare held m e cs' = some y → ∀ j, j < n → ∃ z, cs'[j]? = some (.int .i64 z) ∧ (Lit.int .i64 z).wf = true := by
  intro m cs' y hl h j hj
  obtain ⟨ys, n', _, _, _, hyl, hf⟩ := DataW.trod_struct he h
  have hjf : j < fs.size := by omega
  have hg : fs[j]? = some fs[j] := Array.getElem?_eq_getElem hjf
  obtain ⟨ho, hk1⟩ := hone_of hone j _ hg
  have h1 := hf j _ hg
  rw [ho, hk1, List.drop_eq_getElem_cons (by omega)] at h1
  have ht : P.underlying (fs[j]).type = some (.int .i64) := by
    have := Array.all_eq_true.1 hk j hjf
    rw [eq_of_beq this]
    exact hu
  have hys : ys[j]? = some (ys[j]'(by omega)) := List.getElem?_eq_getElem (by omega)
  rw [hys] at h1
  obtain ⟨z, hz, _, hw⟩ := DataW.trod_int ht h1
  refine ⟨z, ?_, hw⟩
  have hjc : j < cs'.length := by omega
  have hz' : [cs'[j]] = [Value.int .i64 z] := hz
  rw [List.getElem?_eq_getElem hjc]
  injection hz' with hz' _
  rw [hz']

theorem ints_of_array {e u : TypeId} {n : Nat} (he : P.underlying e = some (.array n u)) (hu : P.underlying u = some (.int .i64)) (hc : P.cellsOf u = 1) :
    ∀ (m : Nat) (cs' : List Value) (y : DataW H × List MemPlace), cs'.length = n → DataW.trod enc P w base spare held m e cs' = some y → ∀ j, j < n → ∃ z, cs'[j]? = some (.int .i64 z) ∧ (Lit.int .i64 z).wf = true := by
  intro m cs' y hl h j hj
  obtain ⟨ys, n', _, _, _, hyl, hf⟩ := DataW.trod_array he h
  have h1 := hf j hj
  rw [hc, Nat.mul_one, List.drop_eq_getElem_cons (by omega)] at h1
  have hys : ys[j]? = some (ys[j]'(by omega)) := List.getElem?_eq_getElem (by omega)
  rw [hys] at h1
  obtain ⟨z, hz, _, hw⟩ := DataW.trod_int hu h1
  refine ⟨z, ?_, hw⟩
  have hjc : j < cs'.length := by omega
  have hz' : [cs'[j]] = [Value.int .i64 z] := hz
  rw [List.getElem?_eq_getElem hjc]
  injection hz' with hz' _
  rw [hz']
end

/-- The same, for the walk: the records stay as they are in memory that only grows. -/
def Recs (n : Nat) (w : World) (a : Option Addr) (len : Nat) (zs : List Int) : Prop :=
  zs.length = len * n ∧ (∀ z ∈ zs, -9223372036854775808 ≤ z ∧ z ≤ 9223372036854775807) ∧ (len = 0 ∨ ∃ b off, a = some ⟨b, off, none⟩ ∧ b < w.heap.size ∧ len ≤ 9223372036854775807 ∧ ∀ i, i < len * n → w.cell? ⟨b, off + i, none⟩ = some (.int .i64 (zs.getD i 0)))
theorem Recs.below {n : Nat} {w w1 : World} {a : Option Addr} {len : Nat} {zs : List Int} (h : Recs n w a len zs) (hb : Below w.heap.size w w1) : Recs n w1 a len zs := by
  refine ⟨h.1, h.2.1, ?_⟩
  rcases h.2.2 with h | ⟨b, off, e, hlt, hm, hc⟩
  · exact .inl h
  · exact .inr ⟨b, off, e, Nat.lt_of_lt_of_le hlt hb.size, hm, fun i hi => by rw [hb.cell hlt]; exact hc i hi⟩
theorem IsRecs.recs {n : Nat} {w : World} {a : Option Addr} {len cap : Nat} {zs : List Int} (hn : 0 < n) (h : IsRecs n w a len cap zs) : Recs n w a len zs := by
  rcases h with ⟨rfl, rfl, rfl, rfl⟩ | ⟨x, rfl, hl, hm, hz, hc, hw⟩
  · exact ⟨by simp, by simp, .inl rfl⟩
  · refine ⟨hz, fun z hz => bounds_i64 (hw z hz), ?_⟩
    by_cases h0 : len = 0
    · exact .inl h0
    · have hpos : 0 < len * n := Nat.mul_pos (by omega) hn
      obtain ⟨b, off, rfl, hc2⟩ := ints_at (fun i hi => hc i (by omega)) (show 0 < zs.length by omega)
      refine .inr ⟨b, off, rfl, World.block_lt_of_cell? w _ (hc2 0 (by omega)), by unfold maxLen at hm; omega, fun i hi => hc2 i (by omega)⟩
theorem Recs.bd {n : Nat} {w : World} {a : Option Addr} {len : Nat} {zs : List Int} (h : Recs n w a len zs) (i : Nat) (hi : i < len * n) : -9223372036854775808 ≤ zs.getD i 0 ∧ zs.getD i 0 ≤ 9223372036854775807 := by
  have hi' : i < zs.length := by rw [h.1]; exact hi
  refine h.2.1 _ ?_
  simp [List.getD, List.getElem?_eq_getElem hi']
end Go.Proofs.Ytokdjonnblbegaa
