/- The document's own memory of eight pages, as a value and in a block. -/
import Derived.Test.YtljjcomedjdpaaaDoorMmB
import Derived.Deep.MidRow
import Derived.Deep.WholeRow
import Derived.Deep.DeepCutAuto
namespace Go.Proofs.YtljjcomedjdpaaaDoor
set_option maxRecDepth 100000
open Go.RowKit Go.ChangeMaps Go.MapKept
set_option linter.unusedVariables false
set_option linter.unusedSimpArgs false

/-- Which pages are mapped, bytes, tags, where something is kept, and its cells. -/
structure RS where
  o : Nat → Bool
  b : Nat → Nat
  t : Nat → Int
  k : Nat → Bool
  v : Nat → Value
def RS.c (r : RS) (i : Nat) : Value :=
  if i < 8 then .bool (r.o i) else if i < 2056 then .int .u8 (r.b (i - 8) : Nat) else if i < 2184 then .int .i64 (r.t (i - 2056)) else if i < 2312 then .bool (r.k (i - 2184)) else r.v (i - 2312)
theorem RS.co (r : RS) {i : Nat} (h : i < 8) : r.c i = .bool (r.o i) := if_pos h
theorem RS.cb (r : RS) {i : Nat} (h : i < 2048) : r.c (8 + i) = .int .u8 (r.b i : Nat) := by
  unfold RS.c
  rw [if_neg (by omega), if_pos (by omega), Nat.add_sub_cancel_left]
theorem RS.ct (r : RS) {i : Nat} (h : i < 128) : r.c (2056 + i) = .int .i64 (r.t i) := by
  unfold RS.c
  rw [if_neg (by omega), if_neg (by omega), if_pos (by omega), Nat.add_sub_cancel_left]
theorem RS.ck (r : RS) {i : Nat} (h : i < 128) : r.c (2184 + i) = .bool (r.k i) := by
  unfold RS.c
  rw [if_neg (by omega), if_neg (by omega), if_neg (by omega), if_pos (by omega), Nat.add_sub_cancel_left]
theorem RS.cv (r : RS) {i : Nat} (h : i < 768) : r.c (2312 + i) = r.v i := by
  unfold RS.c
  rw [if_neg (by omega), if_neg (by omega), if_neg (by omega), if_neg (by omega), Nat.add_sub_cancel_left]
def RS.l (r : RS) : List Value := (List.range 3080).map r.c
theorem RS.len (r : RS) : r.l.length = 3080 := by rw [RS.l, List.length_map, List.length_range]
theorem RS.at_ (r : RS) {i : Nat} (h : i < 3080) : r.l[i]? = some (r.c i) := by
  rw [RS.l, List.getElem?_map, List.getElem?_range h]; rfl
theorem RS.at_inv (r : RS) {i : Nat} {v : Value} (h : r.l[i]? = some v) : i < 3080 ∧ v = r.c i := by
  have hi : i < 3080 := by
    have := (List.getElem?_eq_some_iff.1 h).1
    rw [RS.len] at this; exact this
  rw [r.at_ hi] at h
  exact ⟨hi, (Option.some.inj h).symm⟩
/-- Each of its cells is one. -/
def RS.One (r : RS) : Prop := ∀ i, i < 768 → (r.v i).oneCell' = true
theorem RS.one {r : RS} (h : r.One) : r.l.toArray.all (·.oneCell') = true := all_oneCell_toArray fun v hv => by
  obtain ⟨i, hi, rfl⟩ := List.mem_map.1 hv
  have hi2 : i < 3080 := List.mem_range.1 hi
  unfold RS.c
  split
  · rfl
  · split
    · rfl
    · split
      · rfl
      · split
        · rfl
        · exact h _ (by omega)
/-- It lies in block A. -/
def RAt (A : Nat) (W : World) (r : RS) : Prop := A < W.heap.size ∧ ∀ i, i < 3080 → W.cell? ⟨A, i, none⟩ = some (r.c i) ∧ W.frozen? ⟨A, i, none⟩ = false
theorem RAt.keep {A : Nat} {W W' : World} {r : RS} (h : RAt A W r) (hs : W.heap.size ≤ W'.heap.size) (e : W'.heap[A]? = W.heap[A]?) : RAt A W' r :=
  ⟨Nat.lt_of_lt_of_le h.1 hs, fun i hi => ⟨(World.cell?_of_block e).trans (h.2 i hi).1, (World.frozen?_of_block e).trans (h.2 i hi).2⟩⟩
theorem RAt.below {A : Nat} {W W' : World} {r : RS} (h : RAt A W r) (hb : Below W.heap.size W W') : RAt A W' r := h.keep hb.size (hb.block A h.1)
theorem RAt.range {A : Nat} {W : World} {r : RS} (h : RAt A W r) : W.rangeAt A 0 r.l := fun j v hv => by
  obtain ⟨hj, rfl⟩ := r.at_inv hv
  rw [Nat.zero_add]; exact (h.2 j hj).1
theorem RAt.there {A : Nat} {W : World} {r : RS} (h : RAt A W r) : W.there A 0 3080 := fun j hj => by
  rw [Nat.zero_add, (h.2 j hj).1]; exact ⟨rfl, (h.2 j hj).2⟩
theorem RAt.new (W : World) (r : RS) (T : TypeId) : RAt W.heap.size (W.alloc (.cells r.l.toArray T)) r := by
  refine ⟨by simp, fun i hi => ⟨?_, by simp⟩⟩
  rw [World.cell?_alloc_mark, List.getElem?_toArray]
  exact r.at_ hi
theorem RAt.cells {A : Nat} {W : World} {r r' : RS} (h : RAt A W r) : RAt A (W.setCells A 0 r'.l) r' := by
  refine ⟨by rw [(ob_cells A _ 0 W).2]; exact h.1, fun i hi => ⟨?_, by rw [World.frozen?_setCells]; exact (h.2 i hi).2⟩⟩
  have h1 := World.cell?_setCells_in A r'.l 0 W (fun i hi => by
    rw [RS.len] at hi
    rw [Nat.zero_add, (h.2 i hi).1]; rfl) i (by rw [RS.len]; exact hi)
  rw [Nat.zero_add] at h1
  rw [h1]
  simp [RS.l, hi]
theorem RAt.set_ {A : Nat} {W : World} {r r' : RS} {x : Nat} {u : Value} (h : RAt A W r) (hx : x < 3080) (hu : r'.c x = u) (ho : ∀ i, i < 3080 → i ≠ x → r'.c i = r.c i) : RAt A (W.setCell ⟨A, x, none⟩ u) r' := by
  refine ⟨by rw [size_set]; exact h.1, fun i hi => ?_⟩
  obtain ⟨k1, k2⟩ := h.2 i hi
  refine ⟨?_, by simp [k2]⟩
  by_cases e : x = i
  · subst e
    rw [World.cell?_setCell_same _ _ _ k1, hu]
  · rw [World.cell?_setCell_other _ _ _ _ (by intro q; injection q with _ q; exact e q), k1, ho i hi (fun q => e q.symm)]
def zeroR : RS := { o := fun _ => false, b := fun _ => 0, t := fun _ => 0, k := fun _ => false, v := fun i => if i % 6 = 5 then .bool false else .int .i64 0 }
theorem zeroR_one : zeroR.One := fun i _ => by
  unfold zeroR
  dsimp only
  split <;> rfl
theorem results_cell_mid {P : Program} {fn : Func} {p : Tmp} {ty : TypeId} (h : fn.results = #[.cell p ty]) (tmps : Array Value) (w : World) (g : Nat) (cs : List Value) (d : TypeDesc)
    (hp : tmps.getD p undef = .pointer (some ⟨g, 0, none⟩)) (hc : w.rangeAt g 0 cs)
    (hu : P.underlying ty = some d) (hd : d.isRow = true) (hi : (P.info? ty).map (·.size) = some cs.length) :
    (results fn tmps).run P w = .ok (.agg cs.toArray) w := by
  have hp' : tmps[p]?.getD undef = .pointer (some ⟨g, 0, none⟩) := by simpa using hp
  simp [results, h, hp', asAddr, run_loadVar_mid w g 0 ty cs d hc hu hd hi]
end Go.Proofs.YtljjcomedjdpaaaDoor

