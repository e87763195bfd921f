/- SoE, SoF, SoG in one text: a claim holds at most 60 files. -/
import Derived.Test.YtljjcomedjdpaaaDoorSoD
import Derived.Deep.RegionHeld3
namespace Go.Proofs.YtljjcomedjdpaaaDoor
set_option maxRecDepth 100000
open Go.RowKit Go.ChangeMaps Go.MapKept
open Go.Maps (Keyed)
set_option linter.unusedVariables false
set_option linter.unusedSimpArgs false

theorem addp (b o j : Nat) : (⟨b, o, none⟩ : Addr).add j = ⟨b, o + j, none⟩ := by unfold Addr.add; split <;> simp_all
/-- n bytes in a block of their own. -/
def PGn (D n : Nat) (W : World) (f : Nat → Nat) : Prop := D < W.heap.size ∧ (∀ j, j < n → W.cell? ⟨D, j, none⟩ = some (.int .u8 (f j : Int))) ∧ ∀ o, W.frozen? ⟨D, o, none⟩ = false
theorem PGn.keep {D n : Nat} {W W' : World} {f : Nat → Nat} (h : PGn D n W f) (hs : W.heap.size ≤ W'.heap.size) (e : W'.heap[D]? = W.heap[D]?) : PGn D n W' f :=
  ⟨Nat.lt_of_lt_of_le h.1 hs, fun j hj => (World.cell?_of_block e).trans (h.2.1 j hj), fun o => (World.frozen?_of_block e).trans (h.2.2 o)⟩
theorem ob_set (g o : Nat) (W : World) (v : Value) : OB g W (W.setCell ⟨g, o, none⟩ v) :=
  ⟨by simp [World.setCell], fun i _ hi => Below.heap_setCell W ⟨g, o, none⟩ v i hi, fun L hL _ => (Below.refl _ _).setCell hL _⟩
theorem ob_cells (b : Nat) : ∀ (vs : List Value) (o : Nat) (W : World), OB b W (W.setCells b o vs) ∧ (W.setCells b o vs).heap.size = W.heap.size
  | [], o, W => ⟨OB.of_below (Below.refl _ _), rfl⟩
  | v :: r, o, W => by
    have h := ob_cells b r (o + 1) (W.setCell ⟨b, o, none⟩ v)
    exact ⟨(ob_set b o W v).trans h.1 (.inl rfl), h.2.trans (by simp [World.setCell])⟩
/-- Bytes that are written over some of those. -/
theorem PGn.cells {D n : Nat} {W : World} {f : Nat → Nat} (h : PGn D n W f) (o k : Nat) (hk : o + k ≤ n) (c : Nat → Nat) : PGn D n (W.setCells D o ((List.range k).map fun i => Value.int .u8 ((c i : Nat) : Int))) (fun j => if o ≤ j ∧ j < o + k then c (j - o) else f j) := by
  have hl : ((List.range k).map fun i => Value.int .u8 ((c i : Nat) : Int)).length = k := by simp
  refine ⟨by rw [(ob_cells D _ o W).2]; exact h.1, fun j hj => ?_, fun q => by rw [World.frozen?_setCells]; exact h.2.2 q⟩
  by_cases hc : o ≤ j ∧ j < o + k
  · have h1 := World.cell?_setCells_in D ((List.range k).map fun i => Value.int .u8 ((c i : Nat) : Int)) o W (fun i hi => by
      rw [hl] at hi
      rw [h.2.1 (o + i) (by omega)]; rfl) (j - o) (by rw [hl]; omega)
    rw [show o + (j - o) = j by omega] at h1
    rw [h1]
    simp only [if_pos hc]
    simp
  · rw [World.cell?_setCells_out D _ o W ⟨D, j, none⟩ (fun _ _ => by rw [hl]; show j < o ∨ o + k ≤ j; omega)]
    simp only [if_neg hc]
    exact h.2.1 j hj
end Go.Proofs.YtljjcomedjdpaaaDoor
namespace Go.Proofs.YtljjcomedjdpaaaDoor
set_option maxRecDepth 100000
open Go.RowKit Go.ChangeMaps Go.MapKept
open Go.Maps (Keyed)
set_option linter.unusedVariables false
set_option linter.unusedSimpArgs false

theorem STL.far {B g b D : Nat} {W W' : World} {l : List (Nat × Nat)} {c : Nat → Nat} (h : STL B g b W l c) (hs : W.heap.size ≤ W'.heap.size) (ho : ∀ i, i < W.heap.size → i ≠ D → W'.heap[i]? = W.heap[i]?) (hg : g ≠ D) (hb : b ≠ D) (hl : ∀ pq ∈ l, pq.2 ≠ D) : STL B g b W' l c := by
  obtain ⟨h1, ⟨h2, h3, h4, h5, h6⟩, h7, h8, h9⟩ := h
  exact ⟨(World.cell?_of_block (ho g h5 hg)).trans h1, ⟨h2, h3, h4, Nat.lt_of_lt_of_le h5 hs, Nat.lt_of_lt_of_le h6 hs⟩, h7.keep (ho b h6 hb), fun pq hpq => by
    obtain ⟨k1, k2, k3, k4⟩ := h8 pq hpq
    exact ⟨k1, k2, k3, k4.keep hs (ho pq.2 k4.1 (hl pq hpq))⟩, h9⟩
theorem PGn.congr {D n : Nat} {W : World} {f f' : Nat → Nat} (h : PGn D n W f) (e : ∀ j, j < n → f j = f' j) : PGn D n W f' := ⟨h.1, fun j hj => by rw [← e j hj]; exact h.2.1 j hj, h.2.2⟩
end Go.Proofs.YtljjcomedjdpaaaDoor
namespace Go.Proofs.YtljjcomedjdpaaaDoor
set_option maxRecDepth 100000
open Go.RowKit Go.ChangeMaps Go.MapKept
open Go.Maps (Keyed)
set_option linter.unusedVariables false
set_option linter.unusedSimpArgs false

/-- Bytes with some of them written anew. -/
def over (c : Nat → Nat) (o k : Nat) (d : Nat → Nat) : Nat → Nat := fun x => if o ≤ x ∧ x < o + k then d (x - o) else c x
theorem nodup_inj {α β : Type} {f : α → β} : ∀ {l : List α}, (l.map f).Nodup → ∀ {a b : α}, a ∈ l → b ∈ l → f a = f b → a = b
  | [], _, _, _, ha, _, _ => by simp at ha
  | x :: l, h, a, b, ha, hb, e => by
    rw [List.map_cons, List.nodup_cons] at h
    rcases List.mem_cons.1 ha with h1 | h1
    · rcases List.mem_cons.1 hb with h2 | h2
      · rw [h1, h2]
      · exact absurd (show f x ∈ l.map f from List.mem_map.2 ⟨b, h2, by rw [← e, h1]⟩) h.1
    · rcases List.mem_cons.1 hb with h2 | h2
      · exact absurd (show f x ∈ l.map f from List.mem_map.2 ⟨a, h1, by rw [e, h2]⟩) h.1
      · exact nodup_inj h.2 h1 h2 e
theorem PG.cells {D : Nat} {W : World} {f : Nat → Nat} (h : PG D W f) (o k : Nat) (hk : o + k ≤ 256) (c : Nat → Nat) : PG D (W.setCells D o ((List.range k).map fun i => Value.int .u8 ((c i : Nat) : Int))) (fun j => if o ≤ j ∧ j < o + k then c (j - o) else f j) :=
  PGn.cells (D := D) (n := 256) h o k hk c
theorem STL.write {B g b : Nat} {w : World} {l : List (Nat × Nat)} {c : Nat → Nat} (h : STL B g b w l c) {P q : Nat} (hq : (P, q) ∈ l) (o k : Nat) (hk : o + k ≤ 256) (d : Nat → Nat) : STL B g b (w.setCells q o ((List.range k).map fun i => Value.int .u8 ((d i : Nat) : Int))) l (over c (P * 256 + o) k d) := by
  obtain ⟨h1, ⟨h2, h3, h4, h5, h6⟩, h7, h8, h9, h10⟩ := h
  obtain ⟨ho, hs⟩ := ob_cells q ((List.range k).map fun i => Value.int .u8 ((d i : Nat) : Int)) o w
  obtain ⟨k1, k2, k3, k4⟩ := h8 (P, q) hq
  have hf := h7
  obtain ⟨_, _, _, _, hnd, _⟩ := hf
  refine ⟨(World.cell?_of_block (ho.2.1 g h5 (Ne.symm k1))).trans h1, ⟨h2, h3, h4, by rw [hs]; exact h5, by rw [hs]; exact h6⟩, h7.keep (ho.2.1 b h6 (Ne.symm k2)), fun pq hpq => ?_, h9, fun x hx => ?_⟩
  · obtain ⟨m1, m2, m3, m4⟩ := h8 pq hpq
    refine ⟨m1, m2, m3, ?_⟩
    by_cases e : pq.2 = q
    · have e2 : pq = (P, q) := nodup_inj h9 hpq hq e
      subst e2
      have h11 := PG.cells k4 o k hk d
      refine ⟨h11.1, fun j hj => ?_, h11.2.2⟩
      rw [h11.2.1 j hj]
      simp only [over]
      by_cases hc : o ≤ j ∧ j < o + k
      · rw [if_pos hc, if_pos (by omega)]
        rw [show P * 256 + j - (P * 256 + o) = j - o by omega]
      · rw [if_neg hc, if_neg (by omega)]
    · have e2 : pq.1 ≠ P := fun e3 => e (by have := nodup_inj hnd hpq hq e3; rw [this])
      have h11 := m4.keep (W' := w.setCells q o ((List.range k).map fun i => Value.int .u8 ((d i : Nat) : Int))) (by rw [hs]; exact Nat.le_refl _) (ho.2.1 pq.2 m4.1 e)
      refine ⟨h11.1, fun j hj => ?_, h11.2.2⟩
      rw [h11.2.1 j hj]
      simp only [over]
      rw [if_neg (by omega)]
  · simp only [over]
    rw [if_neg (fun hc => hx q (by rw [show x / 256 = P by omega]; exact hq))]
    exact h10 x hx
end Go.Proofs.YtljjcomedjdpaaaDoor

