/- LargePlays: the state of its loop. -/
import Derived.Test.YtohamecjiidjdaaLaI
namespace Go.Proofs.Ytohamecjiidjdaa
open Go.RowKit
set_option linter.unusedVariables false
set_option linter.unusedSimpArgs false

def LS (W : World) (g b bm : Nat) (w : World) (v6 : Value) (ms : List La) : Prop :=
  LgAt g b w ms ∧ V4 bm w v6 ms ∧ (b ≠ bm ∧ bm ≠ g ∧ bm < w.heap.size ∧ W.heap.size ≤ g ∧ W.heap.size ≤ b ∧ W.heap.size ≤ bm) ∧ Rise ms ∧ (∀ p ∈ ms, 0 ≤ p.pages ∧ p.pages ≤ 7 ∧ p.at_ % 16 = 0) ∧ Below W.heap.size W w ∧ v6 ≠ .slice none 0 0
theorem LS.below {W : World} {g b bm : Nat} {w w' : World} {v6 : Value} {ms : List La} (h : LS W g b bm w v6 ms) (hb : Below w.heap.size w w') : LS W g b bm w' v6 ms := by
  obtain ⟨h1, h2, ⟨d1, d2, d3, d4, d5, d6⟩, h4, h5, h6, h7⟩ := h
  exact ⟨h1.below hb, h2.below hb, ⟨d1, d2, Nat.lt_of_lt_of_le d3 hb.size, d4, d5, d6⟩, h4, h5, thn h6 hb, h7⟩
theorem LS.drew {W : World} {g b bm : Nat} {w : World} {v6 : Value} {ms : List La} (h : LS W g b bm w v6 ms) : LS W g b bm w.drew v6 ms := h.below (Below.refl _ _).drew
theorem LS.lg {W : World} {g b bm : Nat} {w : World} {v6 : Value} {ms : List La} (h : LS W g b bm w v6 ms) : LgAt g b w ms := h.1
theorem LS.wb {W : World} {g b bm : Nat} {w : World} {v6 : Value} {ms : List La} (h : LS W g b bm w v6 ms) : Below W.heap.size W w := h.2.2.2.2.2.1
theorem LS.rise {W : World} {g b bm : Nat} {w : World} {v6 : Value} {ms : List La} (h : LS W g b bm w v6 ms) : Rise ms := h.2.2.2.1
theorem LS.bds {W : World} {g b bm : Nat} {w : World} {v6 : Value} {ms : List La} (h : LS W g b bm w v6 ms) : ∀ p ∈ ms, 0 ≤ p.pages ∧ p.pages ≤ 7 ∧ p.at_ % 16 = 0 := h.2.2.2.2.1
/-- The slice m, opened. -/
theorem LS.open_ {W : World} {g b bm : Nat} {w : World} {v6 : Value} {ms : List La} (h : LS W g b bm w v6 ms) : ∃ off c, v6 = .slice (some ⟨bm, off, none⟩) ms.length c ∧ bm < w.heap.size ∧ ms.length ≤ c ∧ c ≤ 9223372036854775807 ∧
      (∀ i p, ms[i]? = some p → w.cell? ⟨bm, off + i * 4, none⟩ = some (.int .i64 p.at_) ∧ w.cell? ⟨bm, off + i * 4 + 1, none⟩ = some (.int .i64 p.first) ∧ w.cell? ⟨bm, off + i * 4 + 2, none⟩ = some (.int .i64 p.pages) ∧ w.cell? ⟨bm, off + i * 4 + 3, none⟩ = some (.int .i64 p.room)) := by
  obtain ⟨_, h2, _, _, _, _, h7⟩ := h
  rcases v4_open h2 with ⟨e, _⟩ | ⟨off, c, e, h⟩
  · exact absurd e h7
  · exact ⟨off, c, e, h⟩
/-- Cells of m, as rows. -/
theorem LS.rows {W : World} {g b bm : Nat} {w : World} {off n c : Nat} {ms : List La} (h : LS W g b bm w (.slice (some ⟨bm, off, none⟩) n c) ms) : (ms.flatMap enc4).length = n * 4 ∧ ∀ j u, (ms.flatMap enc4)[j]? = some u → w.cell? ⟨bm, off + j, none⟩ = some u :=
  ⟨(cellsV4 h.2.1).2.2.2.1, (cellsV4 h.2.1).2.2.2.2.2.1⟩
/-- What stands behind a new m. -/
theorem LS.newm {W : World} {g b bm bm2 : Nat} {w w' : World} {v6 v' : Value} {ms ms' : List La} (h : LgAt g b w ms') (hg : W.heap.size ≤ g) (hb : W.heap.size ≤ b) (hbw : b < w.heap.size) (hB : Below W.heap.size W w) (hr : Rise ms') (hp : ∀ p ∈ ms', 0 ≤ p.pages ∧ p.pages ≤ 7 ∧ p.at_ % 16 = 0)
    (hw : Below w.heap.size w w') (h2 : w.heap.size ≤ bm2) (hv : V4 bm2 w' v' ms') (hn : v' ≠ .slice none 0 0) (hl : bm2 < w'.heap.size) : LS W g b bm2 w' v' ms' := by
  have hz := hB.size
  have hgl := h.1
  exact ⟨h.below hw, hv, ⟨by omega, by omega, hl, hg, hb, by omega⟩, hr, hp, thn hB hw, hn⟩
theorem lt_of_v4 {bm : Nat} {w : World} {v : Value} {ms : List La} (h : V4 bm w v ms) (hv : v ≠ .slice none 0 0) : bm < w.heap.size := by
  rcases v4_open h with ⟨e, _⟩ | ⟨off, c, e, hb, _⟩
  · exact absurd e hv
  · exact hb
theorem odd_or (a : Int) : (bits .or .i64 a 1) % 2 = 1 := by
  show (IntKind.i64.wrap ((BitVec.ofInt 64 a ||| BitVec.ofInt 64 1).toNat : Int)) % 2 = 1
  have h1 : (BitVec.ofInt 64 a ||| BitVec.ofInt 64 1).toNat % 2 = 1 := by
    rw [BitVec.toNat_or]
    have e : (BitVec.ofInt 64 1).toNat = 1 := rfl
    rw [e]
    generalize (BitVec.ofInt 64 a).toNat = x
    have := Nat.or_mod_two_pow (a := x) (b := 1) (n := 1)
    simp at this
    rw [this]
    have h2 : x % 2 = 0 ∨ x % 2 = 1 := by omega
    rcases h2 with h | h <;> rw [h] <;> rfl
  rw [IntKind.wrap_i64]
  omega
theorem fnd_odd {ms : List La} {at_ : Int} {k : Nat} (h : ∀ p ∈ ms, 0 ≤ p.pages ∧ p.pages ≤ 7 ∧ p.at_ % 16 = 0) (ho : at_ % 2 = 1) : fndB ms at_ k = false := by
  unfold fndB
  cases hk : ms[k]? with
  | none => rfl
  | some p =>
    have := (h p (List.mem_of_getElem? hk)).2.2
    simp
    omega
theorem fnd_self {ms : List La} {p : La} {i : Nat} (h : ms[i]? = some p) : fndB ms p.at_ i = true := by unfold fndB; rw [h]; simp
theorem lb_self {ms : List La} (hr : Rise ms) {p : La} {i : Nat} (h : ms[i]? = some p) : LBat ms p.at_ i :=
  ⟨Nat.le_of_lt (List.getElem?_eq_some_iff.1 h).1, fun j q hj hq => hr j i q p hj hq h, fun j q hj hq => by
    by_cases e : i = j
    · subst e; rw [h] at hq; injection hq with hq; subst hq; exact Int.le_refl _
    · exact Int.le_of_lt (hr i j p q (by omega) h hq)⟩
theorem dropA (b off c j n : Nat) (cs : List Value) (hl : cs.length = n * 4) (hn : n ≤ c) (hj : j ≤ n) (W : World) (h : ∀ j u, cs[j]? = some u → W.cell? ⟨b, off + j, none⟩ = some u) :
    ∃ A : Addr, (if c = j then some (⟨b, off, none⟩ : Addr) else some ⟨b, off + j * 4, none⟩) = some A ∧ ∀ W' : World, W'.heap[b]? = W.heap[b]? → ∀ (t : Nat) (u : Value), (cs.drop (j * 4))[t]? = some u → W'.cell? (A.add t) = some u := by
  by_cases h' : c = j
  · refine ⟨⟨b, off, none⟩, by simp [h'], fun W' _ t u hu => ?_⟩
    have := (List.getElem?_eq_some_iff.1 hu).1
    obtain rfl : n = j := by omega
    rw [List.length_drop, hl] at this
    omega
  · refine ⟨⟨b, off + j * 4, none⟩, by simp [h'], fun W' hW t u hu => ?_⟩
    rw [addp, Nat.add_assoc]
    rw [List.getElem?_drop] at hu
    exact (World.cell?_of_block hW).trans (h _ u hu)
/-- Behind an append to a row that is new. -/
theorem vp_next {N b1 n : Nat} {w2 wc w' : World} {cs : List Value} {v' : Value} (hB : Below N w2 wc) (hN : N ≤ b1) (hw : N ≤ wc.heap.size) (h : VPost 4 b1 wc n cs v' w') : ∃ b2, Below N w2 w' ∧ N ≤ b2 ∧ VZ 4 b2 w' v' n cs ∧ N ≤ w'.heap.size := by
  obtain ⟨b2, hb2, hz, hs, _, hl⟩ := h
  exact ⟨b2, hB.trans (hl N hN hw), by omega, hz, by omega⟩
theorem LS.rez {W : World} {g b bm : Nat} {w : World} {v6 : Value} {ms : List La} (h : LS W g b bm w v6 ms) (z : Nat) (hz : w.heap.size ≤ z) : ∃ b2, LS W g b2 bm w v6 ms ∧ b2 ≠ z := by
  obtain ⟨⟨h1, h2, h3, v, h4, h5⟩, k2, ⟨d1, d2, d3, d4, d5, d6⟩, h⟩ := h
  have h6 := h5
  obtain ⟨A, c, e, q1, q2, q3, q4, ⟨q5, q6, q7⟩ | ⟨off, e2, hl, _⟩⟩ := h6
  · exact ⟨W.heap.size + bm + g + z + 1, ⟨⟨h1, by omega, h3, v, h4, A, c, e, q1, q2, q3, q4, .inl ⟨q5, q6, q7⟩⟩, k2, ⟨by omega, d2, d3, d4, by omega, d6⟩, h⟩, by omega⟩
  · exact ⟨b, ⟨⟨h1, h2, h3, v, h4, h5⟩, k2, ⟨d1, d2, d3, d4, d5, d6⟩, h⟩, by omega⟩
end Go.Proofs.Ytohamecjiidjdaa
