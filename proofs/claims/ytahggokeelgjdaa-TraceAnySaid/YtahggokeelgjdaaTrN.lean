/- The list that trace.Read makes. -/
import Derived.Test.YtahggokeelgjdaaTrM
namespace Go.Proofs.Ytahggokeelgjdaa
open Go.RowKit
set_option linter.unusedVariables false
set_option linter.unusedSimpArgs false

theorem tyOp : TyOK 25 22 8 80 (.agg #[.int .i64 0, .int .i64 0, .int .i64 0, .int .i64 0, .int .i64 0, .int .i64 0, .int .i64 0, .slice none 0 0]) := ⟨Try.underlying22, by kernel_rfl, rfl, by decide, by decide⟩
def enc8 (p : OV) : List Value := [.int .i64 p.o.k, .int .i64 p.o.t, .int .i64 p.o.a, .int .i64 p.o.b, .int .i64 p.o.v, .int .i64 p.o.n, .int .i64 p.o.m, p.dv]
theorem enc8_len (p : OV) : (enc8 p).length = 8 := rfl
abbrev VO (b : Nat) (W : World) (v : Value) (l : List OV) : Prop := VZ 8 b W v l.length (l.flatMap enc8)
/-- A thing's bytes lie in a block of their own, that is neither the reader's nor the list's. -/
def RDN (g bl : Nat) (W : World) (v : Value) (xs : List Nat) : Prop :=
  ∃ D c, v = .slice (some ⟨D, 0, none⟩) xs.length c ∧ D ≠ g ∧ D ≠ bl ∧ D < W.heap.size ∧ xs.length ≤ 140737488351232 ∧ At W D 0 (u8s xs)
theorem RDN.keep {g bl bl' : Nat} {W W' : World} {v : Value} {xs : List Nat} (h : RDN g bl W v xs) (hs : W.heap.size ≤ W'.heap.size) (ho : ∀ i, i < W.heap.size → i ≠ g → i ≠ bl → W'.heap[i]? = W.heap[i]?) (hb : bl' = bl ∨ W.heap.size ≤ bl') : RDN g bl' W' v xs := by
  obtain ⟨D, c, e, h1, h2, h3, h4, h5⟩ := h
  exact ⟨D, c, e, h1, by rcases hb with rfl | h; exact h2; omega, Nat.lt_of_lt_of_le h3 hs, h4, h5.keep (ho D h3 h1 h2)⟩
theorem RDN.rd {g bl : Nat} {W : World} {v : Value} {xs : List Nat} (h : RDN g bl W v xs) : RD W v xs := by
  obtain ⟨D, c, e, _, _, h3, h4, h5⟩ := h
  exact ⟨_, c, e, h4, .inr ⟨D, 0, rfl, h3, h5⟩⟩
/-- The list as it grows. -/
def LQ (g bl : Nat) (W : World) (v : Value) (l : List OV) : Prop :=
  VO bl W v l ∧ (l = [] → v = .slice none 0 0) ∧ (l ≠ [] → bl < W.heap.size ∧ bl ≠ g) ∧ ∀ p ∈ l, p.o.ok ∧ RDN g bl W p.dv p.d
theorem LQ.keep {g bl : Nat} {W W' : World} {v : Value} {l : List OV} (h : LQ g bl W v l) (hs : W.heap.size ≤ W'.heap.size) (ho : ∀ i, i < W.heap.size → i ≠ g → W'.heap[i]? = W.heap[i]?) : LQ g bl W' v l := by
  obtain ⟨h1, h2, h3, h4⟩ := h
  refine ⟨?_, h2, fun hne => ⟨Nat.lt_of_lt_of_le (h3 hne).1 hs, (h3 hne).2⟩, fun p hp => ⟨(h4 p hp).1, (h4 p hp).2.keep hs (fun i hi hg _ => ho i hi hg) (.inl rfl)⟩⟩
  by_cases hne : l = []
  · subst hne
    rw [h2 rfl]
    exact vz_nil _ _ _
  · exact VZ.keep h1 hs (fun hb => ho bl hb (h3 hne).2)
theorem LQ.ops {g bl : Nat} {W : World} {v : Value} {l : List OV} (h : LQ g bl W v l) (hl : l.length ≤ 500) : OPS W v l := by
  obtain ⟨h1, h2, h3, h4⟩ := h
  obtain ⟨A, c, e, k1, k2, k3, k4, ⟨k5, k6, k7⟩ | ⟨off, k5, k6, k7, _⟩⟩ := h1
  · exact ⟨A, c, e, by omega, .inl (List.length_eq_zero_iff.1 k6)⟩
  · refine ⟨A, c, e, by omega, .inr ⟨bl, off, k5, k6, fun i p hp => ⟨?_, (h4 p (List.mem_of_getElem? hp)).2.rd, (h4 p (List.mem_of_getElem? hp)).1⟩⟩⟩
    have key : ∀ j u, (enc8 p)[j]? = some u → j < 8 → W.cell? ⟨bl, off + i * 8 + j, none⟩ = some u := fun j u hu hj => by
      have := k7 (i * 8 + j) u (by rw [flat_get enc8 8 enc8_len l i j hj p hp]; exact hu)
      rwa [← Nat.add_assoc] at this
    exact ⟨by simpa using key 0 _ rfl (by decide), key 1 _ rfl (by decide), key 2 _ rfl (by decide), key 3 _ rfl (by decide), key 4 _ rfl (by decide), key 5 _ rfl (by decide), key 6 _ rfl (by decide), key 7 _ rfl (by decide)⟩
/-- One more. -/
theorem LQ.add {g bl : Nat} {W w' : World} {v v' : Value} {l : List OV} {p : OV} (h : LQ g bl W v l) (hg : g < W.heap.size) (hp : p.o.ok) (hd : RDN g bl W p.dv p.d) (b0 : Nat) (hb0 : (l = [] ∧ b0 = W.heap.size) ∨ (l ≠ [] ∧ b0 = bl)) (k : VPost 8 b0 W (l.length + 1) (l.flatMap enc8 ++ enc8 p) v' w') :
    ∃ bl', LQ g bl' w' v' (l ++ [p]) ∧ W.heap.size ≤ w'.heap.size ∧ w'.heap[g]? = W.heap[g]? ∧ (∀ L, L ≤ W.heap.size → (l = [] ∨ L ≤ bl) → Below L W w') ∧ ((bl' = bl ∧ l ≠ []) ∨ W.heap.size ≤ bl') := by
  obtain ⟨h1, h2, h3, h4⟩ := h
  obtain ⟨b', hb', hv, hs, ho, hl⟩ := k
  have hbg : g ≠ b0 := by rcases hb0 with ⟨_, rfl⟩ | ⟨hne, rfl⟩; omega; exact Ne.symm (h3 hne).2
  have hoth : ∀ i, i < W.heap.size → i ≠ bl → w'.heap[i]? = W.heap[i]? := fun i hi hn => ho i hi (by rcases hb0 with ⟨_, rfl⟩ | ⟨_, rfl⟩; omega; exact hn)
  have hbb : b' = bl ∨ W.heap.size ≤ b' := by
    rcases hb' with rfl | h
    · rcases hb0 with ⟨_, rfl⟩ | ⟨_, rfl⟩
      · exact .inr (Nat.le_refl _)
      · exact .inl rfl
    · exact .inr h
  refine ⟨b', ⟨?_, fun h => by simp at h, fun _ => ⟨?_, ?_⟩, fun q hq => ?_⟩, hs, ho g hg hbg, fun L hL hLb => hl L (by rcases hb0 with ⟨_, rfl⟩ | ⟨hne, rfl⟩; exact hL; rcases hLb with h | h; exact absurd h hne; exact h) hL, by
    rcases hb' with rfl | h
    · rcases hb0 with ⟨_, rfl⟩ | ⟨hne, rfl⟩
      · exact .inr (Nat.le_refl _)
      · exact .inl ⟨rfl, hne⟩
    · exact .inr h⟩
  · show VZ 8 b' w' v' (l ++ [p]).length ((l ++ [p]).flatMap enc8)
    rw [List.length_append, List.flatMap_append]
    simpa using hv
  · obtain ⟨A, c, e, k1, k2, k3, k4, ⟨k5, k6, k7⟩ | ⟨off, k5, k6, k7, _⟩⟩ := hv
    · omega
    · exact k6
  · rcases hb' with rfl | h
    · exact Ne.symm hbg
    · omega
  · rcases List.mem_append.1 hq with h | h
    · exact ⟨(h4 q h).1, (h4 q h).2.keep hs (fun i hi _ hn => hoth i hi hn) hbb⟩
    · simp at h
      subst h
      exact ⟨hp, hd.keep hs (fun i hi _ hn => hoth i hi hn) hbb⟩
theorem new8 (W : World) (p : OV) (E : TypeId) : ∀ j u, (enc8 p)[j]? = some u → (W.alloc (.cells #[.int .i64 p.o.k, .int .i64 p.o.t, .int .i64 p.o.a, .int .i64 p.o.b, .int .i64 p.o.v, .int .i64 p.o.n, .int .i64 p.o.m, p.dv] E)).cell? ((⟨W.heap.size, 0, none⟩ : Addr).add j) = some u := by
  intro j u hu
  rw [addp]
  match j with
  | 0 => simp [enc8] at hu; subst hu; simp
  | 1 => simp [enc8] at hu; subst hu; simp
  | 2 => simp [enc8] at hu; subst hu; simp
  | 3 => simp [enc8] at hu; subst hu; simp
  | 4 => simp [enc8] at hu; subst hu; simp
  | 5 => simp [enc8] at hu; subst hu; simp
  | 6 => simp [enc8] at hu; subst hu; simp
  | 7 => simp [enc8] at hu; subst hu; simp
  | j + 8 => simp [enc8] at hu
end Go.Proofs.Ytahggokeelgjdaa
