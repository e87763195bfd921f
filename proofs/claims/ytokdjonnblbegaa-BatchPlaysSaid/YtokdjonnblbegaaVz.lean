/- A slice of records (so many cells each) that is appended to, and cut at its head. -/
import Derived.Test.YtokdjonnblbegaaRows
import Derived.Test.YtokdjonnblbegaaInt
import Derived.ArgAppend
import Derived.Laws.AppendOwnNone
import Derived.Deep.MidRow
import Derived.Deep.Upon
import Derived.Lib.Hide
namespace Go.Proofs.Ytokdjonnblbegaa
open Go.RowKit
set_option linter.unusedVariables false
set_option linter.unusedSimpArgs false

theorem heap_other (W : World) (g o : Nat) (v : Value) (i : Nat) (h : i ≠ g) : (W.setCell ⟨g, o, none⟩ v).heap[i]? = W.heap[i]? := Below.heap_setCell W ⟨g, o, none⟩ v i h
theorem size_set (W : World) (p : Addr) (v : Value) : (W.setCell p v).heap.size = W.heap.size := by simp [World.setCell]
theorem addp (b off : Nat) (i : Nat) : (⟨b, off, none⟩ : Addr).add i = ⟨b, off + i, none⟩ := by unfold Addr.add; split <;> simp_all
theorem setCells_below (L b : Nat) (hL : L ≤ b) : ∀ (vs : List Value) (o : Nat) (a w : World), Below L a w → Below L a (w.setCells b o vs)
  | [], _, _, _, h => h
  | v :: r, o, a, w, h => setCells_below L b hL r (o + 1) a _ (h.setCell hL v)
theorem setCells_size (b : Nat) (vs : List Value) (o : Nat) (w : World) : (w.setCells b o vs).heap.size = w.heap.size := by
  induction vs generalizing o w with
  | nil => rfl
  | cons v r ih => rw [World.setCells, ih, size_set]
/-- What is asked of an element's type E, and of the slice's type S. -/
structure TyOK (E S : TypeId) (sz bytes : Nat) (z : Value) : Prop where
  und : Try.prog.underlying S = some (.slice E)
  inf : (Try.prog.info? E).map (fun i => (i.zero, i.size, i.bytes)) = some (some z, sz, bytes)
  zs : z.cells.size = sz
  pos : 0 < sz
  szb : sz ≤ bytes
/-- So many cells, one behind the other. -/
def At (W : World) (b off : Nat) (cs : List Value) : Prop := ∀ j u, cs[j]? = some u → W.cell? ⟨b, off + j, none⟩ = some u
theorem At.keep {W W' : World} {b off : Nat} {cs : List Value} (h : At W b off cs) (hb : W'.heap[b]? = W.heap[b]?) : At W' b off cs := fun j u hu => (World.cell?_of_block hb).trans (h j u hu)
/-- A slice of n elements of sz cells each, in block b, with room behind it that may be written; cs are its cells. -/
def VZ (sz b : Nat) (W : World) (v : Value) (n : Nat) (cs : List Value) : Prop :=
  ∃ A c, v = .slice A n c ∧ cs.length = n * sz ∧ n ≤ c ∧ c ≤ 9223372036854775807 ∧ (∀ u ∈ cs, u.oneCell' = true) ∧
    ((A = none ∧ n = 0 ∧ c = 0) ∨ ∃ off, A = some ⟨b, off, none⟩ ∧ b < W.heap.size ∧ At W b off cs ∧ ∀ i, i < c * sz → (W.cell? ⟨b, off + i, none⟩).isSome = true ∧ W.frozen? ⟨b, off + i, none⟩ = false)
theorem VZ.keep {sz b : Nat} {W W' : World} {v : Value} {n : Nat} {cs : List Value} (h : VZ sz b W v n cs) (hs : W.heap.size ≤ W'.heap.size) (hb : b < W.heap.size → W'.heap[b]? = W.heap[b]?) : VZ sz b W' v n cs := by
  obtain ⟨A, c, e, h1, h2, h3, h4, h | ⟨off, e2, hl, hc, hsp⟩⟩ := h
  · exact ⟨A, c, e, h1, h2, h3, h4, .inl h⟩
  · have hb := hb hl
    exact ⟨A, c, e, h1, h2, h3, h4, .inr ⟨off, e2, Nat.lt_of_lt_of_le hl hs, hc.keep hb, fun i hi => ⟨by rw [World.cell?_of_block hb]; exact (hsp i hi).1, (World.frozen?_of_block hb).trans (hsp i hi).2⟩⟩⟩
theorem VZ.below {sz b : Nat} {W W' : World} {v : Value} {n : Nat} {cs : List Value} (h : VZ sz b W v n cs) (hb : Below W.heap.size W W') : VZ sz b W' v n cs := h.keep hb.size (hb.block b)
theorem VZ.far {sz b g o : Nat} {W : World} {v u : Value} {n : Nat} {cs : List Value} (h : VZ sz b W v n cs) (hg : b ≠ g) : VZ sz b (W.setCell ⟨g, o, none⟩ u) v n cs :=
  h.keep (by rw [size_set]; exact Nat.le_refl _) (fun _ => heap_other W g o u b hg)
theorem vz_nil (sz b : Nat) (W : World) : VZ sz b W (.slice none 0 0) 0 [] := ⟨none, 0, rfl, by simp, Nat.le_refl _, by omega, by simp, .inl ⟨rfl, rfl, rfl⟩⟩
theorem vz_made (sz : Nat) (W : World) (E : TypeId) : VZ sz W.heap.size (W.alloc (.cells #[] E)) (.slice (some ⟨W.heap.size, 0, none⟩) 0 0) 0 [] :=
  ⟨_, 0, rfl, by simp, Nat.le_refl _, by omega, by simp, .inr ⟨0, rfl, by simp, fun j u hu => by simp at hu, fun i hi => by omega⟩⟩
theorem vz_own {sz E W B n : Nat} {w : World} {v : Value} {cs : List Value} (h1 : ∀ u ∈ cs, u.oneCell' = true) (h : w.ownsRow B E sz v n cs) : ∃ b, B ≤ b ∧ VZ sz b w v n cs := by
  have hl := h.1
  rcases h.2 with ⟨rfl, rfl⟩ | ⟨g, cap, cur, rfl, hg, hh, hc, hm, hcur, _⟩
  · exact ⟨B, Nat.le_refl _, none, 0, rfl, hl, Nat.le_refl _, by omega, h1, .inl ⟨rfl, rfl, rfl⟩⟩
  · refine ⟨g, hg, _, cap, rfl, hl, hc, by unfold maxLen at hm; omega, h1, .inr ⟨0, rfl, (h.lt g rfl).2, fun i u hu => ?_, fun i hi => ⟨?_, by simp [World.frozen?, hh]⟩⟩⟩
    · have := h.cells (g := g) rfl i u hu
      rw [addp] at this
      simpa using this
    · have hsz : 0 + i < cur.size := by rw [hcur]; omega
      rw [cell_of_row w g (0 + i) cur _ (0, 0) hh, Array.getElem?_eq_getElem hsz]; rfl
/-- What comes of an append. -/
def VPost (sz b : Nat) (W : World) (n : Nat) (cs : List Value) (v' : Value) (w' : World) : Prop :=
  ∃ b', (b' = b ∨ W.heap.size ≤ b') ∧ VZ sz b' w' v' n cs ∧ W.heap.size ≤ w'.heap.size ∧ (∀ i, i < W.heap.size → i ≠ b → w'.heap[i]? = W.heap[i]?) ∧ ∀ L, L ≤ b → L ≤ W.heap.size → Below L W w'
theorem app_vz {E S : TypeId} {sz bytes : Nat} {z : Value} (T : TyOK E S sz bytes z) {ops : Array Oper} {rest : List Oper} {o : Oper} {a : Act} {Q : Exit → Act → World → Prop} {W : World} (hgd : o.guard = none) (s y : Operand)
    (ho : o.op = .call { callee := .builtin .append, args := #[s, y], argTypes := #[S, S] })
    (b : Nat) (v : Value) (n : Nat) (cs : List Value) (hs : a.eval s = v) (hz : VZ sz b W v n cs) (ad : Addr) (m c2 : Nat) (news : List Value) (hy : a.eval y = .slice (some ad) m c2) (hl : news.length = m * sz)
    (hn : ∀ j u, news[j]? = some u → W.cell? (ad.add j) = some u) (h1 : ∀ u ∈ news, u.oneCell' = true) (hm : 0 < m ∨ v ≠ .slice none 0 0) (hbig : (n + m) * bytes ≤ 140737488355328)
    (h : ∀ v' w', VPost sz b W (n + m) (cs ++ news) v' w' → wpList Try.prog ops Q rest (a.put o.dst v') w') :
    wpList Try.prog ops Q (o :: rest) a W := by
  obtain ⟨i0, hi, hz0, hz1, hz2⟩ := info_parts T.inf
  obtain ⟨A, c, rfl, hl1, hnc, hc, ho1, hz⟩ := hz
  have hb63 : n + m ≤ maxLen := by
    have h3 : (n + m) * 1 ≤ (n + m) * bytes := Nat.mul_le_mul_left _ (by have := T.pos; have := T.szb; omega)
    unfold maxLen; omega
  have hcat : ∀ u ∈ cs ++ news, u.oneCell' = true := fun u hu => by
    rcases List.mem_append.1 hu with h | h
    · exact ho1 u h
    · exact h1 u h
  have hgrow : ∀ v' w2, w2.ownsRow W.heap.size E sz v' (n + m) (cs ++ news) → W.grownBy w2 none → VPost sz b W (n + m) (cs ++ news) v' w2 := by
    intro v' w2 hown hg
    obtain ⟨b', hb', hv⟩ := vz_own (W := 0) hcat hown
    exact ⟨b', .inr hb', hv, hg.size, fun i hi _ => hg.block i hi (by simp), fun L _ hL => (Below.refl L W).grown hg hL (by simp)⟩
  rcases hz with ⟨rfl, rfl, rfl⟩ | ⟨off, rfl, b1, hcell, hsp⟩
  · obtain rfl : cs = [] := List.length_eq_zero_iff.1 (by simpa using hl1)
    have hm0 : 0 < m := by rcases hm with h | h; exact h; exact absurd rfl h
    refine wpList_append_grows W hgd s y S ho E i0 z sz bytes T.und hi hz0 hz1 hz2 T.zs T.pos none 0 0 [] hs (fun _ => ⟨rfl, rfl⟩) (by simp) (by simp) ad m c2 news hy hl hn h1 (by omega) hb63 hbig ?_
    intro v' w2 hown hg
    exact h v' w2 (hgrow v' w2 hown hg)
  · refine wpList_append_arg W hgd s y S ho E i0 z sz bytes T.und hi hz0 hz1 hz2 T.zs T.pos b off n c cs hs hl1 hcell ad m c2 news hy hl hn h1 ?_ hb63 hbig ?_ ?_
    · intro hr j hj
      have h4 : n * sz + j < c * sz := by
        have : (n + m) * sz ≤ c * sz := Nat.mul_le_mul_right _ hr
        rw [Nat.add_mul] at this; omega
      have := hsp (n * sz + j) h4
      rwa [Nat.add_assoc]
    · intro hr
      refine h _ _ ⟨b, .inl rfl, ⟨_, c, rfl, by rw [List.length_append, hl1, hl, Nat.add_mul], hr, hc, hcat, .inr ⟨off, rfl, by rw [setCells_size]; exact b1, fun i u hu => ?_, fun i hi => ⟨World.isSome_setCells b _ _ _ _ (hsp i hi).1, by rw [World.frozen?_setCells]; exact (hsp i hi).2⟩⟩⟩, by rw [setCells_size]; exact Nat.le_refl _, fun i hi hne => World.heap_setCells_other W b _ _ hi hne, fun L hL _ => setCells_below L b hL _ _ W W (Below.refl _ _)⟩
      have hin : ∀ j, j < news.length → (W.cell? ⟨b, (off + n * sz) + j, none⟩).isSome = true := fun j hj => by
        have h4 : n * sz + j < c * sz := by
          have : (n + m) * sz ≤ c * sz := Nat.mul_le_mul_right _ hr
          rw [Nat.add_mul] at this; omega
        have := (hsp (n * sz + j) h4).1
        rwa [Nat.add_assoc]
      by_cases hlt : i < cs.length
      · rw [World.cell?_setCells_out b _ _ W ⟨b, off + i, none⟩ (fun _ _ => by simp; omega)]
        rw [List.getElem?_append_left hlt] at hu
        exact hcell i u hu
      · rw [List.getElem?_append_right (by omega)] at hu
        have hj := (List.getElem?_eq_some_iff.1 hu).1
        have := World.cell?_setCells_in b news (off + n * sz) W hin (i - cs.length) hj
        rw [show off + i = off + n * sz + (i - cs.length) by omega, this]
        simpa [List.getElem?_eq_getElem hj] using hu
    · intro hr v' w' hown hg
      exact h v' w' (hgrow v' w' hown hg)
/-- The append's run, whatever the slice. -/
theorem run_app_vz {E S : TypeId} {sz bytes : Nat} {z : Value} (T : TyOK E S sz bytes z) {W : World} (ty : TypeId)
    (b : Nat) (v : Value) (n : Nat) (cs : List Value) (hz : VZ sz b W v n cs) (ad : Addr) (m c2 : Nat) (news : List Value) (hl : news.length = m * sz)
    (hn : ∀ j u, news[j]? = some u → W.cell? (ad.add j) = some u) (h1 : ∀ u ∈ news, u.oneCell' = true) (hbig : (n + m) * bytes ≤ 140737488355328) :
    ∃ v' w', (Builtin.append_ #[S, S] ty #[v, .slice (some ad) m c2]).run Try.prog W = .ok v' w' ∧ VPost sz b W (n + m) (cs ++ news) v' w' ∧ (v' = .slice none 0 0 → v = .slice none 0 0) := by
  obtain ⟨i0, hi, hz0, hz1, hz2⟩ := info_parts T.inf
  obtain ⟨A, c, rfl, hl1, hnc, hc, ho1, hz⟩ := hz
  have hb63 : n + m ≤ maxLen := by
    have h3 : (n + m) * 1 ≤ (n + m) * bytes := Nat.mul_le_mul_left _ (by have := T.pos; have := T.szb; omega)
    unfold maxLen; omega
  have hcat : ∀ u ∈ cs ++ news, u.oneCell' = true := fun u hu => by
    rcases List.mem_append.1 hu with h | h
    · exact ho1 u h
    · exact h1 u h
  have hgrow : ∀ v' w2, w2.ownsRow W.heap.size E sz v' (n + m) (cs ++ news) → W.grownBy w2 none → VPost sz b W (n + m) (cs ++ news) v' w2 := by
    intro v' w2 hown hg
    obtain ⟨b', hb', hv⟩ := vz_own (W := 0) hcat hown
    exact ⟨b', .inr hb', hv, hg.size, fun i hi _ => hg.block i hi (by simp), fun L _ hL => (Below.refl L W).grown hg hL (by simp)⟩
  rcases hz with ⟨rfl, rfl, rfl⟩ | ⟨off, rfl, b1, hcell, hsp⟩
  · obtain rfl : cs = [] := List.length_eq_zero_iff.1 (by simpa using hl1)
    obtain ⟨v', w', hr, hown, hg, _⟩ := run_append_own (P := Try.prog) W W.heap.size S ty E i0 z sz bytes T.und hi hz0 hz1 hz2 T.zs T.pos (.slice none 0 0) 0 [] ⟨by simp, .inl ⟨rfl, rfl⟩⟩ ad m c2 news hl hn h1 hb63 hbig (Nat.le_refl _)
    exact ⟨v', w', hr, hgrow v' w' hown hg, fun _ => rfl⟩
  · by_cases hr : n + m ≤ c
    · have hin : ∀ j, j < news.length → (W.cell? ⟨b, (off + n * sz) + j, none⟩).isSome = true ∧ W.frozen? ⟨b, (off + n * sz) + j, none⟩ = false := fun j hj => by
        have h4 : n * sz + j < c * sz := by
          have : (n + m) * sz ≤ c * sz := Nat.mul_le_mul_right _ hr
          rw [Nat.add_mul] at this; omega
        have := hsp (n * sz + j) h4
        rwa [Nat.add_assoc]
      have hrun := run_append_room_cells (P := Try.prog) W S ty E i0 T.und hi b off n c ad m c2 news (by rw [hz1]; exact hl) hn h1 hr (fun j hj => by rw [hz1]; exact (hin j hj).1) (fun j hj => by rw [hz1]; exact (hin j hj).2)
      rw [hz1] at hrun
      refine ⟨_, _, hrun, ⟨b, .inl rfl, ⟨_, c, rfl, by rw [List.length_append, hl1, hl, Nat.add_mul], hr, hc, hcat, .inr ⟨off, rfl, by rw [setCells_size]; exact b1, fun i u hu => ?_, fun i hi => ⟨World.isSome_setCells b _ _ _ _ (hsp i hi).1, by rw [World.frozen?_setCells]; exact (hsp i hi).2⟩⟩⟩, by rw [setCells_size]; exact Nat.le_refl _, fun i hi hne => World.heap_setCells_other W b _ _ hi hne, fun L hL _ => setCells_below L b hL _ _ W W (Below.refl _ _)⟩, fun h => by simp at h⟩
      by_cases hlt : i < cs.length
      · rw [World.cell?_setCells_out b _ _ W ⟨b, off + i, none⟩ (fun _ _ => by simp; omega)]
        rw [List.getElem?_append_left hlt] at hu
        exact hcell i u hu
      · rw [List.getElem?_append_right (by omega)] at hu
        have hj := (List.getElem?_eq_some_iff.1 hu).1
        have := World.cell?_setCells_in b news (off + n * sz) W (fun j hj => (hin j hj).1) (i - cs.length) hj
        rw [show off + i = off + n * sz + (i - cs.length) by omega, this]
        simpa [List.getElem?_eq_getElem hj] using hu
    · obtain ⟨v', w', hrun, hown, hg⟩ := run_append_arg_grows (P := Try.prog) W S ty E i0 z sz bytes T.und hi hz0 hz1 hz2 T.zs T.pos ⟨b, off, none⟩ n c cs hl1 (fun j u hu => by rw [addp]; exact hcell j u hu) ad m c2 news hl hn (by omega) hb63 hbig
      refine ⟨v', w', hrun, hgrow v' w' hown hg, fun h => ?_⟩
      subst h
      have hl9 := hown.2
      rcases hl9 with ⟨_, h9⟩ | ⟨_, _, _, h9, _⟩
      · omega
      · simp at h9
/-- The append, as one step of a region that draws. -/
theorem step_app_vz {E S : TypeId} {sz bytes : Nat} {z : Value} (T : TyOK E S sz bytes z) {ops : Array Oper} {o : Oper} {a : Act} {W : World} {K : Act → World → Prop} {Q : Exit → Act → World → Prop} {X : Prop}
    (hg : o.guard = none) (s x : Operand) (hop : o.op = Op.call { callee := Callee.builtin Builtin.append, args := #[s, x], argTypes := #[S, S] })
    (b : Nat) (v : Value) (n : Nat) (cs : List Value) (hs : a.eval s = v) (hz : VZ sz b W v n cs) (ad : Addr) (m c2 : Nat) (news : List Value) (hx : a.eval x = .slice (some ad) m c2) (hl : news.length = m * sz)
    (hn : ∀ j u, news[j]? = some u → W.cell? (ad.add j) = some u) (h1 : ∀ u ∈ news, u.oneCell' = true) (hbig : (n + m) * bytes ≤ 140737488355328)
    (hK : ∀ v' w', VPost sz b W (n + m) (cs ++ news) v' w' → (v' = .slice none 0 0 → v = .slice none 0 0) → K (a.put o.dst v') w') :
    if Region.wanted o (yielded ops a.tmps) = true then Oper.wp Try.prog o a W K Q else X := by
  have hw : Region.wanted o (yielded ops a.tmps) = true := by simp [Region.wanted, hg]
  rw [if_pos hw]
  obtain ⟨v', w', hrun, hp, hnn⟩ := run_app_vz T o.type b v n cs hz ad m c2 news hl hn h1 hbig
  unfold Oper.wp
  simp [execOp, hop, resolve, invoke, builtin, hs, hx, hrun, Result.andThen]
  exact hK v' w' hp hnn
theorem take_get {cs : List Value} {m j : Nat} {u : Value} (h : (cs.take m)[j]? = some u) : cs[j]? = some u := by
  rw [List.getElem?_take] at h
  split at h
  · exact h
  · cases h
/-- The cells of a list, element by element. -/
theorem flat_get {α : Type} (f : α → List Value) (sz : Nat) (hf : ∀ x, (f x).length = sz) (l : List α) (i j : Nat) (hj : j < sz) (x : α) (hx : l[i]? = some x) : (l.flatMap f)[i * sz + j]? = (f x)[j]? := by
  induction l generalizing i with
  | nil => simp at hx
  | cons y l ih =>
    cases i with
    | zero =>
      simp at hx; subst hx
      rw [List.flatMap_cons, Nat.zero_mul, Nat.zero_add, List.getElem?_append_left (by rw [hf]; exact hj)]
    | succ i =>
      simp at hx
      rw [List.flatMap_cons, List.getElem?_append_right (by rw [hf, Nat.add_mul]; omega), hf, show (i + 1) * sz + j - sz = i * sz + j by rw [Nat.add_mul]; omega]
      exact ih i hx
theorem flat_len {α : Type} (f : α → List Value) (sz : Nat) (hf : ∀ x, (f x).length = sz) (l : List α) : (l.flatMap f).length = l.length * sz := by
  induction l with
  | nil => simp
  | cons y l ih => rw [List.flatMap_cons, List.length_append, hf, ih, List.length_cons, Nat.add_mul]; omega
end Go.Proofs.Ytokdjonnblbegaa
