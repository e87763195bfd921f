/- A slice of integers that is appended to, and cut at its head. -/
import Derived.Test.YtljjcomedjdpaaaDoorInt
import Derived.Test.YtljjcomedjdpaaaDoorInts0
import Derived.ArgAppend
import Derived.Laws.AppendOwnNone
import Derived.Deep.MidRow
import Derived.Deep.Upon
namespace Go.Proofs.YtljjcomedjdpaaaDoor
set_option maxRecDepth 100000
open Go.RowKit
set_option linter.unusedVariables false
set_option linter.unusedSimpArgs false

theorem heap_otherZ (W : World) (g o : Nat) (v : Value) (i : Nat) (h : i ≠ g) : (W.setCell ⟨g, o, none⟩ v).heap[i]? = W.heap[i]? := Below.heap_setCell W ⟨g, o, none⟩ v i h
theorem size_setZ (W : World) (p : Addr) (v : Value) : (W.setCell p v).heap.size = W.heap.size := by simp [World.setCell]
theorem addpZ (b off : Nat) (i : Nat) : (⟨b, off, none⟩ : Addr).add i = ⟨b, off + i, none⟩ := by unfold Addr.add; split <;> simp_all


theorem infoIntD : (Tryd.prog.info? 3).map (fun i => (i.zero, i.size, i.bytes)) = some (some (.int .i64 0), 1, 8) := by kernel_rfl
/-- What a clone is: a row of its own. -/
def RowB (b : Nat) (W : World) (v : Value) (n : Nat) (zs : List Int) : Prop :=
  ∃ A c, v = .slice A n c ∧ zs.length = n ∧ n ≤ c ∧ c ≤ 9223372036854775807 ∧
    ((A = none ∧ n = 0 ∧ c = 0) ∨ (A = some ⟨b, 0, none⟩ ∧ b < W.heap.size ∧ (∀ i, i < n → W.cell? ⟨b, i, none⟩ = some (.int .i64 (zs.getD i 0))) ∧ ∀ i, i < c → (W.cell? ⟨b, i, none⟩).isSome = true ∧ W.frozen? ⟨b, i, none⟩ = false))
theorem rowB_of {W : World} {B E n : Nat} {v : Value} {zs : List Int} (hl : zs.length = n) (h : W.ownsRow B E 1 v n (zs.map (Value.int .i64))) : ∃ b, B ≤ b ∧ RowB b W v n zs := by
  rcases h.2 with ⟨rfl, rfl⟩ | ⟨g, cap, cur, rfl, hg, hh, hc, hm, hcur, _⟩
  · exact ⟨B, Nat.le_refl _, none, 0, rfl, hl, Nat.le_refl _, by omega, .inl ⟨rfl, rfl, rfl⟩⟩
  · refine ⟨g, hg, _, cap, rfl, hl, hc, by unfold maxLen at hm; omega, .inr ⟨rfl, (h.lt g rfl).2, fun i hi => ?_, fun i hi => ⟨?_, by simp [World.frozen?, hh]⟩⟩⟩
    · have := h.cells (g := g) rfl i (.int .i64 (zs.getD i 0)) (by simp [List.getD, List.getElem?_eq_getElem (show i < zs.length by omega)])
      rw [addpZ] at this
      simpa using this
    · have hsz : i < cur.size := by omega
      rw [cell_of_row W g i cur _ (0, 0) hh, Array.getElem?_eq_getElem hsz]; rfl
theorem ints_news {w : World} {ad : Addr} {m : Nat} {ys : List Int} (h : Ints .i64 w (some ad) m ys) : ∀ j u, (ys.map (Value.int .i64))[j]? = some u → w.cell? (ad.add j) = some u := by
  intro j u hu
  have hjl := (List.getElem?_eq_some_iff.1 hu).1
  simp only [List.length_map] at hjl
  obtain ⟨hl, h0 | ⟨b, off, e, hlt, _, hc⟩⟩ := h
  · omega
  · injection e with e
    subst e
    rw [addpZ, hc j (by omega)]
    rw [List.getElem?_map] at hu
    simp only [List.getD_eq_getElem?_getD]
    cases hz : ys[j]? with
    | none => rw [hz] at hu; cases hu
    | some y => rw [hz] at hu; simpa using hu
theorem ints_one_cell (ys : List Int) : ∀ u ∈ ys.map (Value.int .i64), u.oneCell' = true := by
  intro u hu; obtain ⟨x, _, rfl⟩ := List.mem_map.1 hu; rfl
theorem setCells_below (L b : Nat) (hL : L ≤ b) : ∀ (vs : List Value) (o : Nat) (a w : World), Below L a w → Below L a (w.setCells b o vs)
  | [], _, _, _, h => h
  | v :: r, o, a, w, h => setCells_below L b hL r (o + 1) a _ (h.setCell hL v)
theorem rowB_of2 {W : World} {B n : Nat} {v : Value} {zs : List Int} (hl : zs.length = n) (hn : 0 < n) (h : W.ownsRow B 3 1 v n (zs.map (Value.int .i64))) : ∃ b, B ≤ b ∧ b < W.heap.size ∧ RowB b W v n zs := by
  obtain ⟨b, hB, hR⟩ := rowB_of hl h
  obtain ⟨A, c, e, h1, h2, h3, ⟨_, h4, _⟩ | ⟨_, h4, _⟩⟩ := hR
  · omega
  · exact ⟨b, hB, h4, A, c, e, h1, h2, h3, .inr ⟨by assumption, h4, by assumption⟩⟩
theorem own_shape {w : World} {B E n : Nat} {v : Value} {l : List Value} (h : w.ownsRow B E 1 v n l) : ∃ A c, v = .slice A n c := by
  rcases h.2 with ⟨rfl, rfl⟩ | ⟨g, cap, cur, rfl, _⟩
  · exact ⟨none, 0, rfl⟩
  · exact ⟨_, cap, rfl⟩
/-- A slice of integers, in block b, with room behind it that may be written. -/
def ZB (b : Nat) (W : World) (v : Value) (zs : List Int) : Prop :=
  ∃ A n c, v = .slice A n c ∧ zs.length = n ∧ n ≤ c ∧ c ≤ 9223372036854775807 ∧
    ((A = none ∧ n = 0 ∧ c = 0) ∨ ∃ off, A = some ⟨b, off, none⟩ ∧ b < W.heap.size ∧ (∀ i, i < n → W.cell? ⟨b, off + i, none⟩ = some (.int .i64 (zs.getD i 0))) ∧ ∀ i, i < c → (W.cell? ⟨b, off + i, none⟩).isSome = true ∧ W.frozen? ⟨b, off + i, none⟩ = false)
theorem ZB.keep {b : Nat} {W W' : World} {v : Value} {zs : List Int} (h : ZB b W v zs) (hs : W.heap.size ≤ W'.heap.size) (hb : b < W.heap.size → W'.heap[b]? = W.heap[b]?) : ZB b W' v zs := by
  obtain ⟨A, n, c, e, h1, h2, h3, h | ⟨off, e2, hl, hc, hsp⟩⟩ := h
  · exact ⟨A, n, c, e, h1, h2, h3, .inl h⟩
  · have hb := hb hl
    exact ⟨A, n, c, e, h1, h2, h3, .inr ⟨off, e2, Nat.lt_of_lt_of_le hl hs, fun i hi => (World.cell?_of_block hb).trans (hc i hi), fun i hi => ⟨by rw [World.cell?_of_block hb]; exact (hsp i hi).1, (World.frozen?_of_block hb).trans (hsp i hi).2⟩⟩⟩
theorem ZB.below {b : Nat} {W W' : World} {v : Value} {zs : List Int} (h : ZB b W v zs) (hb : Below W.heap.size W W') : ZB b W' v zs := h.keep hb.size (hb.block b)
def ZPost (b : Nat) (W : World) (zs : List Int) (x : Int) (v' : Value) (w' : World) : Prop :=
  ∃ b', (b' = b ∨ W.heap.size ≤ b') ∧ ZB b' w' v' (zs ++ [x]) ∧ W.heap.size ≤ w'.heap.size ∧ (∀ i, i < W.heap.size → i ≠ b → w'.heap[i]? = W.heap[i]?) ∧ ∀ L, L ≤ b → L ≤ W.heap.size → Below L W w'
/-- Appending one integer, that lies in a block of its own. -/
theorem app_zb {ops : Array Oper} {rest : List Oper} {o : Oper} {a : Act} {Q : Exit → Act → World → Prop} {W : World} (hgd : o.guard = none) (s y : Operand)
    (ho : o.op = .call { callee := .builtin .append, args := #[s, y], argTypes := #[86, 86] })
    (b : Nat) (v : Value) (zs : List Int) (hs : a.eval s = v) (hz : ZB b W v zs) (x : Int) (q c2 : Nat) (hy : a.eval y = .slice (some ⟨q, 0, none⟩) 1 c2) (hq : W.cell? ⟨q, 0, none⟩ = some (.int .i64 x)) (hl : zs.length ≤ 1000)
    (h : ∀ v' w', ZPost b W zs x v' w' → wpList Tryd.prog ops Q rest (a.put o.dst v') w') :
    wpList Tryd.prog ops Q (o :: rest) a W := by
  obtain ⟨i0, hi, hz0, hz1, hz2⟩ := info_parts infoIntD
  obtain ⟨A, n, c, rfl, hl1, hn, hc, hz⟩ := hz
  have hI : Ints .i64 W (some ⟨q, 0, none⟩) 1 [x] := by
    refine ⟨rfl, .inr ⟨q, 0, rfl, World.block_lt_of_cell? W _ hq, by omega, fun i hi => ?_⟩⟩
    obtain rfl : i = 0 := by omega
    exact hq
  have hgrow : ∀ v' w2, w2.ownsRow W.heap.size 3 1 v' (n + 1) ((zs ++ [x]).map (Value.int .i64)) → W.grownBy w2 none → ZPost b W zs x v' w2 := by
    intro v' w2 hown hg
    obtain ⟨b', hb', hbs, A', c', rfl, g1, g2, g3, g4⟩ := rowB_of2 (by simpa using hl1) (by omega) hown
    refine ⟨b', .inr hb', ⟨A', n + 1, c', rfl, g1, g2, g3, ?_⟩, hg.size, fun i hi _ => hg.block i hi (by simp), fun L _ hL => (Below.refl L W).grown hg hL (by simp)⟩
    rcases g4 with h | ⟨e, q1, q2, q3⟩
    · exact .inl h
    · exact .inr ⟨0, e, q1, fun i hi => by rw [Nat.zero_add]; exact q2 i hi, fun i hi => by rw [Nat.zero_add]; exact q3 i hi⟩
  rcases hz with ⟨rfl, rfl, rfl⟩ | ⟨off, rfl, b1, hcell, hsp⟩
  · obtain rfl : zs = [] := List.length_eq_zero_iff.1 hl1
    refine wpList_append_grows W hgd s y 86 ho 3 i0 (.int .i64 0) 1 8 Tryd.underlying86 hi hz0 hz1 hz2 rfl (by decide) none 0 0 [] hs (fun _ => ⟨rfl, rfl⟩) rfl (by simp) ⟨q, 0, none⟩ 1 c2 ([x].map (Value.int .i64)) hy rfl (ints_news hI) (ints_one_cell _) (by omega) (by unfold maxLen; omega) (by omega) ?_
    intro v' w2 hown hg
    exact h v' w2 (hgrow v' w2 (by simpa using hown) hg)
  · refine wpList_append_arg W hgd s y 86 ho 3 i0 (.int .i64 0) 1 8 Tryd.underlying86 hi hz0 hz1 hz2 rfl (by decide) b off n c (zs.map (Value.int .i64)) hs (by simp [hl1]) (fun j u hu => by simpa [addpZ] using ints_news (w := W) (ad := ⟨b, off, none⟩) (m := n) (ys := zs) ⟨hl1, .inr ⟨b, off, rfl, b1, by omega, hcell⟩⟩ j u hu) ⟨q, 0, none⟩ 1 c2 ([x].map (Value.int .i64)) hy rfl (ints_news hI) (ints_one_cell _) ?_ (by unfold maxLen; omega) (by omega) ?_ ?_
    · intro hr j hj
      simp at hj
      subst hj
      have := hsp n (by omega)
      simpa using this
    · intro hr
      refine h _ _ ⟨b, .inl rfl, ⟨_, n + 1, c, rfl, by simp [hl1], hr, hc, .inr ⟨off, rfl, ?_, fun i hi => ?_, fun i hi => ⟨World.isSome_setCells b _ _ _ _ (hsp i hi).1, by rw [World.frozen?_setCells]; exact (hsp i hi).2⟩⟩⟩, (setCells_below b b (Nat.le_refl _) _ _ W W (Below.refl _ _)).size, fun i hi hne => World.heap_setCells_other W b _ _ hi hne, fun L hL _ => setCells_below L b hL _ _ W W (Below.refl _ _)⟩
      · exact Nat.lt_of_lt_of_le b1 (setCells_below b b (Nat.le_refl _) _ _ W W (Below.refl _ _)).size
      · have hin : ∀ j, j < ([x].map (Value.int .i64)).length → (W.cell? ⟨b, (off + n * 1) + j, none⟩).isSome = true := fun j hj => by
          simp at hj; subst hj
          have := (hsp n (by omega)).1
          simpa using this
        by_cases hlt : i < n
        · rw [World.cell?_setCells_out b _ _ W ⟨b, off + i, none⟩ (fun _ _ => by simp; omega), hcell i hlt]
          simp [List.getD_eq_getElem?_getD, List.getElem?_append_left (show i < zs.length by omega)]
        · obtain rfl : i = n := by omega
          have := World.cell?_setCells_in b ([x].map (Value.int .i64)) (off + i * 1) W hin 0 (by simp)
          simp only [Nat.mul_one, Nat.add_zero] at this ⊢
          rw [this]
          simp [List.getD_eq_getElem?_getD, List.getElem?_append_right (show zs.length ≤ i by omega), hl1]
    · intro hr v' w' hown hg
      exact h v' w' (hgrow v' w' (by simpa using hown) hg)
def sumL : List Int → Int
  | [] => 0
  | x :: r => x + sumL r
theorem sumL_snoc (l : List Int) (x : Int) : sumL (l ++ [x]) = sumL l + x := by
  induction l with
  | nil => simp [sumL]
  | cons a l ih => simp only [List.cons_append, sumL, ih]; omega
theorem sumL_bd : ∀ (l : List Int), (∀ z ∈ l, 0 ≤ z ∧ z ≤ 70000) → 0 ≤ sumL l ∧ sumL l ≤ 70000 * l.length
  | [], _ => by simp [sumL]
  | x :: r, h => by
    have h1 := sumL_bd r (fun z hz => h z (by simp [hz]))
    have h2 := h x (by simp)
    simp only [sumL, List.length_cons]
    omega
end Go.Proofs.YtljjcomedjdpaaaDoor
