/- StorePlays: the store beside the array. -/
import Derived.Test.YtodekehpaoahnaaSoT
namespace Go.Proofs.Ytodekehpaoahnaa
open Go.RowKit Go.ChangeShapes Go.WideShapes Go.Deep
set_option linter.unusedVariables false
set_option linter.unusedSimpArgs false

/-- The store at g holds c (bytes; noughts from 1024 on), and block M is none of its own. -/
def PL (W : World) (g M : Nat) (w : World) (c : Nat → Nat) : Prop :=
  ∃ b l, STL W.heap.size g b w l c ∧ (M ≠ g ∧ M ≠ b ∧ (∀ pq ∈ l, pq.2 ≠ M) ∧ M < w.heap.size ∧ ∀ o, w.frozen? ⟨M, o, none⟩ = false) ∧ (∀ x, c x < 256) ∧ (∀ x, 1024 ≤ x → c x = 0) ∧ Below W.heap.size W w
theorem PL.st {W : World} {g M : Nat} {w : World} {c : Nat → Nat} (h : PL W g M w c) : ST W.heap.size g w c := by
  obtain ⟨b, l, h, _⟩ := h
  exact ⟨b, l, h⟩
theorem PL.below {W : World} {g M : Nat} {w w' : World} {c : Nat → Nat} (h : PL W g M w c) (hb : Below w.heap.size w w') : PL W g M w' c ∧ w'.heap[M]? = w.heap[M]? := by
  obtain ⟨b, l, hs, ⟨m1, m2, m3, m4, m5⟩, h1, h2, h3⟩ := h
  exact ⟨⟨b, l, hs.below hb, ⟨m1, m2, m3, Nat.lt_of_lt_of_le m4 hb.size, fun o => (World.frozen?_of_block (hb.block M m4)).trans (m5 o)⟩, h1, h2, thn h3 hb⟩, hb.block M m4⟩
theorem PL.next {W : World} {g M b : Nat} {w w' : World} {l l' : List (Nat × Nat)} {c c' : Nat → Nat} (hs : STL W.heap.size g b w l c) (hm : M ≠ g ∧ M ≠ b ∧ (∀ pq ∈ l, pq.2 ≠ M) ∧ M < w.heap.size ∧ ∀ o, w.frozen? ⟨M, o, none⟩ = false) (hW : Below W.heap.size W w)
    (hs' : STL W.heap.size g b w' l' c') (hf : FR b l w w' l') (hz : w.heap.size ≤ w'.heap.size) (hb : Below W.heap.size w w') (h1 : ∀ x, c' x < 256) (h2 : ∀ x, 1024 ≤ x → c' x = 0) : PL W g M w' c' ∧ w'.heap[M]? = w.heap[M]? := by
  obtain ⟨m1, m2, m3, m4, m5⟩ := hm
  have e := hf.2 M m4 m2 m3
  refine ⟨⟨b, l', hs', ⟨m1, m2, fun pq hpq => ?_, Nat.lt_of_lt_of_le m4 hz, fun o => (World.frozen?_of_block e).trans (m5 o)⟩, h1, h2, hW.trans hb⟩, e⟩
  rcases hf.1 pq hpq with h | h
  · exact m3 pq h
  · omega
theorem over_lt {c d : Nat → Nat} (hc : ∀ x, c x < 256) (hd : ∀ x, d x < 256) (a n : Nat) : ∀ x, over c a n d x < 256 := fun x => by
  simp only [over]
  split
  · exact hd _
  · exact hc _
theorem over_z {c d : Nat → Nat} (hc : ∀ x, 1024 ≤ x → c x = 0) (a n : Nat) (h : a + n ≤ 1024) : ∀ x, 1024 ≤ x → over c a n d x = 0 := fun x hx => by
  simp only [over]
  rw [if_neg (by omega)]
  exact hc x hx
theorem pl_put (W : World) (g M : Nat) (w : World) (c : Nat → Nat) (h : PL W g M w c) (a x : Nat) (ha : a < 1024) (hx : x < 256) : Calls Try.prog 6 #[.pointer (some ⟨g, 0, none⟩), .int .i64 (a : Int), .int .u8 (x : Int)] w fun e w' => e = .returned (.bool true) ∧ PL W g M w' (over c a 1 (fun _ => x)) ∧ w'.heap[M]? = w.heap[M]? := by
  obtain ⟨b, l, hs, hm, h1, h2, h3⟩ := h
  exact (sputL W.heap.size g b w l c hs a x (by omega)).mono fun e w' ⟨⟨he, l', hs', hf⟩, hz, hb⟩ => ⟨he, PL.next hs hm h3 hs' hf hz hb (over_lt h1 (fun _ => hx) a 1) (over_z h2 a 1 (by omega))⟩
theorem pl_write (W : World) (g M : Nat) (w : World) (c d : Nat → Nat) (h : PL W g M w c) (a n : Nat) (A : Option Addr) (cb : Nat) (ha : a + n ≤ 1024) (ha2 : a < 1024) (hb0 : BS W A n cb d) : Calls Try.prog 7 #[.pointer (some ⟨g, 0, none⟩), .int .i64 (a : Int), .slice A n cb] w fun e w' => e = .returned (.bool (decide (0 < n))) ∧ PL W g M w' (over c a n d) ∧ w'.heap[M]? = w.heap[M]? := by
  by_cases hn : 0 < n
  · obtain ⟨h0 | ⟨sb, so, rfl, hsb, hcell⟩, hcb, hd⟩ := hb0
    · omega
    · obtain ⟨b, l, hs, hm, h1, h2, h3⟩ := h
      rw [decide_eq_true hn]
      exact (swriteL W.heap.size g b w l c d hs a n sb so cb hn (by omega) hcb (fun i hi => (h3.cell (p := ⟨sb, so + i, none⟩) hsb).trans (hcell i hi)) (fun pq hpq => by have := (hs.2.2.2.1 pq hpq).2.2.1; omega)).mono fun e w' ⟨⟨he, l', hs', hf⟩, hz, hb⟩ => ⟨he, PL.next hs hm h3 hs' hf hz hb (over_lt h1 hd a n) (over_z h2 a n ha)⟩
  · obtain rfl : n = 0 := by omega
    rw [over_none]
    exact (swrite_no _ (a : Int) A 0 cb w (.inr (by rw [mayB_false]; omega))).mono fun e w' ⟨he, hb⟩ => ⟨by simpa using he, h.below hb⟩
theorem pl_fill (W : World) (g M : Nat) (w : World) (c : Nat → Nat) (h : PL W g M w c) (a n x : Nat) (ha : a + n ≤ 1024) (ha2 : a < 1024) (hx : x < 256) : Calls Try.prog 8 #[.pointer (some ⟨g, 0, none⟩), .int .i64 (a : Int), .int .i64 (n : Int), .int .u8 (x : Int)] w fun e w' => e = .returned (.bool (decide (0 < n))) ∧ PL W g M w' (over c a n (fun _ => x)) ∧ w'.heap[M]? = w.heap[M]? := by
  by_cases hn : 0 < n
  · obtain ⟨b, l, hs, hm, h1, h2, h3⟩ := h
    rw [decide_eq_true hn]
    exact (sfillL W.heap.size g b w l c hs a n x hn (by omega)).mono fun e w' ⟨⟨he, l', hs', hf⟩, hz, hb⟩ => ⟨he, PL.next hs hm h3 hs' hf hz hb (over_lt h1 (fun _ => hx) a n) (over_z h2 a n ha)⟩
  · obtain rfl : n = 0 := by omega
    rw [over_none]
    exact (sfill_no _ (a : Int) ((0 : Nat) : Int) x w (.inr (by rw [mayB_false]; omega))).mono fun e w' ⟨he, hb⟩ => ⟨by simpa using he, h.below hb⟩
theorem pl_set (W : World) (g M : Nat) (w : World) (c : Nat → Nat) (h : PL W g M w c) (a n : Nat) (ha : a ≤ 1016) (hn : n < 18446744073709551616) : Calls Try.prog 9 #[.pointer (some ⟨g, 0, none⟩), .int .i64 (a : Int), .int .u64 (n : Int)] w fun e w' => e = .returned (.bool true) ∧ PL W g M w' (over c a 8 (wb n)) ∧ w'.heap[M]? = w.heap[M]? := by
  obtain ⟨b, l, hs, hm, h1, h2, h3⟩ := h
  exact (ssetL W.heap.size g b w l c hs a n hn (by omega)).mono fun e w' ⟨⟨he, l', hs', hf⟩, hz, hb⟩ => ⟨he, PL.next hs hm h3 hs' hf hz hb (over_lt h1 (fun x => Nat.mod_lt _ (by decide)) a 8) (over_z h2 a 8 (by omega))⟩
theorem drop_over (c : Nat → Nat) (P : Nat) : drop c P = over c (P * 256) 256 (fun _ => 0) := by
  funext x
  simp only [drop, over]
  by_cases h : x / 256 = P
  · rw [if_pos h, if_pos (by omega)]
  · rw [if_neg h, if_neg (by omega)]
theorem pl_drop (W : World) (g M : Nat) (w : World) (c : Nat → Nat) (h : PL W g M w c) (P : Nat) (hP : P < 4) : Calls Try.prog 11 #[.pointer (some ⟨g, 0, none⟩), .int .i64 (P : Int)] w fun e w' => e = .returned (.tuple #[]) ∧ PL W g M w' (over c (P * 256) 256 (fun _ => 0)) ∧ w'.heap[M]? = w.heap[M]? := by
  obtain ⟨b, l, hs, hm, h1, h2, h3⟩ := h
  rw [← drop_over]
  have e := drop_over c P
  exact (sdropL W.heap.size g b w l c hs P (by omega)).mono fun e' w' ⟨⟨he, l', hs', hf⟩, hz, hb⟩ => ⟨he, PL.next hs hm h3 hs' hf hz hb (by rw [e]; exact over_lt h1 (fun _ => Nat.zero_lt_succ 255) _ _) (by rw [e]; exact over_z h2 _ _ (by omega))⟩
end Go.Proofs.Ytodekehpaoahnaa
