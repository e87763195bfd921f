/- Contracts of package stat. -/
import Derived.Test.YtjblgamngnnccaaDoorRows
import Derived.Test.YtjblgamngnnccaaDoorInt
import Derived.WalkKit
import Derived.ProofKit
import Derived.OpenShut
import Derived.WalkLawsBesides
import Derived.WalkSpells
import Derived.Lib.Hide
namespace Go.Proofs.YtjblgamngnnccaaDoor
open Go.RowKit
set_option linter.unusedVariables false
set_option linter.unusedSimpArgs false

/-- A struct in block x. -/
def StAt (x : Nat) (W : World) (g : Int) (v : Int) (e : Int) (l : Int) (p : Int) (c : Int) : Prop :=
  x < W.heap.size ∧ W.cell? ⟨x, 0, none⟩ = some (.int .i64 g) ∧ W.cell? ⟨x, 1, none⟩ = some (.int .i64 v) ∧ W.cell? ⟨x, 2, none⟩ = some (.int .i64 e) ∧ W.cell? ⟨x, 3, none⟩ = some (.int .i64 l) ∧ W.cell? ⟨x, 4, none⟩ = some (.int .i64 p) ∧ W.cell? ⟨x, 5, none⟩ = some (.int .i64 c) ∧ ∀ o, o < 6 → W.frozen? ⟨x, o, none⟩ = false
theorem StAt.keep {x : Nat} {W W' : World} {g : Int} {v : Int} {e : Int} {l : Int} {p : Int} {c : Int} (h : StAt x W g v e l p c) (hs : W.heap.size ≤ W'.heap.size) (hk : W'.heap[x]? = W.heap[x]?) : StAt x W' g v e l p c := by
  obtain ⟨h0, h1, h2, h3, h4, h5, h6, hf⟩ := h
  have e : ∀ o, W'.cell? ⟨x, o, none⟩ = W.cell? ⟨x, o, none⟩ := fun o => World.cell?_of_block hk
  exact ⟨Nat.lt_of_lt_of_le h0 hs, (e 0).trans h1, (e 1).trans h2, (e 2).trans h3, (e 3).trans h4, (e 4).trans h5, (e 5).trans h6, fun o ho => (World.frozen?_of_block hk).trans (hf o ho)⟩
theorem StAt.below {x : Nat} {W W' : World} {g : Int} {v : Int} {e : Int} {l : Int} {p : Int} {c : Int} (h : StAt x W g v e l p c) (hb : Below W.heap.size W W') : StAt x W' g v e l p c := h.keep hb.size (hb.block x h.1)
theorem StAt.far {x y o : Nat} {W : World} {g : Int} {v : Int} {e : Int} {l : Int} {p : Int} {c : Int} {z : Value} (h : StAt x W g v e l p c) (hn : x ≠ y) : StAt x (W.setCell ⟨y, o, none⟩ z) g v e l p c :=
  h.keep (by simp [World.setCell]) (Below.heap_setCell _ _ _ _ (by simpa using hn))
theorem StAt.new (W : World) (g : Int) (v : Int) (e : Int) (l : Int) (p : Int) (c : Int) (T : TypeId) : StAt W.heap.size (W.alloc (.cells #[.int .i64 g, .int .i64 v, .int .i64 e, .int .i64 l, .int .i64 p, .int .i64 c] T)) g v e l p c := by
  refine ⟨by simp, by simp, by simp, by simp, by simp, by simp, by simp, fun o ho => ?_⟩
  simp
theorem StAt.s0 {x : Nat} {W : World} {g : Int} {v : Int} {e : Int} {l : Int} {p : Int} {c : Int} (h : StAt x W g v e l p c) (g' : Int) : StAt x (W.setCell ⟨x, 0, none⟩ (.int .i64 g')) g' v e l p c := by
  obtain ⟨h0, h1, h2, h3, h4, h5, h6, hf⟩ := h
  exact ⟨by simp [World.setCell]; exact h0, (World.cell?_setCell_same _ _ _ h1), (World.cell?_setCell_other _ _ _ _ (by simp)).trans h2, (World.cell?_setCell_other _ _ _ _ (by simp)).trans h3, (World.cell?_setCell_other _ _ _ _ (by simp)).trans h4, (World.cell?_setCell_other _ _ _ _ (by simp)).trans h5, (World.cell?_setCell_other _ _ _ _ (by simp)).trans h6, fun o ho => by simp [hf o ho]⟩
theorem StAt.s1 {x : Nat} {W : World} {g : Int} {v : Int} {e : Int} {l : Int} {p : Int} {c : Int} (h : StAt x W g v e l p c) (v' : Int) : StAt x (W.setCell ⟨x, 1, none⟩ (.int .i64 v')) g v' e l p c := by
  obtain ⟨h0, h1, h2, h3, h4, h5, h6, hf⟩ := h
  exact ⟨by simp [World.setCell]; exact h0, (World.cell?_setCell_other _ _ _ _ (by simp)).trans h1, (World.cell?_setCell_same _ _ _ h2), (World.cell?_setCell_other _ _ _ _ (by simp)).trans h3, (World.cell?_setCell_other _ _ _ _ (by simp)).trans h4, (World.cell?_setCell_other _ _ _ _ (by simp)).trans h5, (World.cell?_setCell_other _ _ _ _ (by simp)).trans h6, fun o ho => by simp [hf o ho]⟩
theorem StAt.s2 {x : Nat} {W : World} {g : Int} {v : Int} {e : Int} {l : Int} {p : Int} {c : Int} (h : StAt x W g v e l p c) (e' : Int) : StAt x (W.setCell ⟨x, 2, none⟩ (.int .i64 e')) g v e' l p c := by
  obtain ⟨h0, h1, h2, h3, h4, h5, h6, hf⟩ := h
  exact ⟨by simp [World.setCell]; exact h0, (World.cell?_setCell_other _ _ _ _ (by simp)).trans h1, (World.cell?_setCell_other _ _ _ _ (by simp)).trans h2, (World.cell?_setCell_same _ _ _ h3), (World.cell?_setCell_other _ _ _ _ (by simp)).trans h4, (World.cell?_setCell_other _ _ _ _ (by simp)).trans h5, (World.cell?_setCell_other _ _ _ _ (by simp)).trans h6, fun o ho => by simp [hf o ho]⟩
theorem StAt.s3 {x : Nat} {W : World} {g : Int} {v : Int} {e : Int} {l : Int} {p : Int} {c : Int} (h : StAt x W g v e l p c) (l' : Int) : StAt x (W.setCell ⟨x, 3, none⟩ (.int .i64 l')) g v e l' p c := by
  obtain ⟨h0, h1, h2, h3, h4, h5, h6, hf⟩ := h
  exact ⟨by simp [World.setCell]; exact h0, (World.cell?_setCell_other _ _ _ _ (by simp)).trans h1, (World.cell?_setCell_other _ _ _ _ (by simp)).trans h2, (World.cell?_setCell_other _ _ _ _ (by simp)).trans h3, (World.cell?_setCell_same _ _ _ h4), (World.cell?_setCell_other _ _ _ _ (by simp)).trans h5, (World.cell?_setCell_other _ _ _ _ (by simp)).trans h6, fun o ho => by simp [hf o ho]⟩
theorem StAt.s4 {x : Nat} {W : World} {g : Int} {v : Int} {e : Int} {l : Int} {p : Int} {c : Int} (h : StAt x W g v e l p c) (p' : Int) : StAt x (W.setCell ⟨x, 4, none⟩ (.int .i64 p')) g v e l p' c := by
  obtain ⟨h0, h1, h2, h3, h4, h5, h6, hf⟩ := h
  exact ⟨by simp [World.setCell]; exact h0, (World.cell?_setCell_other _ _ _ _ (by simp)).trans h1, (World.cell?_setCell_other _ _ _ _ (by simp)).trans h2, (World.cell?_setCell_other _ _ _ _ (by simp)).trans h3, (World.cell?_setCell_other _ _ _ _ (by simp)).trans h4, (World.cell?_setCell_same _ _ _ h5), (World.cell?_setCell_other _ _ _ _ (by simp)).trans h6, fun o ho => by simp [hf o ho]⟩
theorem StAt.s5 {x : Nat} {W : World} {g : Int} {v : Int} {e : Int} {l : Int} {p : Int} {c : Int} (h : StAt x W g v e l p c) (c' : Int) : StAt x (W.setCell ⟨x, 5, none⟩ (.int .i64 c')) g v e l p c' := by
  obtain ⟨h0, h1, h2, h3, h4, h5, h6, hf⟩ := h
  exact ⟨by simp [World.setCell]; exact h0, (World.cell?_setCell_other _ _ _ _ (by simp)).trans h1, (World.cell?_setCell_other _ _ _ _ (by simp)).trans h2, (World.cell?_setCell_other _ _ _ _ (by simp)).trans h3, (World.cell?_setCell_other _ _ _ _ (by simp)).trans h4, (World.cell?_setCell_other _ _ _ _ (by simp)).trans h5, (World.cell?_setCell_same _ _ _ h6), fun o ho => by simp [hf o ho]⟩
theorem st_store {x : Nat} {W : World} {g v e l p c : Int} (h : StAt x W g v e l p c) (g' v' e' l' p' c' : Int) :
    ∃ W', (((((W.setCell ⟨x, 0, none⟩ (.int .i64 g')).setCell ⟨x, 1, none⟩ (.int .i64 v')).setCell ⟨x, 2, none⟩ (.int .i64 e')).setCell ⟨x, 3, none⟩ (.int .i64 l')).setCell ⟨x, 4, none⟩ (.int .i64 p')).setCell ⟨x, 5, none⟩ (.int .i64 c') = W' ∧ StAt x W' g' v' e' l' p' c' ∧ Below x W W' ∧ (∀ i, i ≠ x → W'.heap[i]? = W.heap[i]?) ∧ W'.heap.size = W.heap.size := by
  refine ⟨_, rfl, (((((h.s0 g').s1 v').s2 e').s3 l').s4 p').s5 c', ((((((Below.refl _ _).setCell (Nat.le_refl x) _).setCell (Nat.le_refl x) _).setCell (Nat.le_refl x) _).setCell (Nat.le_refl x) _).setCell (Nat.le_refl x) _).setCell (Nat.le_refl x) _, fun i hi => ?_, by simp [World.setCell]⟩
  have hx : ∀ (W0 : World) (o : Nat) (u : Value), (W0.setCell ⟨x, o, none⟩ u).heap[i]? = W0.heap[i]? := fun W0 o u => Below.heap_setCell _ _ _ _ (by simpa using hi)
  simp only [hx]
theorem get_is (g v e l p c n M P : Int) (W : World) (hg : 0 ≤ g ∧ g ≤ 100000000) (hv : 0 ≤ v ∧ v ≤ 100000000) (he : 0 ≤ e ∧ e ≤ 100000000) (hl : 0 ≤ l ∧ l ≤ 100000000) (hp : 0 ≤ p ∧ p ≤ 100000000) (hc : 0 ≤ c ∧ c ≤ 100000000) (hn : -10 ≤ n ∧ n ≤ 100000) (hM : (n < 0 ∧ M = 0) ∨ (0 ≤ n ∧ M = n)) (hP : (p < l + M ∧ l + M = P) ∨ (l + M ≤ p ∧ p = P)) :
    Calls Tryd.prog 7 #[.agg #[.int .i64 g, .int .i64 v, .int .i64 e, .int .i64 l, .int .i64 p, .int .i64 c], .int .i64 n] W fun e' w' => e' = .returned (.agg #[.int .i64 (g + 1), .int .i64 v, .int .i64 e, .int .i64 (l + M), .int .i64 P, .int .i64 c]) ∧ Below W.heap.size W w' := by
  obtain ⟨g0, g1⟩ := hg
  obtain ⟨v0, v1⟩ := hv
  obtain ⟨e0, e1⟩ := he
  obtain ⟨l0, l1⟩ := hl
  obtain ⟨p0, p1⟩ := hp
  obtain ⟨c0, c1⟩ := hc
  obtain ⟨n0, n1⟩ := hn
  rcases hM with ⟨hM, rfl⟩ | ⟨hM, rfl⟩
  · simp only [Int.add_zero] at hP ⊢
    rcases hP with ⟨hP, rfl⟩ | ⟨hP, rfl⟩
    · go_enter Tryd.func7, Tryd.ntmps7
      go_wp2
      refine bodyPost_ret (v := .agg #[.int .i64 (g + 1), .int .i64 v, .int .i64 e, .int .i64 l, .int .i64 l, .int .i64 c]) (by simp [results, Tryd.results7, go_sem]) rfl ⟨rfl, ?_⟩
      exact alc (alc0 _ _) _
    · have hP2 : ¬ p < l := by omega
      go_enter Tryd.func7, Tryd.ntmps7
      go_wp2
      refine bodyPost_ret (v := .agg #[.int .i64 (g + 1), .int .i64 v, .int .i64 e, .int .i64 l, .int .i64 p, .int .i64 c]) (by simp [results, Tryd.results7, go_sem]) rfl ⟨rfl, ?_⟩
      exact alc (alc0 _ _) _
  · have hM2 : ¬ M < 0 := by omega
    rcases hP with ⟨hP, rfl⟩ | ⟨hP, rfl⟩
    · go_enter Tryd.func7, Tryd.ntmps7
      go_wp2
      refine bodyPost_ret (v := .agg #[.int .i64 (g + 1), .int .i64 v, .int .i64 e, .int .i64 (l + M), .int .i64 (l + M), .int .i64 c]) (by simp [results, Tryd.results7, go_sem]) rfl ⟨rfl, ?_⟩
      exact alc (alc0 _ _) _
    · have hP2 : ¬ p < l + M := by omega
      go_enter Tryd.func7, Tryd.ntmps7
      go_wp2
      refine bodyPost_ret (v := .agg #[.int .i64 (g + 1), .int .i64 v, .int .i64 e, .int .i64 (l + M), .int .i64 p, .int .i64 c]) (by simp [results, Tryd.results7, go_sem]) rfl ⟨rfl, ?_⟩
      exact alc (alc0 _ _) _
theorem give_is (g v e l p c n : Int) (W : World) (hg : 0 ≤ g ∧ g ≤ 100000000) (hv : 0 ≤ v ∧ v ≤ 100000000) (he : 0 ≤ e ∧ e ≤ 100000000) (hl : 0 ≤ l ∧ l ≤ 100000000) (hp : 0 ≤ p ∧ p ≤ 100000000) (hc : 0 ≤ c ∧ c ≤ 100000000) (hn : 0 ≤ n ∧ n ≤ 100000) :
    Calls Tryd.prog 8 #[.agg #[.int .i64 g, .int .i64 v, .int .i64 e, .int .i64 l, .int .i64 p, .int .i64 c], .int .i64 n] W fun e' w' => e' = .returned (.agg #[.int .i64 g, .int .i64 (v + 1), .int .i64 e, .int .i64 (l - n), .int .i64 p, .int .i64 c]) ∧ Below W.heap.size W w' := by
  obtain ⟨g0, g1⟩ := hg
  obtain ⟨v0, v1⟩ := hv
  obtain ⟨e0, e1⟩ := he
  obtain ⟨l0, l1⟩ := hl
  obtain ⟨p0, p1⟩ := hp
  obtain ⟨c0, c1⟩ := hc
  obtain ⟨n0, n1⟩ := hn
  have hM2 : ¬ n < 0 := by omega
  go_enter Tryd.func8, Tryd.ntmps8
  go_wp2
  refine bodyPost_ret (v := .agg #[.int .i64 g, .int .i64 (v + 1), .int .i64 e, .int .i64 (l - n), .int .i64 p, .int .i64 c]) (by simp [results, Tryd.results8, go_sem]) rfl ⟨rfl, ?_⟩
  exact alc (alc0 _ _) _
theorem end_is (g v e l p c : Int) (W : World) (hg : 0 ≤ g ∧ g ≤ 100000000) (hv : 0 ≤ v ∧ v ≤ 100000000) (he : 0 ≤ e ∧ e ≤ 100000000) (hl : 0 ≤ l ∧ l ≤ 100000000) (hp : 0 ≤ p ∧ p ≤ 100000000) (hc : 0 ≤ c ∧ c ≤ 100000000) :
    Calls Tryd.prog 9 #[.agg #[.int .i64 g, .int .i64 v, .int .i64 e, .int .i64 l, .int .i64 p, .int .i64 c]] W fun e' w' => e' = .returned (.agg #[.int .i64 g, .int .i64 v, .int .i64 (e + 1), .int .i64 l, .int .i64 p, .int .i64 c]) ∧ Below W.heap.size W w' := by
  obtain ⟨g0, g1⟩ := hg
  obtain ⟨v0, v1⟩ := hv
  obtain ⟨e0, e1⟩ := he
  obtain ⟨l0, l1⟩ := hl
  obtain ⟨p0, p1⟩ := hp
  obtain ⟨c0, c1⟩ := hc
  go_enter Tryd.func9, Tryd.ntmps9
  go_wp2
  refine bodyPost_ret (v := .agg #[.int .i64 g, .int .i64 v, .int .i64 (e + 1), .int .i64 l, .int .i64 p, .int .i64 c]) (by simp [results, Tryd.results9, go_sem]) rfl ⟨rfl, ?_⟩
  exact alc (alc0 _ _) _
theorem clear_is (g v e l p c n M : Int) (W : World) (hg : 0 ≤ g ∧ g ≤ 100000000) (hv : 0 ≤ v ∧ v ≤ 100000000) (he : 0 ≤ e ∧ e ≤ 100000000) (hl : 0 ≤ l ∧ l ≤ 100000000) (hp : 0 ≤ p ∧ p ≤ 100000000) (hc : 0 ≤ c ∧ c ≤ 100000000) (hn : -10 ≤ n ∧ n ≤ 100000) (hM : (n < 0 ∧ M = 0) ∨ (0 ≤ n ∧ M = n)) :
    Calls Tryd.prog 10 #[.agg #[.int .i64 g, .int .i64 v, .int .i64 e, .int .i64 l, .int .i64 p, .int .i64 c], .int .i64 n] W fun e' w' => e' = .returned (.agg #[.int .i64 g, .int .i64 v, .int .i64 e, .int .i64 l, .int .i64 p, .int .i64 (c + M)]) ∧ Below W.heap.size W w' := by
  obtain ⟨g0, g1⟩ := hg
  obtain ⟨v0, v1⟩ := hv
  obtain ⟨e0, e1⟩ := he
  obtain ⟨l0, l1⟩ := hl
  obtain ⟨p0, p1⟩ := hp
  obtain ⟨c0, c1⟩ := hc
  obtain ⟨n0, n1⟩ := hn
  rcases hM with ⟨hM, rfl⟩ | ⟨hM, rfl⟩
  · simp only [Int.add_zero]
    go_enter Tryd.func10, Tryd.ntmps10
    go_wp2
    refine bodyPost_ret (v := .agg #[.int .i64 g, .int .i64 v, .int .i64 e, .int .i64 l, .int .i64 p, .int .i64 c]) (by simp [results, Tryd.results10, go_sem]) rfl ⟨rfl, ?_⟩
    exact alc (alc0 _ _) _
  · have hM2 : ¬ M < 0 := by omega
    go_enter Tryd.func10, Tryd.ntmps10
    go_wp2
    refine bodyPost_ret (v := .agg #[.int .i64 g, .int .i64 v, .int .i64 e, .int .i64 l, .int .i64 p, .int .i64 (c + M)]) (by simp [results, Tryd.results10, go_sem]) rfl ⟨rfl, ?_⟩
    exact alc (alc0 _ _) _
theorem live_is (g v e l p c : Int) (W : World) (hg : 0 ≤ g ∧ g ≤ 100000000) (hv : 0 ≤ v ∧ v ≤ 100000000) (he : 0 ≤ e ∧ e ≤ 100000000) (hl : 0 ≤ l ∧ l ≤ 100000000) (hp : 0 ≤ p ∧ p ≤ 100000000) (hc : 0 ≤ c ∧ c ≤ 100000000) :
    Calls Tryd.prog 12 #[.agg #[.int .i64 g, .int .i64 v, .int .i64 e, .int .i64 l, .int .i64 p, .int .i64 c]] W fun e' w' => e' = .returned (.int .i64 (g - v)) ∧ Below W.heap.size W w' := by
  obtain ⟨g0, g1⟩ := hg
  obtain ⟨v0, v1⟩ := hv
  obtain ⟨e0, e1⟩ := he
  obtain ⟨l0, l1⟩ := hl
  obtain ⟨p0, p1⟩ := hp
  obtain ⟨c0, c1⟩ := hc
  go_enter Tryd.func12, Tryd.ntmps12
  go_wp2
  go_ret
  exact ⟨rfl, alc0 _ _⟩
theorem held_is (g v e l p c : Int) (W : World) (hg : 0 ≤ g ∧ g ≤ 100000000) (hv : 0 ≤ v ∧ v ≤ 100000000) (he : 0 ≤ e ∧ e ≤ 100000000) (hl : 0 ≤ l ∧ l ≤ 100000000) (hp : 0 ≤ p ∧ p ≤ 100000000) (hc : 0 ≤ c ∧ c ≤ 100000000) :
    Calls Tryd.prog 13 #[.agg #[.int .i64 g, .int .i64 v, .int .i64 e, .int .i64 l, .int .i64 p, .int .i64 c]] W fun e' w' => e' = .returned (.int .i64 (v - e)) ∧ Below W.heap.size W w' := by
  obtain ⟨g0, g1⟩ := hg
  obtain ⟨v0, v1⟩ := hv
  obtain ⟨e0, e1⟩ := he
  obtain ⟨l0, l1⟩ := hl
  obtain ⟨p0, p1⟩ := hp
  obtain ⟨c0, c1⟩ := hc
  go_enter Tryd.func13, Tryd.ntmps13
  go_wp2
  go_ret
  exact ⟨rfl, alc0 _ _⟩
theorem may_yes (g v e l p c : Int) (W : World) (hg : 0 ≤ g ∧ g ≤ 100000000) (hv : 0 ≤ v ∧ v ≤ 100000000) (he : 0 ≤ e ∧ e ≤ 100000000) (hl : 0 ≤ l ∧ l ≤ 100000000) (hp : 0 ≤ p ∧ p ≤ 100000000) (hc : 0 ≤ c ∧ c ≤ 100000000) (h1 : e ≤ v) (h2 : v ≤ g) (h3 : l ≤ p) :
    Calls Tryd.prog 11 #[.agg #[.int .i64 g, .int .i64 v, .int .i64 e, .int .i64 l, .int .i64 p, .int .i64 c]] W fun e' w' => e' = .returned (.bool true) ∧ Below W.heap.size W w' := by
  obtain ⟨g0, g1⟩ := hg
  obtain ⟨v0, v1⟩ := hv
  obtain ⟨e0, e1⟩ := he
  obtain ⟨l0, l1⟩ := hl
  obtain ⟨p0, p1⟩ := hp
  obtain ⟨c0, c1⟩ := hc
  go_enter Tryd.func11, Tryd.ntmps11
  go_wp2
  go_ret
  exact ⟨rfl, alc0 _ _⟩
end Go.Proofs.YtjblgamngnnccaaDoor
