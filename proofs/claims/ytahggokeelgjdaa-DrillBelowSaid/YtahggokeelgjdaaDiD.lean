/- Dice: things that are done. -/
import Derived.Test.YtahggokeelgjdaaDiC
import Derived.Test.YtahggokeelgjdaaConf
namespace Go.Proofs.Ytahggokeelgjdaa
open Go.RowKit
set_option linter.unusedVariables false
set_option linter.unusedSimpArgs false

/-- A thing that is done, in block z. -/
def OpAt (z : Nat) (W : World) (k t a b v n m : Int) (sl : Value) : Prop := z < W.heap.size ∧ (W.cell? ⟨z, 0, none⟩ = some (.int .i64 k) ∧ W.cell? ⟨z, 1, none⟩ = some (.int .i64 t) ∧ W.cell? ⟨z, 2, none⟩ = some (.int .i64 a) ∧ W.cell? ⟨z, 3, none⟩ = some (.int .i64 b) ∧ W.cell? ⟨z, 4, none⟩ = some (.int .i64 v) ∧ W.cell? ⟨z, 5, none⟩ = some (.int .i64 n) ∧ W.cell? ⟨z, 6, none⟩ = some (.int .i64 m) ∧ W.cell? ⟨z, 7, none⟩ = some sl) ∧ ∀ o, o < 8 → W.frozen? ⟨z, o, none⟩ = false
theorem OpAt.keep {z : Nat} {W W' : World} {k t a b v n m : Int} {sl : Value} (h : OpAt z W k t a b v n m sl) (hs : W.heap.size ≤ W'.heap.size) (e : W'.heap[z]? = W.heap[z]?) : OpAt z W' k t a b v n m sl := by
  obtain ⟨h0, ⟨c0, c1, c2, c3, c4, c5, c6, c7⟩, hf⟩ := h
  exact ⟨Nat.lt_of_lt_of_le h0 hs, ⟨(World.cell?_of_block e).trans c0, (World.cell?_of_block e).trans c1, (World.cell?_of_block e).trans c2, (World.cell?_of_block e).trans c3, (World.cell?_of_block e).trans c4, (World.cell?_of_block e).trans c5, (World.cell?_of_block e).trans c6, (World.cell?_of_block e).trans c7⟩, fun o ho => (World.frozen?_of_block e).trans (hf o ho)⟩
theorem OpAt.below {z : Nat} {W W' : World} {k t a b v n m : Int} {sl : Value} (h : OpAt z W k t a b v n m sl) (hb : Below W.heap.size W W') : OpAt z W' k t a b v n m sl := h.keep hb.size (hb.block z h.1)
theorem OpAt.kps {z g : Nat} {W W' : World} {k t a b v n m : Int} {sl : Value} (h : OpAt z W k t a b v n m sl) (hz : z ≠ g) (hk : Kps g W W') : OpAt z W' k t a b v n m sl := h.keep hk.1.size (hk.2 z h.1 hz)
theorem OpAt.new (W : World) (k t a b v n m : Int) (sl : Value) (T : TypeId) : OpAt W.heap.size (W.alloc (.cells #[.int .i64 k, .int .i64 t, .int .i64 a, .int .i64 b, .int .i64 v, .int .i64 n, .int .i64 m, sl] T)) k t a b v n m sl :=
  ⟨by simp, ⟨by simp, by simp, by simp, by simp, by simp, by simp, by simp, by simp⟩, fun o ho => by simp⟩
theorem OpAt.set5 {z : Nat} {W : World} {k t a b v n m : Int} {sl : Value} (h : OpAt z W k t a b v n m sl) (n' : Int) : OpAt z (W.setCell ⟨z, 5, none⟩ (.int .i64 n')) k t a b v n' m sl := by
  obtain ⟨h0, ⟨c0, c1, c2, c3, c4, c5, c6, c7⟩, hf⟩ := h
  have ho : ∀ i, i ≠ 5 → (W.setCell ⟨z, 5, none⟩ (.int .i64 n')).cell? ⟨z, i, none⟩ = W.cell? ⟨z, i, none⟩ := fun i hi => World.cell?_setCell_other W ⟨z, 5, none⟩ ⟨z, i, none⟩ _ (by intro e; injection e with _ e _; exact hi e.symm)
  exact ⟨by simpa [World.setCell] using h0, ⟨(ho 0 (by decide)).trans c0, (ho 1 (by decide)).trans c1, (ho 2 (by decide)).trans c2, (ho 3 (by decide)).trans c3, (ho 4 (by decide)).trans c4, World.cell?_setCell_same _ _ _ c5, (ho 6 (by decide)).trans c6, (ho 7 (by decide)).trans c7⟩, fun o ho => by rw [World.frozen?_setCell]; exact hf o ho⟩
theorem OpAt.set6 {z : Nat} {W : World} {k t a b v n m : Int} {sl : Value} (h : OpAt z W k t a b v n m sl) (m' : Int) : OpAt z (W.setCell ⟨z, 6, none⟩ (.int .i64 m')) k t a b v n m' sl := by
  obtain ⟨h0, ⟨c0, c1, c2, c3, c4, c5, c6, c7⟩, hf⟩ := h
  have ho : ∀ i, i ≠ 6 → (W.setCell ⟨z, 6, none⟩ (.int .i64 m')).cell? ⟨z, i, none⟩ = W.cell? ⟨z, i, none⟩ := fun i hi => World.cell?_setCell_other W ⟨z, 6, none⟩ ⟨z, i, none⟩ _ (by intro e; injection e with _ e _; exact hi e.symm)
  exact ⟨by simpa [World.setCell] using h0, ⟨(ho 0 (by decide)).trans c0, (ho 1 (by decide)).trans c1, (ho 2 (by decide)).trans c2, (ho 3 (by decide)).trans c3, (ho 4 (by decide)).trans c4, (ho 5 (by decide)).trans c5, World.cell?_setCell_same _ _ _ c6, (ho 7 (by decide)).trans c7⟩, fun o ho => by rw [World.frozen?_setCell]; exact hf o ho⟩
theorem OpAt.set7 {z : Nat} {W : World} {k t a b v n m : Int} {sl : Value} (h : OpAt z W k t a b v n m sl) (sl' : Value) : OpAt z (W.setCell ⟨z, 7, none⟩ sl') k t a b v n m sl' := by
  obtain ⟨h0, ⟨c0, c1, c2, c3, c4, c5, c6, c7⟩, hf⟩ := h
  have ho : ∀ i, i ≠ 7 → (W.setCell ⟨z, 7, none⟩ sl').cell? ⟨z, i, none⟩ = W.cell? ⟨z, i, none⟩ := fun i hi => World.cell?_setCell_other W ⟨z, 7, none⟩ ⟨z, i, none⟩ _ (by intro e; injection e with _ e _; exact hi e.symm)
  exact ⟨by simpa [World.setCell] using h0, ⟨(ho 0 (by decide)).trans c0, (ho 1 (by decide)).trans c1, (ho 2 (by decide)).trans c2, (ho 3 (by decide)).trans c3, (ho 4 (by decide)).trans c4, (ho 5 (by decide)).trans c5, (ho 6 (by decide)).trans c6, World.cell?_setCell_same _ _ _ c7⟩, fun o ho => by rw [World.frozen?_setCell]; exact hf o ho⟩
theorem op_store {z : Nat} {W : World} {k t a b v n m : Int} {sl : Value} (h : OpAt z W k t a b v n m sl) (k' t' a' b' v' n' m' : Int) (sl' : Value) :
    ∃ W', (((((((W.setCell ⟨z, 0, none⟩ (.int .i64 k')).setCell ⟨z, 1, none⟩ (.int .i64 t')).setCell ⟨z, 2, none⟩ (.int .i64 a')).setCell ⟨z, 3, none⟩ (.int .i64 b')).setCell ⟨z, 4, none⟩ (.int .i64 v')).setCell ⟨z, 5, none⟩ (.int .i64 n')).setCell ⟨z, 6, none⟩ (.int .i64 m')).setCell ⟨z, 7, none⟩ sl' = W' ∧ OpAt z W' k' t' a' b' v' n' m' sl' ∧ Kps z W W' := by
  obtain ⟨h0, ⟨c0, c1, c2, c3, c4, c5, c6, c7⟩, hf⟩ := h
  have hs : ∀ (W0 : World) (p : Addr) (v : Value), (W0.setCell p v).heap.size = W0.heap.size := fun W0 p v => by simp [World.setCell]
  have ho : ∀ (W0 : World) (i j : Nat) (x : Value), i ≠ j → (W0.setCell ⟨z, j, none⟩ x).cell? ⟨z, i, none⟩ = W0.cell? ⟨z, i, none⟩ := fun W0 i j x hi => World.cell?_setCell_other W0 ⟨z, j, none⟩ ⟨z, i, none⟩ _ (by intro e; injection e with _ e _; exact hi e.symm)
  have hc : ∀ (W0 : World) (i : Nat) (x y : Value), W0.cell? ⟨z, i, none⟩ = some y → (W0.setCell ⟨z, i, none⟩ x).cell? ⟨z, i, none⟩ = some x := fun W0 i x y h => World.cell?_setCell_same _ _ _ h
  refine ⟨_, rfl, ⟨by simp only [hs]; exact h0, ⟨?_, ?_, ?_, ?_, ?_, ?_, ?_, ?_⟩, fun o ho => by simp only [World.frozen?_setCell]; exact hf o ho⟩, ?_⟩
  · rw [ho _ 0 7 _ (by decide)]; rw [ho _ 0 6 _ (by decide)]; rw [ho _ 0 5 _ (by decide)]; rw [ho _ 0 4 _ (by decide)]; rw [ho _ 0 3 _ (by decide)]; rw [ho _ 0 2 _ (by decide)]; rw [ho _ 0 1 _ (by decide)]; exact hc _ 0 _ _ (by  exact c0)
  · rw [ho _ 1 7 _ (by decide)]; rw [ho _ 1 6 _ (by decide)]; rw [ho _ 1 5 _ (by decide)]; rw [ho _ 1 4 _ (by decide)]; rw [ho _ 1 3 _ (by decide)]; rw [ho _ 1 2 _ (by decide)]; exact hc _ 1 _ _ (by rw [ho _ 1 0 _ (by decide)]; exact c1)
  · rw [ho _ 2 7 _ (by decide)]; rw [ho _ 2 6 _ (by decide)]; rw [ho _ 2 5 _ (by decide)]; rw [ho _ 2 4 _ (by decide)]; rw [ho _ 2 3 _ (by decide)]; exact hc _ 2 _ _ (by rw [ho _ 2 1 _ (by decide)]; rw [ho _ 2 0 _ (by decide)]; exact c2)
  · rw [ho _ 3 7 _ (by decide)]; rw [ho _ 3 6 _ (by decide)]; rw [ho _ 3 5 _ (by decide)]; rw [ho _ 3 4 _ (by decide)]; exact hc _ 3 _ _ (by rw [ho _ 3 2 _ (by decide)]; rw [ho _ 3 1 _ (by decide)]; rw [ho _ 3 0 _ (by decide)]; exact c3)
  · rw [ho _ 4 7 _ (by decide)]; rw [ho _ 4 6 _ (by decide)]; rw [ho _ 4 5 _ (by decide)]; exact hc _ 4 _ _ (by rw [ho _ 4 3 _ (by decide)]; rw [ho _ 4 2 _ (by decide)]; rw [ho _ 4 1 _ (by decide)]; rw [ho _ 4 0 _ (by decide)]; exact c4)
  · rw [ho _ 5 7 _ (by decide)]; rw [ho _ 5 6 _ (by decide)]; exact hc _ 5 _ _ (by rw [ho _ 5 4 _ (by decide)]; rw [ho _ 5 3 _ (by decide)]; rw [ho _ 5 2 _ (by decide)]; rw [ho _ 5 1 _ (by decide)]; rw [ho _ 5 0 _ (by decide)]; exact c5)
  · rw [ho _ 6 7 _ (by decide)]; exact hc _ 6 _ _ (by rw [ho _ 6 5 _ (by decide)]; rw [ho _ 6 4 _ (by decide)]; rw [ho _ 6 3 _ (by decide)]; rw [ho _ 6 2 _ (by decide)]; rw [ho _ 6 1 _ (by decide)]; rw [ho _ 6 0 _ (by decide)]; exact c6)
  ·  exact hc _ 7 _ _ (by rw [ho _ 7 6 _ (by decide)]; rw [ho _ 7 5 _ (by decide)]; rw [ho _ 7 4 _ (by decide)]; rw [ho _ 7 3 _ (by decide)]; rw [ho _ 7 2 _ (by decide)]; rw [ho _ 7 1 _ (by decide)]; rw [ho _ 7 0 _ (by decide)]; exact c7)
  · exact (((((((Kps.set z 0 W _).trans (Kps.set z 1 _ _)).trans (Kps.set z 2 _ _)).trans (Kps.set z 3 _ _)).trans (Kps.set z 4 _ _)).trans (Kps.set z 5 _ _)).trans (Kps.set z 6 _ _)).trans (Kps.set z 7 _ _)
theorem DP.low {g s z : Nat} {W w w' : World} (h : DP g s W w) (hk : Kps z w w') (hgz : g ≠ z) (hW : W.heap.size ≤ z) (hg : g < W.heap.size) : DP g s W w' :=
  ⟨h.1.keep hk.1.size (hk.2 g h.1.1 hgz), h.2.1.trans (hk.1.mono (by omega)), fun i hi hn => (hk.2 i (Nat.lt_of_lt_of_le hi h.2.1.size) (by omega)).trans (h.2.2 i hi hn)⟩
/-- What stands while things are drawn: three of the form's cells, the dice, the result's block. -/
def ST3 (x g y : Nat) (W : World) (th re mo : Int) (w : World) : Prop := (w.cell? ⟨x, 3, none⟩ = some (.int .i64 th) ∧ w.cell? ⟨x, 7, none⟩ = some (.int .i64 re) ∧ w.cell? ⟨x, 8, none⟩ = some (.int .i64 mo)) ∧ Hid ((∃ s, DP g s W w) ∧ OpAt y w 0 0 0 0 0 0 0 (.slice none 0 0) ∧ x ≠ g ∧ y ≠ g ∧ x < w.heap.size ∧ W.heap.size ≤ x ∧ W.heap.size ≤ y ∧ g < W.heap.size)
theorem ST3.dp {x g y s' : Nat} {W w w' : World} {th re mo : Int} (h : ST3 x g y W th re mo w) (hd : DP g s' w w') : ST3 x g y W th re mo w' := by
  obtain ⟨⟨c3, c7, c8⟩, ⟨⟨s, hs⟩, ho, hx, hy, hlt, h1, h2, h3⟩⟩ := h
  have e := hd.2.2 x hlt hx
  exact ⟨⟨(World.cell?_of_block e).trans c3, (World.cell?_of_block e).trans c7, (World.cell?_of_block e).trans c8⟩, ⟨⟨s', hs.trans hd⟩, ho.kps hy hd.2, hx, hy, Nat.lt_of_lt_of_le hlt hd.2.1.size, h1, h2, h3⟩⟩
theorem ST3.below {x g y : Nat} {W w w' : World} {th re mo : Int} (h : ST3 x g y W th re mo w) (hb : Below w.heap.size w w') : ST3 x g y W th re mo w' := by
  obtain ⟨⟨c3, c7, c8⟩, ⟨⟨s, hs⟩, ho, hx, hy, hlt, h1, h2, h3⟩⟩ := h
  exact ⟨⟨(hb.cell (p := ⟨x, 3, none⟩) hlt).trans c3, (hb.cell (p := ⟨x, 7, none⟩) hlt).trans c7, (hb.cell (p := ⟨x, 8, none⟩) hlt).trans c8⟩, ⟨⟨s, hs.below hb⟩, ho.below hb, hx, hy, Nat.lt_of_lt_of_le hlt hb.size, h1, h2, h3⟩⟩
theorem ST3.low {x g y z : Nat} {W w w' : World} {th re mo : Int} (h : ST3 x g y W th re mo w) (hk : Kps z w w') (hxz : x ≠ z) (hyz : y ≠ z) (hgz : g ≠ z) (hW : W.heap.size ≤ z) : ST3 x g y W th re mo w' := by
  obtain ⟨⟨c3, c7, c8⟩, ⟨⟨s, hs⟩, ho, hx, hy, hlt, h1, h2, h3⟩⟩ := h
  have e := hk.2 x hlt hxz
  exact ⟨⟨(World.cell?_of_block e).trans c3, (World.cell?_of_block e).trans c7, (World.cell?_of_block e).trans c8⟩, ⟨⟨s, hs.low hk hgz hW h3⟩, ho.kps hyz hk, hx, hy, Nat.lt_of_lt_of_le hlt hk.1.size, h1, h2, h3⟩⟩
theorem ST3.dc {x g y : Nat} {W w : World} {th re mo : Int} (h : ST3 x g y W th re mo w) : ∃ s, DC g s w := by
  obtain ⟨_, ⟨⟨s, hs⟩, _⟩⟩ := h
  exact ⟨s, hs.1⟩
theorem ST3.lt {x g y : Nat} {W w : World} {th re mo : Int} (h : ST3 x g y W th re mo w) : x < w.heap.size ∧ y < w.heap.size ∧ g < w.heap.size ∧ W.heap.size ≤ w.heap.size := by
  obtain ⟨_, ⟨⟨s, hs⟩, ho, _, _, hlt, _⟩⟩ := h
  exact ⟨hlt, ho.1, hs.1.1, hs.2.1.size⟩
theorem ST3.drw {x g y : Nat} {W w : World} {th re mo : Int} (h : ST3 x g y W th re mo w) : ST3 x g y W th re mo w.drew := h.below (Below.refl _ _).drew
end Go.Proofs.Ytahggokeelgjdaa
