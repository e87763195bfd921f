/- What the walk of QuarPlays keeps. -/
import Derived.Test.YtohamecjiidjdaaQuT
import Derived.Test.YtohamecjiidjdaaRecs
namespace Go.Proofs.Ytohamecjiidjdaa
open Go.RowKit
set_option linter.unusedVariables false
set_option linter.unusedSimpArgs false

/-- An epoch's variable. -/
def EpIs (g : Nat) (wr : World) (N : Int) (on : Bool) : Prop :=
  wr.cell? ⟨g, 0, none⟩ = some (.int .i64 N) ∧ wr.cell? ⟨g, 1, none⟩ = some (.bool on) ∧ wr.frozen? ⟨g, 0, none⟩ = false ∧ wr.frozen? ⟨g, 1, none⟩ = false ∧ g < wr.heap.size
theorem EpIs.keep {g : Nat} {a b : World} {N : Int} {on : Bool} (h : EpIs g a N on) (hs : a.heap.size ≤ b.heap.size) (hg : b.heap[g]? = a.heap[g]?) : EpIs g b N on := by
  obtain ⟨h1, h2, h3, h4, h5⟩ := h
  exact ⟨(World.cell?_of_block hg).trans h1, (World.cell?_of_block hg).trans h2, (World.frozen?_of_block hg).trans h3, (World.frozen?_of_block hg).trans h4, Nat.lt_of_lt_of_le h5 hs⟩
theorem EpIs.new (a : World) (N : Int) (on : Bool) (t : TypeId) : EpIs a.heap.size (a.alloc (.cells #[.int .i64 N, .bool on] t)) N on := ⟨by simp, by simp, by simp, by simp, by simp⟩
theorem EpIs.set {g : Nat} {a : World} {N N' : Int} {on on' : Bool} (h : EpIs g a N on) : EpIs g ((a.setCell ⟨g, 0, none⟩ (.int .i64 N')).setCell ⟨g, 1, none⟩ (.bool on')) N' on' := by
  obtain ⟨h1, h2, h3, h4, h5⟩ := h
  have e : ∀ v, (a.setCell ⟨g, 0, none⟩ v).cell? ⟨g, 1, none⟩ = some (.bool on) := fun v => by rw [World.cell?_setCell_other _ _ _ _ (by intro x; injection x with _ x; omega)]; exact h2
  refine ⟨?_, World.cell?_setCell_same _ _ _ (e _), by simpa using h3, by simpa using h4, by rw [size_set, size_set]; exact h5⟩
  rw [World.cell?_setCell_other _ _ _ _ (by intro x; injection x with _ x; omega)]
  exact World.cell?_setCell_same _ _ _ h1
/-- The quarantine has ms', the list that the statement keeps is ms; the epoch's variable is at G. -/
def QV (B0 g b bm G : Nat) (w W : World) (v4 : Value) (ms ms' : List It) (N : Int) (on : Bool) : Prop :=
  QuB g b W ms' ∧ VI bm W v4 ms ∧ v4 ≠ .slice none 0 0 ∧ EpIs G W N on ∧ (b ≠ bm ∧ bm ≠ g ∧ bm < W.heap.size ∧ b ≠ G ∧ bm ≠ G ∧ g ≠ G) ∧ (B0 ≤ g ∧ B0 ≤ b ∧ B0 ≤ bm ∧ B0 ≤ G ∧ B0 ≤ W.heap.size) ∧ Below B0 w W
theorem QV.fr {B0 g b b' bm G : Nat} {w W W' : World} {v4 : Value} {ms ms1 ms' : List It} {N : Int} {on : Bool} (h : QV B0 g b bm G w W v4 ms ms1 N on) (hf : Fr g b W W') (hs : QuB g b' W' ms') (hb : b' = b ∨ W.heap.size ≤ b') : QV B0 g b' bm G w W' v4 ms ms' N on := by
  obtain ⟨h1, h2, h3, h4, ⟨d1, d2, d3, d4, d5, d6⟩, ⟨t1, t2, t3, t4, t5⟩, h6⟩ := h
  have hs' := hf.1
  have hG := h4.2.2.2.2
  refine ⟨hs, h2.keep hs' (fun _ => hf.2.1 bm d3 d2 (Ne.symm d1)), h3, h4.keep hs' (hf.2.1 G hG (Ne.symm d6) (Ne.symm d4)), ⟨?_, d2, by omega, ?_, d5, d6⟩, ⟨t1, ?_, t3, t4, by omega⟩, h6.trans (hf.2.2 B0 t1 t2 t5)⟩
  all_goals rcases hb with rfl | h <;> omega
theorem QV.below {B0 g b bm G : Nat} {w W W' : World} {v4 : Value} {ms ms' : List It} {N : Int} {on : Bool} (h : QV B0 g b bm G w W v4 ms ms' N on) (hb : Below W.heap.size W W') : QV B0 g b bm G w W' v4 ms ms' N on :=
  h.fr (Fr.of_below hb) (h.1.below hb) (.inl rfl)
theorem QV.drw {B0 g b bm G : Nat} {w W : World} {v4 : Value} {ms ms' : List It} {N : Int} {on : Bool} (h : QV B0 g b bm G w W v4 ms ms' N on) (n : Nat) : QV B0 g b bm G w (W.drewN n) v4 ms ms' N on :=
  h.below (below_drewN (Below.refl _ _) n)
/-- Only block x changed, or new memory came. -/
theorem QV.oth {B0 g b bm G x : Nat} {w W W' : World} {v4 : Value} {ms ms' : List It} {N : Int} {on : Bool} (h : QV B0 g b bm G w W v4 ms ms' N on) (hs : W.heap.size ≤ W'.heap.size) (ho : ∀ i, i < W.heap.size → i ≠ x → W'.heap[i]? = W.heap[i]?) (hl : Below B0 W W') (hx : x ≠ g ∧ x ≠ b ∧ x ≠ bm ∧ x ≠ G) : QV B0 g b bm G w W' v4 ms ms' N on := by
  obtain ⟨h1, h2, h3, h4, ⟨d1, d2, d3, d4, d5, d6⟩, ⟨t1, t2, t3, t4, t5⟩, h6⟩ := h
  obtain ⟨x1, x2, x3, x4⟩ := hx
  exact ⟨h1.keep hs (ho g h1.1 (Ne.symm x1)) (fun hb => ho b hb (Ne.symm x2)), h2.keep hs (fun _ => ho bm d3 (Ne.symm x3)), h3, h4.keep hs (ho G h4.2.2.2.2 (Ne.symm x4)), ⟨d1, d2, by omega, d4, d5, d6⟩, ⟨t1, t2, t3, t4, by omega⟩, h6.trans hl⟩
theorem QV.epo {B0 g b bm G : Nat} {w W : World} {v4 : Value} {ms ms' : List It} {N N' : Int} {on on' : Bool} (h : QV B0 g b bm G w W v4 ms ms' N on) : QV B0 g b bm G w ((W.setCell ⟨G, 0, none⟩ (.int .i64 N')).setCell ⟨G, 1, none⟩ (.bool on')) v4 ms ms' N' on' := by
  obtain ⟨h1, h2, h3, h4, ⟨d1, d2, d3, d4, d5, d6⟩, ⟨t1, t2, t3, t4, t5⟩, h6⟩ := h
  exact ⟨(h1.far (Ne.symm d6) (Ne.symm d4)).far (Ne.symm d6) (Ne.symm d4), (VZ.far (VZ.far h2 d5) d5), h3, h4.set, ⟨d1, d2, by rw [size_set, size_set]; exact d3, d4, d5, d6⟩, ⟨t1, t2, t3, t4, by rw [size_set, size_set]; exact t5⟩, (h6.setCell t4 _).setCell t4 _⟩
/-- The statement's list is a new one. -/
theorem QV.newm {B0 g b bm bm' G : Nat} {w W W' : World} {v4 v4' : Value} {ms ms' ms2 : List It} {N : Int} {on : Bool} (h : QV B0 g b bm G w W v4 ms ms' N on) (hb : Below W.heap.size W W') (hv : VI bm' W' v4' ms2) (hn : v4' ≠ .slice none 0 0) (hbm : W.heap.size ≤ bm') : ∃ b', QV B0 g b' bm' G w W' v4' ms2 ms' N on := by
  obtain ⟨h1, h2, h3, h4, ⟨d1, d2, d3, d4, d5, d6⟩, ⟨t1, t2, t3, t4, t5⟩, h6⟩ := h
  have hG := h4.2.2.2.2
  have hg := h1.1
  obtain ⟨b', e1, e2, e3, hs⟩ : ∃ b', b' ≠ bm' ∧ b' ≠ G ∧ B0 ≤ b' ∧ QuB g b' W ms' := by
    rcases h1.free with h | ⟨rfl, h⟩
    · exact ⟨b, by omega, d4, t2, h1⟩
    · exact ⟨W.heap.size + bm' + g + G + 1, by omega, by omega, by omega, h _ (by omega)⟩
  refine ⟨b', hs.below hb, hv, hn, h4.keep hb.size (hb.block G hG), ⟨e1, by omega, ?_, e2, by omega, d6⟩, ⟨t1, e3, by omega, t4, by have := hb.size; omega⟩, h6.trans (hb.mono t5)⟩
  rcases vi_open hv with ⟨e, _⟩ | ⟨_, _, _, h, _⟩
  · exact absurd e hn
  · exact h
theorem QV.tail {B0 g b bm G : Nat} {w W : World} {v4 v4' : Value} {ms ms' ms2 : List It} {N : Int} {on : Bool} (h : QV B0 g b bm G w W v4 ms ms' N on) (hv : VI bm W v4' ms2) (hn : v4' ≠ .slice none 0 0) : QV B0 g b bm G w W v4' ms2 ms' N on := by
  obtain ⟨h1, h2, h3, h4, h5, h6, h7⟩ := h
  exact ⟨h1, hv, hn, h4, h5, h6, h7⟩
/-- An item's variable. -/
def XI (X : Nat) (W : World) (p : It) : Prop :=
  X < W.heap.size ∧ (W.cell? ⟨X, 0, none⟩ = some (.int .i64 p.at_) ∧ W.cell? ⟨X, 1, none⟩ = some (.int .i64 p.room) ∧ W.cell? ⟨X, 2, none⟩ = some (.int .i64 p.cls) ∧ W.cell? ⟨X, 3, none⟩ = some (.int .i64 p.thr) ∧ W.cell? ⟨X, 4, none⟩ = some (.int .i64 p.ep)) ∧ ∀ o, W.frozen? ⟨X, o, none⟩ = false
theorem XI.keep {X : Nat} {W W' : World} {p : It} (h : XI X W p) (hs : W.heap.size ≤ W'.heap.size) (hg : W'.heap[X]? = W.heap[X]?) : XI X W' p := by
  obtain ⟨h1, ⟨h2, h3, h4, h5, h6⟩, h7⟩ := h
  exact ⟨Nat.lt_of_lt_of_le h1 hs, ⟨(World.cell?_of_block hg).trans h2, (World.cell?_of_block hg).trans h3, (World.cell?_of_block hg).trans h4, (World.cell?_of_block hg).trans h5, (World.cell?_of_block hg).trans h6⟩, fun o => (World.frozen?_of_block hg).trans (h7 o)⟩
theorem set_other (W : World) (x a b : Nat) (v : Value) (h : a ≠ b) : (W.setCell ⟨x, a, none⟩ v).cell? ⟨x, b, none⟩ = W.cell? ⟨x, b, none⟩ :=
  World.cell?_setCell_other _ _ _ _ (by intro y; injection y with _ y; omega)
theorem xi_set {X : Nat} {W : World} (p : It) {v0 v1 v2 v3 v4 : Value} (hX : X < W.heap.size) (e0 : W.cell? ⟨X, 0, none⟩ = some v0) (e1 : W.cell? ⟨X, 1, none⟩ = some v1) (e2 : W.cell? ⟨X, 2, none⟩ = some v2) (e3 : W.cell? ⟨X, 3, none⟩ = some v3) (e4 : W.cell? ⟨X, 4, none⟩ = some v4) (fz : ∀ o, W.frozen? ⟨X, o, none⟩ = false) :
    XI X (((((W.setCell ⟨X, 0, none⟩ (.int .i64 p.at_)).setCell ⟨X, 1, none⟩ (.int .i64 p.room)).setCell ⟨X, 2, none⟩ (.int .i64 p.cls)).setCell ⟨X, 3, none⟩ (.int .i64 p.thr)).setCell ⟨X, 4, none⟩ (.int .i64 p.ep)) p := by
  refine ⟨by simp only [size_set]; exact hX, ⟨?_, ?_, ?_, ?_, ?_⟩, fun o => by simpa using fz o⟩
  · rw [set_other _ _ _ _ _ (by decide), set_other _ _ _ _ _ (by decide), set_other _ _ _ _ _ (by decide), set_other _ _ _ _ _ (by decide)]
    exact World.cell?_setCell_same _ _ _ e0
  · rw [set_other _ _ _ _ _ (by decide), set_other _ _ _ _ _ (by decide), set_other _ _ _ _ _ (by decide)]
    exact World.cell?_setCell_same _ _ _ (by rw [set_other _ _ _ _ _ (by decide)]; exact e1)
  · rw [set_other _ _ _ _ _ (by decide), set_other _ _ _ _ _ (by decide)]
    exact World.cell?_setCell_same _ _ _ (by rw [set_other _ _ _ _ _ (by decide), set_other _ _ _ _ _ (by decide)]; exact e2)
  · rw [set_other _ _ _ _ _ (by decide)]
    exact World.cell?_setCell_same _ _ _ (by rw [set_other _ _ _ _ _ (by decide), set_other _ _ _ _ _ (by decide), set_other _ _ _ _ _ (by decide)]; exact e3)
  · exact World.cell?_setCell_same _ _ _ (by rw [set_other _ _ _ _ _ (by decide), set_other _ _ _ _ _ (by decide), set_other _ _ _ _ _ (by decide), set_other _ _ _ _ _ (by decide)]; exact e4)
theorem XI.sete {X : Nat} {W : World} {p : It} (h : XI X W p) (e : Int) : XI X (W.setCell ⟨X, 4, none⟩ (.int .i64 e)) { p with ep := e } := by
  obtain ⟨h1, ⟨h2, h3, h4, h5, h6⟩, h7⟩ := h
  refine ⟨by rw [size_set]; exact h1, ⟨?_, ?_, ?_, ?_, World.cell?_setCell_same _ _ _ h6⟩, fun o => by simpa using h7 o⟩
  all_goals
    rw [set_other _ _ _ _ _ (by decide)]
    assumption
theorem QV.far {B0 g b bm G x o : Nat} {w W : World} {v4 : Value} {ms ms' : List It} {N : Int} {on : Bool} {v : Value} (h : QV B0 g b bm G w W v4 ms ms' N on) (hx : x ≠ g ∧ x ≠ b ∧ x ≠ bm ∧ x ≠ G) (hB : B0 ≤ x) : QV B0 g b bm G w (W.setCell ⟨x, o, none⟩ v) v4 ms ms' N on :=
  h.oth (by rw [size_set]; exact Nat.le_refl _) (fun i _ hi => heap_other W x o v i hi) ((Below.refl _ _).setCell hB _) hx
theorem vi_drop_n {b off c L : Nat} {W : World} {ms : List It} (n : Nat) (h : VI b W (.slice (some ⟨b, off, none⟩) L c) ms) (hL : ms.length = L) (hn : n ≤ L) :
    VI b W (.slice (if c = n then some ⟨b, off, none⟩ else some ⟨b, off + n * 5, none⟩) (L - n) (c - n)) (ms.drop n) := by
  subst hL
  exact vi_drop n h hn
theorem QV.fix {B0 g b bm G : Nat} {w W : World} {v4 : Value} {ms ms' : List It} {N : Int} {on : Bool} (h : QV B0 g b bm G w W v4 ms ms' N on) (x : Nat) (hx : W.heap.size ≤ x) : ∃ b', b' ≠ x ∧ QV B0 g b' bm G w W v4 ms ms' N on := by
  obtain ⟨h1, h2, h3, h4, ⟨d1, d2, d3, d4, d5, d6⟩, ⟨t1, t2, t3, t4, t5⟩, h6⟩ := h
  rcases h1.free with h | ⟨rfl, h⟩
  · exact ⟨b, by omega, h1, h2, h3, h4, ⟨d1, d2, d3, d4, d5, d6⟩, ⟨t1, t2, t3, t4, t5⟩, h6⟩
  · exact ⟨W.heap.size + bm + g + G + x + 1, by omega, h _ (by omega), h2, h3, h4, ⟨by omega, d2, d3, by omega, d5, d6⟩, ⟨t1, by omega, t3, t4, t5⟩, h6⟩
def lenV : Value → Nat | .slice _ n _ => n | _ => 0
/-- What an item's numbers are between. -/
def OKI (p : It) : Prop := (0 ≤ p.room ∧ p.room ≤ 1023) ∧ (0 ≤ p.ep ∧ p.ep ≤ 60) ∧ (0 ≤ p.at_ ∧ p.at_ ≤ 960 ∧ p.at_ ≠ 7)
def QB (i : Nat) (ms : List It) (N : Int) : Prop := ms.length ≤ i ∧ 0 ≤ N ∧ N ≤ i ∧ i ≤ 60 ∧ ∀ p ∈ ms, OKI p
theorem QB.up {i : Nat} {ms : List It} {N : Int} (h : QB i ms N) (hi : i < 60) : QB (i + 1) ms N := ⟨by have := h.1; omega, h.2.1, by have := h.2.2.1; omega, by omega, h.2.2.2.2⟩
theorem anyAt_mem {ms : List It} {k : Nat} {p : It} (h : ms[k]? = some p) : anyAt ms p.at_ = true := by
  unfold anyAt
  exact List.any_eq_true.2 ⟨p, List.mem_of_getElem? h, by simp⟩
theorem anyAt_7 {i : Nat} {ms : List It} {N : Int} (h : QB i ms N) : anyAt ms 7 = false := by
  unfold anyAt
  rw [List.any_eq_false]
  intro p hp
  have := (h.2.2.2.2 p hp).2.2.2.2
  simpa using this
/-- The ways of the statement's loop that takes one by one. -/
theorem tk_ways (ms : List It) (N : Int) (on : Bool) (j T : Nat) (hT : tk ms N on = T) (hj : j ≤ T) :
    (j = ms.length ∧ T = j) ∨ ∃ p, ms[j]? = some p ∧ ((decide (p.ep < endedI N on) = false ∧ T = j) ∨
      (decide (p.ep < endedI N on) = true ∧ ((j = 0 ∧ 0 < T) ∨ (0 < j ∧ ∃ q, ms[0]? = some q ∧ (((q.ep == p.ep) = true ∧ j < T) ∨ ((q.ep == p.ep) = false ∧ T = j)))))) := by
  cases ms with
  | nil =>
    have : T = 0 := by rw [← hT]; rfl
    exact .inl ⟨by simp; omega, by omega⟩
  | cons q r =>
    have hle := bat_le q.ep (q :: r)
    by_cases hp : q.ep < endedI N on
    · rw [tk, if_pos hp] at hT
      have hpos := bat_pos q.ep (q :: r) q rfl rfl
      by_cases hjl : j = (q :: r).length
      · exact .inl ⟨hjl, by omega⟩
      · right
        obtain ⟨p, hpj⟩ : ∃ p, (q :: r)[j]? = some p := ⟨_, List.getElem?_eq_getElem (by omega)⟩
        refine ⟨p, hpj, ?_⟩
        by_cases hlt : j < T
        · obtain ⟨p', h1, h2⟩ := bat_in q.ep (q :: r) j (by omega)
          rw [hpj] at h1
          obtain rfl := Option.some.inj h1
          refine .inr ⟨by rw [h2]; exact decide_eq_true hp, ?_⟩
          by_cases h0 : j = 0
          · exact .inl ⟨h0, by omega⟩
          · exact .inr ⟨by omega, q, rfl, .inl ⟨by simp [h2], hlt⟩⟩
        · obtain rfl : j = T := by omega
          have hne := bat_out q.ep (q :: r) p (by rw [hT]; exact hpj)
          by_cases hpp : p.ep < endedI N on
          · refine .inr ⟨decide_eq_true hpp, .inr ⟨by omega, q, rfl, .inr ⟨?_, rfl⟩⟩⟩
            rw [beq_eq_false_iff_ne]
            exact Ne.symm hne
          · exact .inl ⟨decide_eq_false hpp, rfl⟩
    · rw [tk, if_neg hp] at hT
      obtain rfl : j = 0 := by omega
      exact .inr ⟨q, rfl, .inl ⟨decide_eq_false hp, by omega⟩⟩
theorem tk_le (ms : List It) (N : Int) (on : Bool) : tk ms N on ≤ ms.length := by
  cases ms with
  | nil => simp [tk]
  | cons q r =>
    have := bat_le q.ep (q :: r)
    rw [tk]
    split
    · exact this
    · omega
set_option maxRecDepth 100000 in
/-- The statement's awake. -/
theorem awakeQuar (W : World) : Calls Try.prog 16 #[] W fun e w' => e = .returned (.bool true) ∧ Below W.heap.size W w' := by
  go_enter Try.func16, Try.ntmps16
  go_wp2_with fail
  obtain ⟨g, hg⟩ : ∃ g, W.heap.size = g := ⟨_, rfl⟩
  obtain ⟨W1, hW1⟩ : ∃ W1, W.alloc (.cells #[.slice none 0 0] 26) = W1 := ⟨_, rfl⟩
  have H1 : Hid (QuB g (g + 1000) W1 []) := Lib.hid (by
    rw [← hW1, ← hg]
    exact ⟨by simp, by omega, fun o => by simp, .slice none 0 0, by simp, vz_nil _ _ _⟩)
  have F1 : Hid (Fr g (g + 1000) W W1) := Lib.hid (by rw [← hW1]; exact Fr.of_below (alc0 _ _))
  have hs1 : W1.heap.size = g + 1 := by rw [← hW1, ← hg]; simp
  have HS1 := Lib.hid hs1
  rw [hW1, hg]
  clear hW1 hs1
  refine (qput_any g (g + 1000) [] ⟨32, 16, 0, 0, 0⟩ W1 H1.out (.inl rfl) (by simp)).mono ?_
  rintro e w2 ⟨rfl, b2, hb2, hf2, hs2⟩
  have H2 : Hid (QuB g b2 w2 [⟨32, 16, 0, 0, 0⟩]) := Lib.hid hs2
  have F2 : Hid (Fr g (g + 1000) W w2) := Lib.hid (F1.out.trans hf2 (.inl rfl))
  have hbb : b2 = g + 1000 ∨ g ≤ b2 := by have := HS1.out; omega
  have hbl : b2 < w2.heap.size := by
    rcases hs2.free with h | ⟨h, _⟩
    · exact h
    · simp at h
  have hgl := hs2.1
  clear hf2 hs2 hb2
  go_wp2_with fail
  refine (ebegin_off 0 _ (by decide) (by decide)).mono ?_
  rintro e w3 ⟨rfl, hb3⟩
  have hs3 := hb3.size
  obtain ⟨E, hE⟩ : ∃ E, w3.heap.size = E := ⟨_, rfl⟩
  have hbE : b2 < E := by omega
  have hgE : g < E := by omega
  go_wp2_with fail
  obtain ⟨W4, hW4⟩ : ∃ W4, w3.alloc (.cells #[.int .i64 1, .bool true] 28) = W4 := ⟨_, rfl⟩
  have c0 : W4.cell? ⟨E, 0, none⟩ = some (.int .i64 1) := by rw [← hW4, ← hE]; simp
  have c1 : W4.cell? ⟨E, 1, none⟩ = some (.bool true) := by rw [← hW4, ← hE]; simp
  have hB4 : Below w2.heap.size w2 W4 := by rw [← hW4]; exact alc hb3 _
  have hE4 : E < W4.heap.size := by rw [← hW4, ← hE]; simp
  have H4 : Hid (QuB g b2 W4 [⟨32, 16, 0, 0, 0⟩]) := Lib.hid (H2.out.below hB4)
  have F4 : Hid (Fr g (g + 1000) W W4) := Lib.hid (F2.out.trans (Fr.of_below hB4) (.inl rfl) : Fr g (g + 1000) W W4)
  rw [hW4]
  clear hW4 hb3 hB4 hE
  refine (qtake_any g b2 _ 1 true W4 H4.out (by decide) (by decide) (by simp)).mono ?_
  rintro e w5 ⟨b5, b6, v5, rfl, hb5, hf5, hs5, hv5, _⟩
  have htk : tk [⟨32, 16, 0, 0, 0⟩] 1 true = 0 := rfl
  rw [htk] at hs5 hv5
  have k5 := hf5.2.1 E hE4 (by omega) (by omega)
  have c2 := (World.cell?_of_block k5 (a := ⟨E, 0, none⟩)).trans c0
  have c3 := (World.cell?_of_block k5 (a := ⟨E, 1, none⟩)).trans c1
  have H5 : Hid (QuB g b5 w5 [⟨32, 16, 0, 0, 0⟩]) := Lib.hid hs5
  have F5 : Hid (Fr g (g + 1000) W w5) := Lib.hid (F4.out.trans hf5 (by omega))
  have hbb5 : b5 = g + 1000 ∨ g ≤ b5 := by have := F4.out.1; omega
  have hbl5 : b5 < w5.heap.size := by
    rcases hs5.free with h | ⟨h, _⟩
    · exact h
    · simp at h
  obtain ⟨A5, c5, rfl, _⟩ := hv5
  have hE5 : E < w5.heap.size := Nat.lt_of_lt_of_le hE4 hf5.1
  have hgl5 := hs5.1
  clear hf5 hs5 k5 c0 c1 hb5 htk
  go_wp2_with fail
  refine (eend_on 1 _).mono ?_
  rintro e w6 ⟨rfl, hb6⟩
  have hs6 := hb6.size
  obtain ⟨G, hG⟩ : ∃ G, w6.heap.size = G := ⟨_, rfl⟩
  have hbG : b5 < G := by omega
  have hgG : g < G := by omega
  go_wp2_with fail
  obtain ⟨W7, hW7⟩ : ∃ W7, w6.alloc (.cells #[.int .i64 1, .bool false] 28) = W7 := ⟨_, rfl⟩
  have hB7 : Below w5.heap.size w5 W7 := by rw [← hW7]; exact alc hb6 _
  have H7 : Hid (QuB g b5 W7 [⟨32, 16, 0, 0, 0⟩]) := Lib.hid (H5.out.below hB7)
  have F7 : Hid (Fr g (g + 1000) W W7) := Lib.hid (F5.out.trans (Fr.of_below hB7) (.inl rfl) : Fr g (g + 1000) W W7)
  rw [hW7]
  clear hW7 hb6 hB7 c2 c3 hG
  refine (qtake_any g b5 _ 1 false W7 H7.out (by decide) (by decide) (by simp)).mono ?_
  rintro e w8 ⟨b8, b9, v8, rfl, hb8, hf8, hs8, hv8, _⟩
  have htk : tk [⟨32, 16, 0, 0, 0⟩] 1 false = 1 := rfl
  rw [htk] at hs8 hv8
  have H8 : Hid (QuB g b8 w8 []) := Lib.hid hs8
  have hv9 : VI b9 w8 v8 [⟨32, 16, 0, 0, 0⟩] := hv8
  have F8 : Hid (Fr g (g + 1000) W w8) := Lib.hid (F7.out.trans hf8 (by omega))
  rcases vi_open hv9 with ⟨_, e⟩ | ⟨off, c8, rfl, h7, h8, h9, h10⟩
  · simp at e
  · obtain ⟨q0, _⟩ := h10 0 _ rfl
    simp only [Nat.zero_mul, Nat.add_zero] at q0
    clear h10 hv9 hv8 hs8 hf8 htk
    go_wp2_with fail
    refine (qlen g b8 [] w8 H8.out).mono ?_
    rintro e w9 ⟨rfl, rfl⟩
    go_wp2
    go_ret
    exact ⟨rfl, F8.out.2.2 W.heap.size (by omega) (by omega) (Nat.le_refl _)⟩
end Go.Proofs.Ytohamecjiidjdaa
