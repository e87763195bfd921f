/- Memory: what it is like; what stands. -/
import Derived.Test.YtljjcomedjdpaaaDoorMmA
import Derived.Test.YtljjcomedjdpaaaDoorPages
import Derived.Test.YtljjcomedjdpaaaDoorSlots
import Derived.Test.YtljjcomedjdpaaaDoorTagsS
namespace Go.Proofs.YtljjcomedjdpaaaDoor
set_option maxRecDepth 100000
open Go.RowKit Go.ChangeMaps Go.MapKept
set_option linter.unusedVariables false
set_option linter.unusedSimpArgs false

def cntF (o : Nat → Bool) : Nat → Nat
  | 0 => 0
  | n + 1 => cntF o n + (if o n then 1 else 0)
def wholeF (o : Nat → Bool) (f : Nat) : Nat → Bool
  | 0 => true
  | k + 1 => wholeF o f k && o (f + k)
theorem cntB_F (ws : List Nat) (n : Nat) : cntB ws n = cntF (bitB ws) n := by
  induction n with
  | zero => rfl
  | succ n ih => rw [cntB, cntF, ih]
theorem wholeB_F (ws : List Nat) (f n : Nat) : wholeB ws f n = wholeF (bitB ws) f n := by
  induction n with
  | zero => rfl
  | succ n ih => rw [wholeB, wholeF, ih]
theorem wholeF_iff {o : Nat → Bool} {f n : Nat} : wholeF o f n = true ↔ ∀ y, f ≤ y → y < f + n → o y = true := by
  induction n with
  | zero => exact ⟨fun _ y a b => by omega, fun _ => rfl⟩
  | succ n ih =>
    rw [wholeF, Bool.and_eq_true, ih]
    constructor
    · intro ⟨h1, h2⟩ y a b
      by_cases e : y = f + n
      · rw [e]; exact h2
      · exact h1 y a (by omega)
    · intro h
      exact ⟨fun y a b => h y a (by omega), h (f + n) (by omega) (by omega)⟩

/-- A memory: which pages are mapped, how many may be, how many were at most; bytes; tags; where something is kept, and what. -/
structure MS where
  pg : Nat → Bool
  most : Int
  peak : Int
  c : Nat → Nat
  f : Nat → Nat
  kp : Nat → Bool
  kv : Nat → Nat → Nat

/-- Whose a block is: 1 the memory itself, 2 its pages', 3 its store's, 4 its tags', 5 its slots', 6 the map of what is kept, 7 what is kept; 0: somebody else's. -/
def PgC (col : Nat → Nat) (P : Nat) (W : World) (pg : Nat → Bool) (most peak : Int) : Prop :=
  ∃ lo hi g ws, PgIs lo hi g P W (cntF pg 1024 : Nat) most peak ws ∧ ws.length = 16 ∧ (∀ y, bitB ws y = pg y) ∧ ∀ i, lo ≤ i → i ≤ P → col i = 2
def StC (B : Nat) (col : Nat → Nat) (sg : Nat) (W : World) (c : Nat → Nat) : Prop :=
  ∃ b l, STL B sg b W l c ∧ col sg = 3 ∧ col b = 3 ∧ (∀ pq ∈ l, col pq.2 = 3) ∧ ∀ x, c x < 256
def TgC (col : Nat → Nat) (t : Nat) (W : World) (f : Nat → Nat) : Prop := TagIs t W f ∧ col t = 4
def SlC (col : Nat → Nat) (S : Nat) (W : World) (kp : Nat → Bool) : Prop :=
  ∃ lo hi g ws, SlIs lo hi g S W (cntF kp 16384 : Nat) ws ∧ ws.length = 256 ∧ (∀ y, bitB ws y = kp y) ∧ ∀ i, lo ≤ i → i ≤ S → col i = 5
def KpC (col : Nat → Nat) (kb : Nat) (W : World) (kp : Nat → Bool) (kv : Nat → Nat → Nat) : Prop :=
  ∃ l, KM kb W l ∧ kb < W.heap.size ∧ col kb = 6 ∧ (∀ e ∈ l, col e.2.1 = 7 ∧ 16 ≤ e.2.2 ∧ e.2.2 ≤ 9223372036854775807 ∧ PGn e.2.1 16 W (kv e.1)) ∧ ∀ x, kp x = true ↔ ∃ e ∈ l, e.1 = x

theorem PgC.move {col col' : Nat → Nat} {P : Nat} {W W' : World} {pg : Nat → Bool} {most peak : Int} (h : PgC col P W pg most peak) (hs : W.heap.size ≤ W'.heap.size) (hk : ∀ i, i < W.heap.size → col i = 2 → W'.heap[i]? = W.heap[i]?) (hc : ∀ i, i < W.heap.size → col' i = col i) : PgC col' P W' pg most peak := by
  obtain ⟨lo, hi, g, ws, h1, h2, h3, h4⟩ := h
  have hp := h1.2.1.2
  exact ⟨lo, hi, g, ws, h1.keep hs (fun i a b => hk i (by omega) (h4 i a b)), h2, h3, fun i a b => by rw [hc i (by omega)]; exact h4 i a b⟩
theorem StC.move {B : Nat} {col col' : Nat → Nat} {sg : Nat} {W W' : World} {c : Nat → Nat} (h : StC B col sg W c) (hs : W.heap.size ≤ W'.heap.size) (hk : ∀ i, i < W.heap.size → col i = 3 → W'.heap[i]? = W.heap[i]?) (hc : ∀ i, i < W.heap.size → col' i = col i) : StC B col' sg W' c := by
  obtain ⟨b, l, h1, h2, h3, h4, h5⟩ := h
  obtain ⟨k1, ⟨k2, k3, k4, k5, k6⟩, k7, k8, k9⟩ := h1
  exact ⟨b, l, ⟨(World.cell?_of_block (hk sg k5 h2)).trans k1, ⟨k2, k3, k4, Nat.lt_of_lt_of_le k5 hs, Nat.lt_of_lt_of_le k6 hs⟩, k7.keep (hk b k6 h3), fun pq hpq => by
    obtain ⟨m1, m2, m3, m4⟩ := k8 pq hpq
    exact ⟨m1, m2, m3, m4.keep hs (hk pq.2 m4.1 (h4 pq hpq))⟩, k9⟩, by rw [hc sg k5]; exact h2, by rw [hc b k6]; exact h3, fun pq hpq => by rw [hc pq.2 (k8 pq hpq).2.2.2.1]; exact h4 pq hpq, h5⟩
theorem TgC.move {col col' : Nat → Nat} {t : Nat} {W W' : World} {f : Nat → Nat} (h : TgC col t W f) (hs : W.heap.size ≤ W'.heap.size) (hk : ∀ i, i < W.heap.size → col i = 4 → W'.heap[i]? = W.heap[i]?) (hc : ∀ i, i < W.heap.size → col' i = col i) : TgC col' t W' f :=
  ⟨h.1.keep hs (hk t h.1.1 h.2), by rw [hc t h.1.1]; exact h.2⟩
theorem SlC.move {col col' : Nat → Nat} {S : Nat} {W W' : World} {kp : Nat → Bool} (h : SlC col S W kp) (hs : W.heap.size ≤ W'.heap.size) (hk : ∀ i, i < W.heap.size → col i = 5 → W'.heap[i]? = W.heap[i]?) (hc : ∀ i, i < W.heap.size → col' i = col i) : SlC col' S W' kp := by
  obtain ⟨lo, hi, g, ws, h1, h2, h3, h4⟩ := h
  have hp := h1.2.1.2
  exact ⟨lo, hi, g, ws, h1.keep hs (fun i a b => hk i (by omega) (h4 i a b)), h2, h3, fun i a b => by rw [hc i (by omega)]; exact h4 i a b⟩
theorem KpC.move {col col' : Nat → Nat} {kb : Nat} {W W' : World} {kp : Nat → Bool} {kv : Nat → Nat → Nat} (h : KpC col kb W kp kv) (hs : W.heap.size ≤ W'.heap.size) (hk : ∀ i, i < W.heap.size → col i = 6 ∨ col i = 7 → W'.heap[i]? = W.heap[i]?) (hc : ∀ i, i < W.heap.size → col' i = col i) : KpC col' kb W' kp kv := by
  obtain ⟨l, h1, h2, h3, h4, h5⟩ := h
  refine ⟨l, h1.keep (hk kb h2 (.inl h3)), by omega, by rw [hc kb h2]; exact h3, fun e he => ?_, h5⟩
  obtain ⟨m1, m2, m3, m4⟩ := h4 e he
  exact ⟨by rw [hc _ m4.1]; exact m1, m2, m3, m4.keep hs (hk _ m4.1 (.inr m1))⟩

/-- The five pointers of a memory. -/
def MCells (M P sg t S kb : Nat) (W : World) : Prop :=
  W.cell? ⟨M, 0, none⟩ = some (.pointer (some ⟨P, 0, none⟩)) ∧ W.cell? ⟨M, 1, none⟩ = some (.pointer (some ⟨sg, 0, none⟩)) ∧ W.cell? ⟨M, 2, none⟩ = some (.pointer (some ⟨t, 0, none⟩)) ∧ W.cell? ⟨M, 3, none⟩ = some (.pointer (some ⟨S, 0, none⟩)) ∧ W.cell? ⟨M, 4, none⟩ = some (.map (some kb))
theorem MCells.keep {M P sg t S kb : Nat} {W W' : World} (h : MCells M P sg t S kb W) (e : W'.heap[M]? = W.heap[M]?) : MCells M P sg t S kb W' :=
  ⟨(World.cell?_of_block e).trans h.1, (World.cell?_of_block e).trans h.2.1, (World.cell?_of_block e).trans h.2.2.1, (World.cell?_of_block e).trans h.2.2.2.1, (World.cell?_of_block e).trans h.2.2.2.2⟩

/-- The memory at M; all its blocks lie from B on. -/
structure MEM (B : Nat) (col : Nat → Nat) (M : Nat) (W : World) (σ : MS) : Prop where
  own : ∀ i, col i ≠ 0 → B ≤ i ∧ i < W.heap.size
  me : col M = 1
  tab : ∃ w0, TzTab w0 ∧ w0.heap.size ≤ B ∧ Below w0.heap.size w0 W
  ex : ∃ P sg t S kb, MCells M P sg t S kb W ∧ PgC col P W σ.pg σ.most σ.peak ∧ StC B col sg W σ.c ∧ TgC col t W σ.f ∧ SlC col S W σ.kp ∧ KpC col kb W σ.kp σ.kv
section
variable {B : Nat} {col : Nat → Nat} {M : Nat} {W : World} {σ : MS}
theorem MEM.lo (h : MEM B col M W σ) : B ≤ M ∧ M < W.heap.size := h.own M (by rw [h.me]; decide)
theorem MEM.tz (h : MEM B col M W σ) : TzTab W := by
  obtain ⟨w0, h1, _, h3⟩ := h.tab
  exact h1.later h3
theorem MEM.keep {W' : World} (h : MEM B col M W σ) (hb : Below B W W') (hk : ∀ i, i < W.heap.size → col i ≠ 0 → W'.heap[i]? = W.heap[i]?) : MEM B col M W' σ := by
  obtain ⟨w0, t1, t2, t3⟩ := h.tab
  obtain ⟨P, sg, t, S, kb, h1, h2, h3, h4, h5, h6⟩ := h.ex
  have hs := hb.size
  refine ⟨fun i hi => by have := h.own i hi; omega, h.me, ⟨w0, t1, t2, t3.trans (hb.mono t2)⟩, P, sg, t, S, kb, h1.keep (hk M h.lo.2 (by rw [h.me]; decide)), ?_, ?_, ?_, ?_, ?_⟩
  · exact h2.move hs (fun i a e => hk i a (by rw [e]; decide)) (fun _ _ => rfl)
  · exact h3.move hs (fun i a e => hk i a (by rw [e]; decide)) (fun _ _ => rfl)
  · exact h4.move hs (fun i a e => hk i a (by rw [e]; decide)) (fun _ _ => rfl)
  · exact h5.move hs (fun i a e => hk i a (by rw [e]; decide)) (fun _ _ => rfl)
  · exact h6.move hs (fun i a e => hk i a (by rcases e with e | e <;> rw [e] <;> decide)) (fun _ _ => rfl)
theorem MEM.size (h : MEM B col M W σ) : B ≤ W.heap.size := by have := h.lo; omega
theorem MEM.later {W' : World} (h : MEM B col M W σ) (hb : Below W.heap.size W W') : MEM B col M W' σ := h.keep (hb.mono h.size) (fun i a _ => hb.block i a)
theorem MEM.drewN (h : MEM B col M W σ) (q : Nat) : MEM B col M (W.drewN q) σ := h.later (below_drewN (Below.refl _ _) q)

/-- What an act of a memory does: it is as σ then, and what is none of its own stands. -/
def MStep (B : Nat) (col : Nat → Nat) (M : Nat) (W : World) (σ : MS) (w' : World) : Prop :=
  ∃ col', MEM B col' M w' σ ∧ (∀ i, i < W.heap.size → col' i = col i) ∧ (∀ i, i < W.heap.size → col i ≤ 1 → w'.heap[i]? = W.heap[i]?) ∧ Below B W w'
theorem MStep.of_later {w' : World} (h : MEM B col M W σ) (hb : Below W.heap.size W w') : MStep B col M W σ w' :=
  ⟨col, h.later hb, fun _ _ => rfl, fun i hi _ => hb.block i hi, hb.mono h.size⟩
theorem MStep.before {w1 w2 : World} (hB : B ≤ W.heap.size) (hb : Below W.heap.size W w1) (h : MStep B col M w1 σ w2) : MStep B col M W σ w2 := by
  obtain ⟨col', h1, h2, h3, h4⟩ := h
  have hs := hb.size
  exact ⟨col', h1, fun i hi => h2 i (by omega), fun i hi h0 => (h3 i (by omega) h0).trans (hb.block i hi), (hb.mono hB).trans h4⟩
theorem MStep.after {w1 w2 : World} (h : MStep B col M W σ w1) (hb : Below w1.heap.size w1 w2) : MStep B col M W σ w2 := by
  obtain ⟨col', h1, h2, h3, h4⟩ := h
  have hs := h4.size
  exact ⟨col', h1.later hb, h2, fun i hi h0 => (hb.block i (by omega)).trans (h3 i hi h0), h4.trans (hb.mono h1.size)⟩
theorem MStep.then_ {w1 w2 : World} {σ2 : MS} (h : MStep B col M W σ w1) (k : ∀ col', MEM B col' M w1 σ → MStep B col' M w1 σ2 w2) : MStep B col M W σ2 w2 := by
  obtain ⟨col', h1, h2, h3, h4⟩ := h
  obtain ⟨col2, k1, k2, k3, k4⟩ := k col' h1
  have hs := h4.size
  exact ⟨col2, k1, fun i hi => (k2 i (by omega)).trans (h2 i hi), fun i hi h0 => (k3 i (by omega) (by rw [h2 i hi]; exact h0)).trans (h3 i hi h0), h4.trans k4⟩
theorem MStep.join {col2 : Nat → Nat} {w1 w2 w3 : World} {σ2 : MS} (hc : ∀ i, i < W.heap.size → col2 i = col i) (ho : ∀ i, i < W.heap.size → col i ≤ 1 → w1.heap[i]? = W.heap[i]?) (hb : Below B W w1) (hB : B ≤ w1.heap.size) (hd : Below w1.heap.size w1 w2) (k : MStep B col2 M w2 σ2 w3) : MStep B col M W σ2 w3 := by
  obtain ⟨col3, k1, k2, k3, k4⟩ := k
  have hs := hb.size
  have hs2 := hd.size
  exact ⟨col3, k1, fun i hi => (k2 i (by omega)).trans (hc i hi), fun i hi h0 => ((k3 i (by omega) (by rw [hc i hi]; exact h0)).trans (hd.block i (by omega))).trans (ho i hi h0), (hb.trans (hd.mono hB)).trans k4⟩

/-- One of the five parts has changed: the others stand. -/
theorem MEM.set_pg {W' : World} {P sg t S kb : Nat} {pg' : Nat → Bool} {peak' : Int} (h : MEM B col M W σ) (hn : MCells M P sg t S kb W ∧ PgC col P W σ.pg σ.most σ.peak ∧ StC B col sg W σ.c ∧ TgC col t W σ.f ∧ SlC col S W σ.kp ∧ KpC col kb W σ.kp σ.kv)
    (hb : Below B W W') (hk : ∀ i, i < W.heap.size → col i ≠ 2 → W'.heap[i]? = W.heap[i]?) (hp : PgC col P W' pg' σ.most peak') : MStep B col M W { σ with pg := pg', peak := peak' } W' := by
  obtain ⟨w0, t1, t2, t3⟩ := h.tab
  obtain ⟨h1, h2, h3, h4, h5, h6⟩ := hn
  have hs := hb.size
  refine ⟨col, ⟨fun i hi => by have := h.own i hi; omega, h.me, ⟨w0, t1, t2, t3.trans (hb.mono t2)⟩, P, sg, t, S, kb, h1.keep (hk M h.lo.2 (by rw [h.me]; decide)), hp, ?_, ?_, ?_, ?_⟩, fun _ _ => rfl, fun i hi h0 => hk i hi (by omega), hb⟩
  · exact h3.move hs (fun i a e => hk i a (by rw [e]; decide)) (fun _ _ => rfl)
  · exact h4.move hs (fun i a e => hk i a (by rw [e]; decide)) (fun _ _ => rfl)
  · exact h5.move hs (fun i a e => hk i a (by rw [e]; decide)) (fun _ _ => rfl)
  · exact h6.move hs (fun i a e => hk i a (by rcases e with e | e <;> rw [e] <;> decide)) (fun _ _ => rfl)
theorem MEM.set_st {W' : World} {P sg t S kb : Nat} {c' : Nat → Nat} {col' : Nat → Nat} (h : MEM B col M W σ) (hn : MCells M P sg t S kb W ∧ PgC col P W σ.pg σ.most σ.peak ∧ StC B col sg W σ.c ∧ TgC col t W σ.f ∧ SlC col S W σ.kp ∧ KpC col kb W σ.kp σ.kv)
    (hb : Below B W W') (hk : ∀ i, i < W.heap.size → col i ≠ 3 → W'.heap[i]? = W.heap[i]?) (hc : ∀ i, i < W.heap.size → col' i = col i) (hc2 : ∀ i, W.heap.size ≤ i → col' i ≠ 0 → i < W'.heap.size) (hp : StC B col' sg W' c') : MStep B col M W { σ with c := c' } W' := by
  obtain ⟨w0, t1, t2, t3⟩ := h.tab
  obtain ⟨h1, h2, h3, h4, h5, h6⟩ := hn
  have hs := hb.size
  have hB := h.size
  refine ⟨col', ⟨fun i hi => ?_, by rw [hc M h.lo.2]; exact h.me, ⟨w0, t1, t2, t3.trans (hb.mono t2)⟩, P, sg, t, S, kb, h1.keep (hk M h.lo.2 (by rw [h.me]; decide)), ?_, hp, ?_, ?_, ?_⟩, hc, fun i hi h0 => hk i hi (by omega), hb⟩
  · by_cases hi2 : i < W.heap.size
    · have := h.own i (by rw [← hc i hi2]; exact hi); omega
    · have := hc2 i (by omega) hi; omega
  · exact h2.move hs (fun i a e => hk i a (by rw [e]; decide)) hc
  · exact h4.move hs (fun i a e => hk i a (by rw [e]; decide)) hc
  · exact h5.move hs (fun i a e => hk i a (by rw [e]; decide)) hc
  · exact h6.move hs (fun i a e => hk i a (by rcases e with e | e <;> rw [e] <;> decide)) hc
theorem MEM.set_tg {W' : World} {P sg t S kb : Nat} {f' : Nat → Nat} (h : MEM B col M W σ) (hn : MCells M P sg t S kb W ∧ PgC col P W σ.pg σ.most σ.peak ∧ StC B col sg W σ.c ∧ TgC col t W σ.f ∧ SlC col S W σ.kp ∧ KpC col kb W σ.kp σ.kv)
    (hb : Below B W W') (hk : ∀ i, i < W.heap.size → col i ≠ 4 → W'.heap[i]? = W.heap[i]?) (hp : TgC col t W' f') : MStep B col M W { σ with f := f' } W' := by
  obtain ⟨w0, t1, t2, t3⟩ := h.tab
  obtain ⟨h1, h2, h3, h4, h5, h6⟩ := hn
  have hs := hb.size
  refine ⟨col, ⟨fun i hi => by have := h.own i hi; omega, h.me, ⟨w0, t1, t2, t3.trans (hb.mono t2)⟩, P, sg, t, S, kb, h1.keep (hk M h.lo.2 (by rw [h.me]; decide)), ?_, ?_, hp, ?_, ?_⟩, fun _ _ => rfl, fun i hi h0 => hk i hi (by omega), hb⟩
  · exact h2.move hs (fun i a e => hk i a (by rw [e]; decide)) (fun _ _ => rfl)
  · exact h3.move hs (fun i a e => hk i a (by rw [e]; decide)) (fun _ _ => rfl)
  · exact h5.move hs (fun i a e => hk i a (by rw [e]; decide)) (fun _ _ => rfl)
  · exact h6.move hs (fun i a e => hk i a (by rcases e with e | e <;> rw [e] <;> decide)) (fun _ _ => rfl)
theorem MEM.set_kp {W' : World} {P sg t S kb : Nat} {kp' : Nat → Bool} {kv' : Nat → Nat → Nat} {col' : Nat → Nat} (h : MEM B col M W σ) (hn : MCells M P sg t S kb W ∧ PgC col P W σ.pg σ.most σ.peak ∧ StC B col sg W σ.c ∧ TgC col t W σ.f ∧ SlC col S W σ.kp ∧ KpC col kb W σ.kp σ.kv)
    (hb : Below B W W') (hk : ∀ i, i < W.heap.size → col i ≠ 5 → col i ≠ 6 → W'.heap[i]? = W.heap[i]?) (hc : ∀ i, i < W.heap.size → col' i = col i) (hc2 : ∀ i, W.heap.size ≤ i → col' i ≠ 0 → i < W'.heap.size) (hp : SlC col' S W' kp') (hq : KpC col' kb W' kp' kv') : MStep B col M W { σ with kp := kp', kv := kv' } W' := by
  obtain ⟨w0, t1, t2, t3⟩ := h.tab
  obtain ⟨h1, h2, h3, h4, h5, h6⟩ := hn
  have hs := hb.size
  have hB := h.size
  refine ⟨col', ⟨fun i hi => ?_, by rw [hc M h.lo.2]; exact h.me, ⟨w0, t1, t2, t3.trans (hb.mono t2)⟩, P, sg, t, S, kb, h1.keep (hk M h.lo.2 (by rw [h.me]; decide) (by rw [h.me]; decide)), ?_, ?_, ?_, hp, hq⟩, hc, fun i hi h0 => hk i hi (by omega) (by omega), hb⟩
  · by_cases hi2 : i < W.heap.size
    · have := h.own i (by rw [← hc i hi2]; exact hi); omega
    · have := hc2 i (by omega) hi; omega
  · exact h2.move hs (fun i a e => hk i a (by rw [e]; decide) (by rw [e]; decide)) hc
  · exact h3.move hs (fun i a e => hk i a (by rw [e]; decide) (by rw [e]; decide)) hc
  · exact h4.move hs (fun i a e => hk i a (by rw [e]; decide) (by rw [e]; decide)) hc
end
end Go.Proofs.YtljjcomedjdpaaaDoor

