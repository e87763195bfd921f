/- RegsPlays: capabilities as data, and rows of them. -/
import Derived.Test.YtpciigahikciiaaRegS
import Derived.Test.YtpciigahikciiaaCapaR
namespace Go.Proofs.Ytpciigahikciiaa
open Go.RowKit
set_option linter.unusedVariables false
set_option linter.unusedSimpArgs false

structure CapV where
  b : Int
  l : Int
  c : Int
  p : Int
  t : Int
  v : Bool
def CapV.vs (x : CapV) : Array Value := #[.int .i64 x.b, .int .i64 x.l, .int .i64 x.c, .int .i64 x.p, .int .i64 x.t, .bool x.v]
def cap0 : CapV := ⟨0, 0, 0, 0, 0, false⟩
def CV (f : Nat → CapV) : Nat → Value := fun i => (f (i / 6)).vs[i % 6]!
def updC (f : Nat → CapV) (h : Nat) (x : CapV) : Nat → CapV := fun k => if k = h then x else f k
theorem CV_zero : zeroV = CV (fun _ => cap0) := rfl
theorem CV_put (f : Nat → CapV) (h : Nat) (x : CapV) : putV (CV f) h x.vs = CV (updC f h x) := by
  funext i
  simp only [putV, CV, updC]
  split <;> rfl
theorem CV_at (f : Nat → CapV) (h j : Nat) (hj : j < 6) : CV f (h * 6 + j) = (f h).vs[j]! := by
  unfold CV
  rw [show (h * 6 + j) / 6 = h by omega, show (h * 6 + j) % 6 = j by omega]
theorem CV_0 (f : Nat → CapV) (h : Nat) : CV f (h * 6) = .int .i64 (f h).b := CV_at f h 0 (by decide)
theorem CV_1 (f : Nat → CapV) (h : Nat) : CV f (h * 6 + 1) = .int .i64 (f h).l := CV_at f h 1 (by decide)
theorem CV_2 (f : Nat → CapV) (h : Nat) : CV f (h * 6 + 2) = .int .i64 (f h).c := CV_at f h 2 (by decide)
theorem CV_3 (f : Nat → CapV) (h : Nat) : CV f (h * 6 + 3) = .int .i64 (f h).p := CV_at f h 3 (by decide)
theorem CV_4 (f : Nat → CapV) (h : Nat) : CV f (h * 6 + 4) = .int .i64 (f h).t := CV_at f h 4 (by decide)
theorem CV_5 (f : Nat → CapV) (h : Nat) : CV f (h * 6 + 5) = .bool (f h).v := CV_at f h 5 (by decide)
theorem CV_one (f : Nat → CapV) (i : Nat) : (CV f i).oneCell' = true := by
  unfold CV CapV.vs
  have hr : i % 6 = 0 ∨ i % 6 = 1 ∨ i % 6 = 2 ∨ i % 6 = 3 ∨ i % 6 = 4 ∨ i % 6 = 5 := by omega
  rcases hr with r | r | r | r | r | r <;> rw [r] <;> rfl
theorem cget (p g k h : Nat) (W : World) (f : Nat → CapV) (H : RegAt p g k W (CV f)) (hh : h < k) :
    Calls Try.prog 13 #[.pointer (some ⟨p, 0, none⟩), .int .i64 (h : Nat)] W fun e w' => e = .returned (.tuple #[.agg #[.int .i64 (f h).b, .int .i64 (f h).l, .int .i64 (f h).c, .int .i64 (f h).p, .int .i64 (f h).t, .bool (f h).v], .int .i64 0]) ∧ Below W.heap.size W w' :=
  rget_in p g k h W _ H hh _ _ _ _ _ _ (CV_0 f h) (CV_1 f h) (CV_2 f h) (CV_3 f h) (CV_4 f h) (CV_5 f h)
theorem cput (p g k h : Nat) (x : CapV) (W : World) (f : Nat → CapV) (H : RegAt p g k W (CV f)) (hh : h < k) (hm : capMayB x.b x.l x.c x.p x.t x.v = true) :
    Calls Try.prog 9 #[.pointer (some ⟨p, 0, none⟩), .int .i64 (h : Nat), .agg #[.int .i64 x.b, .int .i64 x.l, .int .i64 x.c, .int .i64 x.p, .int .i64 x.t, .bool x.v]] W fun e w' => e = .returned (.int .i64 0) ∧ RegAt p g k w' (CV (updC f h x)) ∧ Keeps g W w' := by
  have h1 := rput_in p g k h x.b x.l x.c x.p x.t x.v W _ H hh hm
  have e := CV_put f h x
  unfold CapV.vs at e
  rw [e] at h1
  exact h1
/-- So many capabilities in a block. -/
def CB (M n : Nat) (W : World) (f : Nat → CapV) : Prop := M < W.heap.size ∧ ∀ i, i < 6 * n → W.cell? ⟨M, i, none⟩ = some (CV f i) ∧ W.frozen? ⟨M, i, none⟩ = false
theorem CB.keep {M n : Nat} {W W' : World} {f : Nat → CapV} (h : CB M n W f) (hs : W.heap.size ≤ W'.heap.size) (e : W'.heap[M]? = W.heap[M]?) : CB M n W' f :=
  ⟨Nat.lt_of_lt_of_le h.1 hs, fun i hi => ⟨(World.cell?_of_block e).trans (h.2 i hi).1, (World.frozen?_of_block e).trans (h.2 i hi).2⟩⟩
theorem CB.below {M n : Nat} {W W' : World} {f : Nat → CapV} (h : CB M n W f) (hb : Below W.heap.size W W') : CB M n W' f := h.keep hb.size (hb.block M h.1)
theorem CB.at_ {M n : Nat} {W : World} {f : Nat → CapV} (h : CB M n W f) (k : Nat) (hk : k < n) :
    W.cell? ⟨M, k * 6, none⟩ = some (.int .i64 (f k).b) ∧ W.cell? ⟨M, k * 6 + 1, none⟩ = some (.int .i64 (f k).l) ∧ W.cell? ⟨M, k * 6 + 2, none⟩ = some (.int .i64 (f k).c) ∧ W.cell? ⟨M, k * 6 + 3, none⟩ = some (.int .i64 (f k).p) ∧ W.cell? ⟨M, k * 6 + 4, none⟩ = some (.int .i64 (f k).t) ∧ W.cell? ⟨M, k * 6 + 5, none⟩ = some (.bool (f k).v) :=
  ⟨by rw [(h.2 _ (by omega)).1, CV_0], by rw [(h.2 _ (by omega)).1, CV_1], by rw [(h.2 _ (by omega)).1, CV_2], by rw [(h.2 _ (by omega)).1, CV_3], by rw [(h.2 _ (by omega)).1, CV_4], by rw [(h.2 _ (by omega)).1, CV_5]⟩
theorem CB.fz {M n : Nat} {W : World} {f : Nat → CapV} (h : CB M n W f) (k : Nat) (hk : k < n) :
    W.frozen? ⟨M, k * 6, none⟩ = false ∧ W.frozen? ⟨M, k * 6 + 1, none⟩ = false ∧ W.frozen? ⟨M, k * 6 + 2, none⟩ = false ∧ W.frozen? ⟨M, k * 6 + 3, none⟩ = false ∧ W.frozen? ⟨M, k * 6 + 4, none⟩ = false ∧ W.frozen? ⟨M, k * 6 + 5, none⟩ = false :=
  ⟨(h.2 _ (by omega)).2, (h.2 _ (by omega)).2, (h.2 _ (by omega)).2, (h.2 _ (by omega)).2, (h.2 _ (by omega)).2, (h.2 _ (by omega)).2⟩
theorem RegAt.cb {p g k : Nat} {W : World} {f : Nat → CapV} (h : RegAt p g k W (CV f)) : CB g k W f := ⟨h.2.1, fun i hi => h.2.2.2.2.2 i hi⟩
theorem CB.store {M n h : Nat} {W : World} {f : Nat → CapV} (H : CB M n W f) (hh : h < n) (x : CapV) :
    ∃ W', (((((W.setCell ⟨M, h * 6, none⟩ (.int .i64 x.b)).setCell ⟨M, h * 6 + 1, none⟩ (.int .i64 x.l)).setCell ⟨M, h * 6 + 2, none⟩ (.int .i64 x.c)).setCell ⟨M, h * 6 + 3, none⟩ (.int .i64 x.p)).setCell ⟨M, h * 6 + 4, none⟩ (.int .i64 x.t)).setCell ⟨M, h * 6 + 5, none⟩ (.bool x.v) = W' ∧ CB M n W' (updC f h x) ∧ Keeps M W W' ∧ W'.heap.size = W.heap.size := by
  have hc : (((((W.setCell ⟨M, h * 6, none⟩ (.int .i64 x.b)).setCell ⟨M, h * 6 + 1, none⟩ (.int .i64 x.l)).setCell ⟨M, h * 6 + 2, none⟩ (.int .i64 x.c)).setCell ⟨M, h * 6 + 3, none⟩ (.int .i64 x.p)).setCell ⟨M, h * 6 + 4, none⟩ (.int .i64 x.t)).setCell ⟨M, h * 6 + 5, none⟩ (.bool x.v) = W.setCells M (h * 6) [.int .i64 x.b, .int .i64 x.l, .int .i64 x.c, .int .i64 x.p, .int .i64 x.t, .bool x.v] := rfl
  have hs : ((((((W.setCell ⟨M, h * 6, none⟩ (.int .i64 x.b)).setCell ⟨M, h * 6 + 1, none⟩ (.int .i64 x.l)).setCell ⟨M, h * 6 + 2, none⟩ (.int .i64 x.c)).setCell ⟨M, h * 6 + 3, none⟩ (.int .i64 x.p)).setCell ⟨M, h * 6 + 4, none⟩ (.int .i64 x.t)).setCell ⟨M, h * 6 + 5, none⟩ (.bool x.v)).heap.size = W.heap.size := by simp only [size_set']
  refine ⟨_, rfl, ⟨by rw [hs]; exact H.1, fun i hi => ⟨?_, ?_⟩⟩, ⟨?_, ?_⟩, hs⟩
  · rw [hc]
    by_cases e : i / 6 = h
    · have hi2 : i = h * 6 + i % 6 := by omega
      have hm : i % 6 < 6 := Nat.mod_lt _ (by decide)
      have hin := World.cell?_setCells_in M [.int .i64 x.b, .int .i64 x.l, .int .i64 x.c, .int .i64 x.p, .int .i64 x.t, .bool x.v] (h * 6) W (fun j hj => by rw [(H.2 (h * 6 + j) (by simp at hj; omega)).1]; rfl) (i % 6) (by simpa using hm)
      rw [← hi2] at hin
      rw [hin]
      unfold CV updC CapV.vs
      rw [if_pos e]
      have hr : i % 6 = 0 ∨ i % 6 = 1 ∨ i % 6 = 2 ∨ i % 6 = 3 ∨ i % 6 = 4 ∨ i % 6 = 5 := by omega
      rcases hr with r | r | r | r | r | r <;> simp [r]
    · rw [World.cell?_setCells_out M _ _ W ⟨M, i, none⟩ (fun _ _ => by simp; omega), (H.2 i hi).1]
      unfold CV updC
      rw [if_neg e]
  · rw [hc, World.frozen?_setCells]
    exact (H.2 i hi).2
  · exact ((((((Below.refl _ _).setCell (Nat.le_refl M) _).setCell (Nat.le_refl M) _).setCell (Nat.le_refl M) _).setCell (Nat.le_refl M) _).setCell (Nat.le_refl M) _).setCell (Nat.le_refl M) _
  · intro i hi hn
    have hx : ∀ (W0 : World) (o : Nat) (v : Value), (W0.setCell ⟨M, o, none⟩ v).heap[i]? = W0.heap[i]? := fun W0 o v => Below.heap_setCell _ _ _ _ (by simpa using hn)
    simp only [hx]
end Go.Proofs.Ytpciigahikciiaa
