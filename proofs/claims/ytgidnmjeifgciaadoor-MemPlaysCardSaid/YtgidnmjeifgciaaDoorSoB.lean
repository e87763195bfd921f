/- The store: what it is like, and its pages. -/
import Derived.Test.YtgidnmjeifgciaaDoorSoA
import Derived.Test.YtgidnmjeifgciaaDoorSpanG
import Derived.Deep.DeepCutAuto
import Derived.Deep.RegionHeld3
namespace Go.Proofs.YtgidnmjeifgciaaDoor
set_option maxRecDepth 100000
open Go.RowKit Go.ChangeMaps Go.MapKept
open Go.Maps (Keyed)
set_option linter.unusedVariables false
set_option linter.unusedSimpArgs false

/-- A page's bytes. -/
def PG (q : Nat) (W : World) (f : Nat → Nat) : Prop := q < W.heap.size ∧ (∀ j, j < 256 → W.cell? ⟨q, j, none⟩ = some (.int .u8 (f j : Int))) ∧ ∀ o, W.frozen? ⟨q, o, none⟩ = false
theorem PG.keep {q : Nat} {W W' : World} {f : Nat → Nat} (h : PG q W f) (hs : W.heap.size ≤ W'.heap.size) (e : W'.heap[q]? = W.heap[q]?) : PG q W' f :=
  ⟨Nat.lt_of_lt_of_le h.1 hs, fun j hj => (World.cell?_of_block e).trans (h.2.1 j hj), fun o => (World.frozen?_of_block e).trans (h.2.2 o)⟩
/-- The store at g, its map at b, the pages l, the bytes c; nothing of it lies below B. -/
def STL (B g b : Nat) (W : World) (l : List (Nat × Nat)) (c : Nat → Nat) : Prop :=
  W.cell? ⟨g, 0, none⟩ = some (.map (some b)) ∧ (B ≤ g ∧ B ≤ b ∧ g ≠ b ∧ g < W.heap.size ∧ b < W.heap.size) ∧ MP b W l ∧
    (∀ pq ∈ l, pq.2 ≠ g ∧ pq.2 ≠ b ∧ B ≤ pq.2 ∧ PG pq.2 W (fun j => c (pq.1 * 256 + j))) ∧ (l.map Prod.snd).Nodup ∧ (∀ x, (∀ q, ¬ (x / 256, q) ∈ l) → c x = 0)
def ST (B g : Nat) (W : World) (c : Nat → Nat) : Prop := ∃ b l, STL B g b W l c
theorem STL.keep {B g b : Nat} {W W' : World} {l : List (Nat × Nat)} {c : Nat → Nat} (h : STL B g b W l c) (hs : W.heap.size ≤ W'.heap.size) (ho : ∀ i, i < W.heap.size → B ≤ i → W'.heap[i]? = W.heap[i]?) : STL B g b W' l c := by
  obtain ⟨h1, ⟨h2, h3, h4, h5, h6⟩, h7, h8, h9⟩ := h
  exact ⟨(World.cell?_of_block (ho g h5 h2)).trans h1, ⟨h2, h3, h4, Nat.lt_of_lt_of_le h5 hs, Nat.lt_of_lt_of_le h6 hs⟩, h7.keep (ho b h6 h3), fun pq hpq => by
    obtain ⟨k1, k2, k3, k4⟩ := h8 pq hpq
    exact ⟨k1, k2, k3, k4.keep hs (ho pq.2 k4.1 k3)⟩, h9⟩
theorem STL.below {B g b : Nat} {W W' : World} {l : List (Nat × Nat)} {c : Nat → Nat} (h : STL B g b W l c) (hb : Below W.heap.size W W') : STL B g b W' l c := h.keep hb.size (fun i hi _ => hb.block i hi)
theorem ST.below {B g : Nat} {W W' : World} {c : Nat → Nat} (h : ST B g W c) (hb : Below W.heap.size W W') : ST B g W' c := by
  obtain ⟨b, l, h⟩ := h
  exact ⟨b, l, h.below hb⟩
theorem infoU8 : (Tryd.prog.info? 5).map (fun i => (i.zero, i.size, i.bytes)) = some (some (.int .u8 0), 1, 1) := by kernel_rfl
theorem mkN (n : Nat) (hn : n ≤ 262144) (W : World) : (Instr.makeSlice 35 (.int .i64 (n : Int)) (.int .i64 (n : Int))).run Tryd.prog W = .ok (.slice (some ⟨W.heap.size, 0, none⟩) n n) (W.alloc (.cells (madeCells #[.int .u8 0] n) 5)) := by
  cases hi : Tryd.prog.info? 5 with
  | none => have := infoU8; rw [hi] at this; cases this
  | some i0 =>
    have h := infoU8
    rw [hi] at h
    injection h with h
    injection h with hz0 h
    injection h with hz1 hz2
    have := run_make (P := Tryd.prog) (w := W) 35 5 i0 (.int .u8 0) Tryd.underlying35 hi hz0 .i64 .i64 n n (by omega) (by omega) (by rw [hz2]; omega) (by omega)
    rw [hz1, Int.toNat_natCast, Nat.mul_one] at this
    exact this
theorem made_cell (W : World) (n : Nat) (E : TypeId) (j : Nat) (hj : j < n) : (W.alloc (.cells (madeCells #[.int .u8 0] n) E)).cell? ⟨W.heap.size, j, none⟩ = some (.int .u8 0) := by
  rw [World.cell?_alloc_mark]
  have := toList_madeCells_one (.int .u8 0) n
  rw [← Array.getElem?_toList, this, List.getElem?_replicate, if_pos hj]
theorem made_frozen (W : World) (n : Nat) (E : TypeId) (o : Nat) : (W.alloc (.cells (madeCells #[.int .u8 0] n) E)).frozen? ⟨W.heap.size, o, none⟩ = false := by simp
/-- May so many bytes be, from a place on? -/
theorem smay (p : Option Addr) (at_ n : Int) (W : World) :
    Calls Tryd.prog 109 #[.pointer p, .int .i64 at_, .int .i64 n] W fun e w' => e = .returned (.bool (decide (p ≠ none) && mayB at_ n)) ∧ Below W.heap.size W w' := by
  cases p with
  | none =>
    go_enter Tryd.func109, Tryd.ntmps109
    go_wp2
    go_ret
    exact ⟨by first | rfl | simp, Below.refl _ _⟩
  | some a =>
    go_enter Tryd.func109, Tryd.ntmps109
    go_wp2_with fail
    refine (may_any _ _ _).mono ?_
    rintro e w1 ⟨rfl, hb⟩
    obtain ⟨X, hX⟩ : ∃ X, mayB at_ n = X := ⟨_, rfl⟩
    rw [hX]
    have HX := Lib.hid hX
    clear hX
    go_wp2
    go_ret
    exact ⟨by rw [HX.out]; rfl, hb⟩
end Go.Proofs.YtgidnmjeifgciaaDoor
