/- SoA, SoB in one text: a claim holds at most 60 files. -/
import Derived.Test.YtljjcomedjdpaaaDoorRows
import Derived.Test.YtljjcomedjdpaaaDoorInt
import Derived.Maps.Own
import Derived.DeepKeys4
import Derived.WalkKit
import Derived.ProofKit
import Derived.WalkLawsBesides
import Derived.WalkSpells
import Derived.Lib.Hide
import Derived.Laws.MakeOwn
import Derived.Laws.IdiomCopy
import Derived.Test.YtljjcomedjdpaaaDoorSpanG
import Derived.Deep.DeepCutAuto
import Derived.Deep.RegionHeld3
namespace Go.Proofs.YtljjcomedjdpaaaDoor
set_option maxRecDepth 100000
open Go.RowKit Go.ChangeMaps Go.MapKept
open Go.Maps (Keyed)
set_option linter.unusedVariables false
set_option linter.unusedSimpArgs false

theorem laidOutS : laidOutB Tryd.prog = true := by kernel_rfl
theorem kP : Keyed Tryd.prog 131 := Keyed.of_law (Go.deep_law_laid laidOutS (m := 3) (by omega) (by decide +kernel) (by kernel_rfl) (by kernel_rfl))
def kv (p : Nat) : Value := .agg #[.int .i64 (p : Int)]
def sl (q : Nat) : Value := .slice (some ⟨q, 0, none⟩) 256 256
theorem keyP (p : Nat) (hp : p < 1099511627776) : ∃ l, keyOf Tryd.prog 131 (kv p) = some l := by
  have ha : (Lit.int .i64 (p : Int)).wf = true := by
    simp [Lit.wf, IntKind.min, IntKind.max, IntKind.signed, IntKind.bits]; omega
  obtain ⟨m, hm⟩ : ∃ m, Tryd.prog.types.size = m + 1 := ⟨Tryd.prog.types.size - 1, by have h : 0 < Tryd.prog.types.size := (by decide +kernel); omega⟩
  have hkt : Tryd.prog.keyType 131 = true := by kernel_rfl
  have hc : Tryd.prog.cellsOf 131 = 1 := by kernel_rfl
  have hi : Tryd.prog.cellsOf 3 = 1 := by kernel_rfl
  unfold keyOf kv
  simp only [Tryd.underlying131]
  rw [if_pos (by simp [hkt, Value.formed, Tryd.underlying131, hc]), hm]
  unfold Program.keyLits
  simp only [Tryd.underlying131, Value.cells]
  rw [if_pos (by simp [hc])]
  simp [hi, Program.keyLits, Tryd.underlying3, ha, List.mapM_cons]
/-- Block b is the map of pages: (p, q): page p is kept in block q. -/
def MP (b : Nat) (W : World) (l : List (Nat × Nat)) : Prop :=
  ∃ es clock, W.heap[b]? = some (.map es clock) ∧ es.toList.map (fun e => (e.key, e.val)) = l.map (fun pq => (kv pq.1, sl pq.2)) ∧ (l.map Prod.fst).Nodup ∧ ∀ pq ∈ l, pq.1 < 1099511627776
theorem MP.keep {b : Nat} {W W' : World} {l : List (Nat × Nat)} (h : MP b W l) (e : W'.heap[b]? = W.heap[b]?) : MP b W' l := by
  obtain ⟨es, clock, hb, h1, h2, h3⟩ := h
  exact ⟨es, clock, e.trans hb, h1, h2, h3⟩
theorem kv_inj {p p' : Nat} (h : kv p = kv p') : p = p' := by
  simp only [kv, Value.agg.injEq, Array.mk.injEq, List.cons.injEq, Value.int.injEq, true_and, and_true] at h
  omega
theorem MP.at_ {es : Array MapEntry} {l : List (Nat × Nat)} (h : es.toList.map (fun e => (e.key, e.val)) = l.map (fun pq => (kv pq.1, sl pq.2))) {e : MapEntry} (he : e ∈ es.toList) : ∃ pq ∈ l, e.key = kv pq.1 ∧ e.val = sl pq.2 := by
  have h1 : (e.key, e.val) ∈ es.toList.map (fun e => (e.key, e.val)) := List.mem_map.2 ⟨e, he, rfl⟩
  rw [h] at h1
  obtain ⟨pq, hpq, h2⟩ := List.mem_map.1 h1
  injection h2 with h2 h3
  exact ⟨pq, hpq, h2.symm, h3.symm⟩
theorem MP.back {es : Array MapEntry} {l : List (Nat × Nat)} (h : es.toList.map (fun e => (e.key, e.val)) = l.map (fun pq => (kv pq.1, sl pq.2))) {pq : Nat × Nat} (hpq : pq ∈ l) : ∃ e ∈ es.toList, e.key = kv pq.1 ∧ e.val = sl pq.2 := by
  have h1 : (kv pq.1, sl pq.2) ∈ l.map (fun pq => (kv pq.1, sl pq.2)) := List.mem_map.2 ⟨pq, hpq, rfl⟩
  rw [← h] at h1
  obtain ⟨e, he, h2⟩ := List.mem_map.1 h1
  injection h2 with h2 h3
  exact ⟨e, he, h2, h3⟩
theorem zSl (W : World) : (zeroValue 39).run Tryd.prog W = .ok (.slice none 0 0) W := by kernel_rfl
/-- A look at the map. -/
theorem lookP (W : World) (b : Nat) (l : List (Nat × Nat)) (h : MP b W l) (p : Nat) (hp : p < 1099511627776) :
    (∃ q, (p, q) ∈ l ∧ (Instr.lookup 114 (.map (some b)) (kv p) true).run Tryd.prog W = .ok (.tuple #[sl q, .bool true]) W ∧ (Instr.lookup 114 (.map (some b)) (kv p) false).run Tryd.prog W = .ok (sl q) W) ∨
    ((∀ q, ¬ (p, q) ∈ l) ∧ (Instr.lookup 114 (.map (some b)) (kv p) true).run Tryd.prog W = .ok (.tuple #[.slice none 0 0, .bool false]) W ∧ (Instr.lookup 114 (.map (some b)) (kv p) false).run Tryd.prog W = .ok (.slice none 0 0) W) := by
  obtain ⟨es, clock, hb, h1, h2, h3⟩ := h
  obtain ⟨lt, hl⟩ := keyP p hp
  have hes : ∀ e ∈ es.toList, ∃ l, keyOf Tryd.prog 131 e.key = some l := by
    intro e he
    obtain ⟨pq, hpq, e1, _⟩ := MP.at_ h1 he
    rw [e1]
    exact keyP pq.1 (h3 pq hpq)
  rcases kP.find W hl es.toList hes with ⟨f1, f2⟩ | ⟨j, e0, f1, f2, f3⟩
  · right
    refine ⟨fun q hq => ?_, ?_, ?_⟩
    · obtain ⟨e, he, e1, _⟩ := MP.back h1 hq
      exact f2 e he e1
    · simp [Instr.lookup, run_underlying Tryd.underlying114, MapKept.run_getObj_map hb, kP.check W _ hl, f1, zSl, Result.andThen]
    · simp [Instr.lookup, run_underlying Tryd.underlying114, MapKept.run_getObj_map hb, kP.check W _ hl, f1, zSl, Result.andThen]
  · left
    obtain ⟨pq, hpq, e1, e2⟩ := MP.at_ h1 (List.mem_of_getElem? f2)
    obtain ⟨p', q⟩ := pq
    have hpp : p' = p := kv_inj (e1.symm.trans f3)
    subst hpp
    refine ⟨q, hpq, ?_, ?_⟩
    · rw [← show e0.val = sl q from e2]
      simp [Instr.lookup, run_underlying Tryd.underlying114, MapKept.run_getObj_map hb, kP.check W _ hl, f1, Result.andThen]
    · rw [← show e0.val = sl q from e2]
      simp [Instr.lookup, run_underlying Tryd.underlying114, MapKept.run_getObj_map hb, kP.check W _ hl, f1, Result.andThen]
/-- All but block b stands as it was. -/
def OB (b : Nat) (W w' : World) : Prop :=
  W.heap.size ≤ w'.heap.size ∧ (∀ i, i < W.heap.size → i ≠ b → w'.heap[i]? = W.heap[i]?) ∧ ∀ L, L ≤ b → L ≤ W.heap.size → Below L W w'
theorem OB.of_below {b : Nat} {W w' : World} (h : Below W.heap.size W w') : OB b W w' := ⟨h.size, fun i hi _ => h.block i hi, fun L _ hL => h.mono hL⟩
theorem below_block {L : Nat} {W W' : World} {b : Nat} {o : Obj} (h : Below L W W') (hb : L ≤ b) : Below L W (setBlock W' b o) := by
  refine ⟨h.os, h.tape, h.output, by simpa [setBlock] using h.size, fun k hk => ?_⟩
  rw [show (setBlock W' b o).heap[k]? = W'.heap[k]? from by simp only [setBlock]; rw [Array.getElem?_setIfInBounds_ne (by omega)]]
  exact h.block k hk
theorem block_same {W : World} {b : Nat} {o : Obj} (hb : b < W.heap.size) : (setBlock W b o).heap[b]? = some o := by
  simp [setBlock, hb]
theorem block_other {W : World} {b i : Nat} {o : Obj} (hi : i ≠ b) : (setBlock W b o).heap[i]? = W.heap[i]? := by
  simp only [setBlock]; rw [Array.getElem?_setIfInBounds_ne (by omega)]
theorem size_block {W : World} {b : Nat} {o : Obj} : (setBlock W b o).heap.size = W.heap.size := by simp [setBlock]
/-- An insertion of a page that is not kept. -/
theorem insP (W : World) (b : Nat) (l : List (Nat × Nat)) (h : MP b W l) (hbz : b < W.heap.size) (p q : Nat) (hp : p < 1099511627776) (hno : ∀ q, ¬ (p, q) ∈ l) :
    ∃ W', (Instr.mapUpdate 114 (.map (some b)) (kv p) (sl q)).run Tryd.prog W = .ok () W' ∧ MP b W' (l ++ [(p, q)]) ∧ W'.heap.size = W.heap.size ∧ OB b W W' := by
  obtain ⟨es, clock, hb, h1, h2, h3⟩ := h
  obtain ⟨lt, hl⟩ := keyP p hp
  have hes : ∀ e ∈ es.toList, ∃ l, keyOf Tryd.prog 131 e.key = some l := by
    intro e he
    obtain ⟨pq, hpq, e1, _⟩ := MP.at_ h1 he
    rw [e1]
    exact keyP pq.1 (h3 pq hpq)
  rcases kP.find W hl es.toList hes with ⟨f1, f2⟩ | ⟨j, e0, f1, f2, f3⟩
  · refine ⟨setBlock W b (.map (es.push ⟨kv p, sl q, clock⟩) (clock + 1)), ?_, ⟨_, _, block_same hbz, ?_, ?_, ?_⟩, size_block, ?_⟩
    · simp [Instr.mapUpdate, run_underlying Tryd.underlying114, MapKept.run_getObj_map hb, kP.check W false hl, f1, MapKept.run_setObj_map _ hb, Result.andThen, setBlock]
    · simp [h1]
    · rw [List.map_append, List.nodup_append]
      refine ⟨h2, by simp, ?_⟩
      intro a ha c hc
      obtain ⟨pq, hpq, rfl⟩ := List.mem_map.1 ha
      simp at hc
      subst hc
      intro e
      exact hno pq.2 (by rw [← e]; exact hpq)
    · intro pq hpq
      rcases List.mem_append.1 hpq with h | h
      · exact h3 pq h
      · simp at h; subst h; exact hp
    · refine ⟨by rw [size_block]; exact Nat.le_refl _, fun i _ hi => block_other hi, fun L hL hW => below_block ((Below.refl _ _).mono hW) hL⟩
  · obtain ⟨pq, hpq, e1, e2⟩ := MP.at_ h1 (List.mem_of_getElem? f2)
    obtain ⟨p', q'⟩ := pq
    have hpp : p' = p := kv_inj (e1.symm.trans f3)
    subst hpp
    exact absurd hpq (hno q')
end Go.Proofs.YtljjcomedjdpaaaDoor
namespace Go.Proofs.YtljjcomedjdpaaaDoor
set_option maxRecDepth 100000
open Go.RowKit Go.ChangeMaps Go.MapKept
open Go.Maps (Keyed)
set_option linter.unusedVariables false
set_option linter.unusedSimpArgs false

/-- A page's bytes. -/
def PG (q : Nat) (W : World) (f : Nat → Nat) : Prop := q < W.heap.size ∧ (∀ j, j < 256 → W.cell? ⟨q, j, none⟩ = some (.int .u8 (f j : Int))) ∧ ∀ o, W.frozen? ⟨q, o, none⟩ = false
theorem PG.keep {q : Nat} {W W' : World} {f : Nat → Nat} (h : PG q W f) (hs : W.heap.size ≤ W'.heap.size) (e : W'.heap[q]? = W.heap[q]?) : PG q W' f :=
  ⟨Nat.lt_of_lt_of_le h.1 hs, fun j hj => (World.cell?_of_block e).trans (h.2.1 j hj), fun o => (World.frozen?_of_block e).trans (h.2.2 o)⟩
/-- The store at g, its map at b, the pages l, the bytes c; nothing of it lies below B. -/
def STL (B g b : Nat) (W : World) (l : List (Nat × Nat)) (c : Nat → Nat) : Prop :=
  W.cell? ⟨g, 0, none⟩ = some (.map (some b)) ∧ (B ≤ g ∧ B ≤ b ∧ g ≠ b ∧ g < W.heap.size ∧ b < W.heap.size) ∧ MP b W l ∧
    (∀ pq ∈ l, pq.2 ≠ g ∧ pq.2 ≠ b ∧ B ≤ pq.2 ∧ PG pq.2 W (fun j => c (pq.1 * 256 + j))) ∧ (l.map Prod.snd).Nodup ∧ (∀ x, (∀ q, ¬ (x / 256, q) ∈ l) → c x = 0)
def ST (B g : Nat) (W : World) (c : Nat → Nat) : Prop := ∃ b l, STL B g b W l c
theorem STL.keep {B g b : Nat} {W W' : World} {l : List (Nat × Nat)} {c : Nat → Nat} (h : STL B g b W l c) (hs : W.heap.size ≤ W'.heap.size) (ho : ∀ i, i < W.heap.size → B ≤ i → W'.heap[i]? = W.heap[i]?) : STL B g b W' l c := by
  obtain ⟨h1, ⟨h2, h3, h4, h5, h6⟩, h7, h8, h9⟩ := h
  exact ⟨(World.cell?_of_block (ho g h5 h2)).trans h1, ⟨h2, h3, h4, Nat.lt_of_lt_of_le h5 hs, Nat.lt_of_lt_of_le h6 hs⟩, h7.keep (ho b h6 h3), fun pq hpq => by
    obtain ⟨k1, k2, k3, k4⟩ := h8 pq hpq
    exact ⟨k1, k2, k3, k4.keep hs (ho pq.2 k4.1 k3)⟩, h9⟩
theorem STL.below {B g b : Nat} {W W' : World} {l : List (Nat × Nat)} {c : Nat → Nat} (h : STL B g b W l c) (hb : Below W.heap.size W W') : STL B g b W' l c := h.keep hb.size (fun i hi _ => hb.block i hi)
theorem ST.below {B g : Nat} {W W' : World} {c : Nat → Nat} (h : ST B g W c) (hb : Below W.heap.size W W') : ST B g W' c := by
  obtain ⟨b, l, h⟩ := h
  exact ⟨b, l, h.below hb⟩
theorem infoU8 : (Tryd.prog.info? 5).map (fun i => (i.zero, i.size, i.bytes)) = some (some (.int .u8 0), 1, 1) := by kernel_rfl
theorem mkN (n : Nat) (hn : n ≤ 262144) (W : World) : (Instr.makeSlice 39 (.int .i64 (n : Int)) (.int .i64 (n : Int))).run Tryd.prog W = .ok (.slice (some ⟨W.heap.size, 0, none⟩) n n) (W.alloc (.cells (madeCells #[.int .u8 0] n) 5)) := by
  cases hi : Tryd.prog.info? 5 with
  | none => have := infoU8; rw [hi] at this; cases this
  | some i0 =>
    have h := infoU8
    rw [hi] at h
    injection h with h
    injection h with hz0 h
    injection h with hz1 hz2
    have := run_make (P := Tryd.prog) (w := W) 39 5 i0 (.int .u8 0) Tryd.underlying39 hi hz0 .i64 .i64 n n (by omega) (by omega) (by rw [hz2]; omega) (by omega)
    rw [hz1, Int.toNat_natCast, Nat.mul_one] at this
    exact this
theorem made_cell (W : World) (n : Nat) (E : TypeId) (j : Nat) (hj : j < n) : (W.alloc (.cells (madeCells #[.int .u8 0] n) E)).cell? ⟨W.heap.size, j, none⟩ = some (.int .u8 0) := by
  rw [World.cell?_alloc_mark]
  have := toList_madeCells_one (.int .u8 0) n
  rw [← Array.getElem?_toList, this, List.getElem?_replicate, if_pos hj]
theorem made_frozen (W : World) (n : Nat) (E : TypeId) (o : Nat) : (W.alloc (.cells (madeCells #[.int .u8 0] n) E)).frozen? ⟨W.heap.size, o, none⟩ = false := by simp
/-- May so many bytes be, from a place on? -/
theorem smay (p : Option Addr) (at_ n : Int) (W : World) :
    Calls Tryd.prog 83 #[.pointer p, .int .i64 at_, .int .i64 n] W fun e w' => e = .returned (.bool (decide (p ≠ none) && mayB at_ n)) ∧ Below W.heap.size W w' := by
  cases p with
  | none =>
    go_enter Tryd.func83, Tryd.ntmps83
    go_wp2
    go_ret
    exact ⟨by first | rfl | simp, Below.refl _ _⟩
  | some a =>
    go_enter Tryd.func83, Tryd.ntmps83
    go_wp2_with fail
    refine (may_any _ _ _).mono ?_
    rintro e w1 ⟨rfl, hb⟩
    obtain ⟨X, hX⟩ : ∃ X, mayB at_ n = X := ⟨_, rfl⟩
    rw [hX]
    have HX := Lib.hid hX
    clear hX
    go_wp2
    go_ret
    exact ⟨by rw [HX.out]; rfl, hb⟩
end Go.Proofs.YtljjcomedjdpaaaDoor

