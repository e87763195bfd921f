/- MoA. -/
import Derived.Test.YtanmmhbnjmglhaaRows
import Derived.Test.YtanmmhbnjmglhaaZ01
import Derived.Deep.RegionHeld3
import Derived.Maps.Own
import Derived.DeepKeys4
import Derived.WalkKit
import Derived.ProofKit
import Derived.WalkLawsBesides
import Derived.WalkSpells
import Derived.Lib.Hide
import Derived.RegionTactic
import Derived.BigRegion
import Derived.Deep.DeepCutAuto
namespace Go.Proofs.Ytanmmhbnjmglhaa
set_option maxRecDepth 100000
open Go.RowKit Go.ChangeMaps Go.MapKept
open Go.Maps (Keyed)
set_option linter.unusedVariables false
set_option linter.unusedSimpArgs false
def I64 (x : Int) : Prop := -9223372036854775808 ≤ x ∧ x ≤ 9223372036854775807
theorem I64.wf {x : Int} (h : I64 x) : (Lit.int .i64 x).wf = true := by
  have h1 := h.1
  have h2 := h.2
  simp [Lit.wf, IntKind.min, IntKind.max, IntKind.signed, IntKind.bits]
  omega
theorem kI : Keyed Try.prog 3 := Maps.int_keyed Try.underlying3
theorem kI_of {x : Int} (h : I64 x) : keyOf Try.prog 3 (.int .i64 x) = some (.int .i64 x) := Maps.keyOf_int_mk Try.underlying3 h.wf
abbrev pv (q : Nat) : Value := .pointer (some ⟨q, 0, none⟩)
/-- Block b is the map of chunks: (k, q): chunk k lies in block q. -/
def MP (b : Nat) (W : World) (l : List (Int × Nat)) : Prop :=
  ∃ es clock, W.heap[b]? = some (.map es clock) ∧ es.toList.map (fun e => (e.key, e.val)) = l.map (fun pq => (Value.int .i64 pq.1, pv pq.2)) ∧ (l.map Prod.fst).Nodup ∧ ∀ pq ∈ l, I64 pq.1
theorem MP.lt {b : Nat} {W : World} {l : List (Int × Nat)} (h : MP b W l) : b < W.heap.size := by
  obtain ⟨es, clock, hb, -⟩ := h
  exact (Array.getElem?_eq_some_iff.1 hb).1
theorem MP.keep {b : Nat} {W W' : World} {l : List (Int × Nat)} (h : MP b W l) (e : W'.heap[b]? = W.heap[b]?) : MP b W' l := by
  obtain ⟨es, clock, hb, h1, h2, h3⟩ := h
  exact ⟨es, clock, e.trans hb, h1, h2, h3⟩
theorem mp_made (W : World) : MP W.heap.size (W.alloc (.map #[] 0)) [] := ⟨#[], 0, (MapKept.heap_alloc W _).1, rfl, List.nodup_nil, by simp⟩
theorem MP.at_ {es : Array MapEntry} {l : List (Int × Nat)} (h : es.toList.map (fun e => (e.key, e.val)) = l.map (fun pq => (Value.int .i64 pq.1, pv pq.2))) {e : MapEntry} (he : e ∈ es.toList) : ∃ pq ∈ l, e.key = .int .i64 pq.1 ∧ e.val = pv pq.2 := by
  have h1 : (e.key, e.val) ∈ es.toList.map (fun e => (e.key, e.val)) := List.mem_map.2 ⟨e, he, rfl⟩
  rw [h] at h1
  obtain ⟨pq, hpq, h2⟩ := List.mem_map.1 h1
  injection h2 with h2 h3
  exact ⟨pq, hpq, h2.symm, h3.symm⟩
theorem MP.back {es : Array MapEntry} {l : List (Int × Nat)} (h : es.toList.map (fun e => (e.key, e.val)) = l.map (fun pq => (Value.int .i64 pq.1, pv pq.2))) {pq : Int × Nat} (hpq : pq ∈ l) : ∃ e ∈ es.toList, e.key = .int .i64 pq.1 ∧ e.val = pv pq.2 := by
  have h1 : (Value.int .i64 pq.1, pv pq.2) ∈ l.map (fun pq => (Value.int .i64 pq.1, pv pq.2)) := List.mem_map.2 ⟨pq, hpq, rfl⟩
  rw [← h] at h1
  obtain ⟨e, he, h2⟩ := List.mem_map.1 h1
  injection h2 with h2 h3
  exact ⟨e, he, h2, h3⟩
theorem zPt (W : World) : (zeroValue 103).run Try.prog W = .ok (.pointer none) W := by kernel_rfl
/-- A look at the map. -/
theorem lookM (W : World) (b : Nat) (l : List (Int × Nat)) (h : MP b W l) (k : Int) (hk : I64 k) :
    (∃ q, (k, q) ∈ l ∧ (Instr.lookup 59 (.map (some b)) (.int .i64 k) false).run Try.prog W = .ok (pv q) W) ∨
    ((∀ q, ¬ (k, q) ∈ l) ∧ (Instr.lookup 59 (.map (some b)) (.int .i64 k) false).run Try.prog W = .ok (.pointer none) W) := by
  obtain ⟨es, clock, hb, h1, h2, h3⟩ := h
  have hl := kI_of hk
  have hes : ∀ e ∈ es.toList, ∃ l, keyOf Try.prog 3 e.key = some l := by
    intro e he
    obtain ⟨pq, hpq, e1, _⟩ := MP.at_ h1 he
    rw [e1]
    exact ⟨_, kI_of (h3 pq hpq)⟩
  rcases kI.find W hl es.toList hes with ⟨f1, f2⟩ | ⟨j, e0, f1, f2, f3⟩
  · right
    refine ⟨fun q hq => ?_, ?_⟩
    · obtain ⟨e, he, e1, _⟩ := MP.back h1 hq
      exact f2 e he e1
    · simp [Instr.lookup, run_underlying Try.underlying59, MapKept.run_getObj_map hb, kI.check W _ hl, f1, zPt, Result.andThen]
  · left
    obtain ⟨pq, hpq, e1, e2⟩ := MP.at_ h1 (List.mem_of_getElem? f2)
    obtain ⟨p', q⟩ := pq
    have hpp : p' = k := by
      have := e1.symm.trans f3
      injection this
    subst hpp
    refine ⟨q, hpq, ?_⟩
    rw [← show e0.val = pv q from e2]
    simp [Instr.lookup, run_underlying Try.underlying59, MapKept.run_getObj_map hb, kI.check W _ hl, f1, Result.andThen]
theorem below_block {L : Nat} {W W' : World} {b : Nat} {o : Obj} (h : Below L W W') (hb : L ≤ b) : Below L W (setBlock W' b o) := by
  refine ⟨h.os, h.tape, h.output, by simpa [setBlock] using h.size, fun k hk => ?_⟩
  rw [show (setBlock W' b o).heap[k]? = W'.heap[k]? from by simp only [setBlock]; rw [Array.getElem?_setIfInBounds_ne (by omega)]]
  exact h.block k hk
theorem block_same {W : World} {b : Nat} {o : Obj} (hb : b < W.heap.size) : (setBlock W b o).heap[b]? = some o := by
  simp [setBlock, hb]
theorem block_other {W : World} {b i : Nat} {o : Obj} (hi : i ≠ b) : (setBlock W b o).heap[i]? = W.heap[i]? := by
  simp only [setBlock]; rw [Array.getElem?_setIfInBounds_ne (by omega)]
theorem size_block {W : World} {b : Nat} {o : Obj} : (setBlock W b o).heap.size = W.heap.size := by simp [setBlock]
/-- Only block b changed, not in its number. -/
def OnlyB (b : Nat) (W W' : World) : Prop := W'.heap.size = W.heap.size ∧ (∀ i, i ≠ b → W'.heap[i]? = W.heap[i]?) ∧ ∀ L, L ≤ b → L ≤ W.heap.size → Below L W W'
/-- An insertion of a chunk that is not there. -/
theorem insM (W : World) (b : Nat) (l : List (Int × Nat)) (h : MP b W l) (p : Int) (q : Nat) (hp : I64 p) (hno : ∀ q, ¬ (p, q) ∈ l) :
    ∃ W', (Instr.mapUpdate 59 (.map (some b)) (.int .i64 p) (pv q)).run Try.prog W = .ok () W' ∧ MP b W' (l ++ [(p, q)]) ∧ OnlyB b W W' := by
  have hbz := h.lt
  obtain ⟨es, clock, hb, h1, h2, h3⟩ := h
  have hl := kI_of hp
  have hes : ∀ e ∈ es.toList, ∃ l, keyOf Try.prog 3 e.key = some l := by
    intro e he
    obtain ⟨pq, hpq, e1, _⟩ := MP.at_ h1 he
    rw [e1]
    exact ⟨_, kI_of (h3 pq hpq)⟩
  rcases kI.find W hl es.toList hes with ⟨f1, f2⟩ | ⟨j, e0, f1, f2, f3⟩
  · refine ⟨setBlock W b (.map (es.push ⟨.int .i64 p, pv q, clock⟩) (clock + 1)), ?_, ⟨_, _, block_same hbz, ?_, ?_, ?_⟩, size_block, fun i hi => block_other hi, fun L hL hW => below_block ((Below.refl _ _).mono hW) hL⟩
    · simp [Instr.mapUpdate, run_underlying Try.underlying59, MapKept.run_getObj_map hb, kI.check W false hl, f1, MapKept.run_setObj_map _ hb, Result.andThen, setBlock]
    · simp [h1]
    · rw [List.map_append, List.nodup_append]
      refine ⟨h2, by simp, ?_⟩
      intro a ha c hc
      obtain ⟨pq, hpq, rfl⟩ := List.mem_map.1 ha
      simp at hc
      subst hc
      intro e
      exact hno pq.2 (by rw [← e]; exact hpq)
    · intro pq hpq
      rcases List.mem_append.1 hpq with h | h
      · exact h3 pq h
      · simp at h; subst h; exact hp
  · obtain ⟨pq, hpq, e1, e2⟩ := MP.at_ h1 (List.mem_of_getElem? f2)
    obtain ⟨p', q'⟩ := pq
    have hpp : p' = p := by
      have := e1.symm.trans f3
      injection this
    subst hpp
    exact absurd hpq (hno q')
theorem lenM (W : World) (b : Nat) (l : List (Int × Nat)) (h : MP b W l) (ty : TypeId) : (Builtin.len_ #[59] ty #[.map (some b)]).run Try.prog W = .ok (.int .i64 (l.length : Int)) W := by
  obtain ⟨es, clock, hb, h1, h2, h3⟩ := h
  have e : es.size = l.length := by
    have := congrArg List.length h1
    simpa using this
  simp [Builtin.len_, run_underlying Try.underlying59, MapKept.run_getObj_map hb, goInt, Result.andThen, e]
/-- A capability without places. -/
structure Rf where
  c : Int
  o : Int
  l : Int
  u : Int
  p : Int
def Rf0 : Rf := ⟨0, 0, 0, 0, 0⟩
def Rf.v (q : Rf) : Value := .agg #[.int .i64 q.c, .int .i64 q.o, .int .i64 q.l, .int .i64 q.u, .int .i64 q.p]
def RfAt (W : World) (r off : Nat) (q : Rf) : Prop := W.cell? ⟨r, off, none⟩ = some (.int .i64 q.c) ∧ W.cell? ⟨r, off + 1, none⟩ = some (.int .i64 q.o) ∧ W.cell? ⟨r, off + 2, none⟩ = some (.int .i64 q.l) ∧ W.cell? ⟨r, off + 3, none⟩ = some (.int .i64 q.u) ∧ W.cell? ⟨r, off + 4, none⟩ = some (.int .i64 q.p)
/-- How an allocator is made. -/
structure Cf where
  pg : Int
  rg : Int
  lg : Int
  th : Int
  ca : Int
  ba : Int
  sh : Int
  re : Int
  mo : Int
  fi : Int
  ky : Int
def Cf.ok (C : Cf) : Prop := (0 ≤ C.th ∧ C.th ≤ 4) ∧ (0 ≤ C.mo ∧ C.mo ≤ 8000) ∧ (0 ≤ C.fi ∧ C.fi ≤ 255)
def CfAt (W : World) (m : Nat) (C : Cf) : Prop := W.cell? ⟨m, 0, none⟩ = some (.int .i64 C.pg) ∧ W.cell? ⟨m, 1, none⟩ = some (.int .i64 C.rg) ∧ W.cell? ⟨m, 2, none⟩ = some (.int .i64 C.lg) ∧ W.cell? ⟨m, 3, none⟩ = some (.int .i64 C.th) ∧ W.cell? ⟨m, 4, none⟩ = some (.int .i64 C.ca) ∧ W.cell? ⟨m, 5, none⟩ = some (.int .i64 C.ba) ∧ W.cell? ⟨m, 6, none⟩ = some (.int .i64 C.sh) ∧ W.cell? ⟨m, 7, none⟩ = some (.int .i64 C.re) ∧ W.cell? ⟨m, 8, none⟩ = some (.int .i64 C.mo) ∧ W.cell? ⟨m, 9, none⟩ = some (.int .i64 C.fi) ∧ W.cell? ⟨m, 10, none⟩ = some (.int .u64 C.ky)
/-- The model at m: its map of chunks at mb, its registers at r. -/
structure MO (m mb r : Nat) (C : Cf) (md : Nat) (ch : List (Int × Nat)) (rs : List Rf) (W : World) : Prop where
  lt : m < W.heap.size ∧ r < W.heap.size ∧ m ≠ mb ∧ m ≠ r ∧ mb ≠ r
  cf : CfAt W m C
  c11 : W.cell? ⟨m, 11, none⟩ = some (.int .i64 (md : Int))
  c12 : W.cell? ⟨m, 12, none⟩ = some (.map (some mb))
  c13 : W.cell? ⟨m, 13, none⟩ = some (.slice (some ⟨r, 0, none⟩) rs.length rs.length)
  fz : ∀ o, W.frozen? ⟨m, o, none⟩ = false ∧ W.frozen? ⟨r, o, none⟩ = false
  mp : MP mb W ch
  rg : ∀ (i : Nat) (q : Rf), rs[i]? = some q → RfAt W r (i * 5) q
  ok : C.ok ∧ rs.length ≤ 64 ∧ md ≤ 1000
  i64 : ∀ q ∈ rs, I64 q.c
section
variable {m mb r : Nat} {C : Cf} {md : Nat} {ch : List (Int × Nat)} {rs : List Rf} {W W' : World}
theorem CfAt.keep (h : CfAt W m C) (hk : W'.heap[m]? = W.heap[m]?) : CfAt W' m C := by
  obtain ⟨h0, h1, h2, h3, h4, h5, h6, h7, h8, h9, h10⟩ := h
  exact ⟨(World.cell?_of_block hk).trans h0, (World.cell?_of_block hk).trans h1, (World.cell?_of_block hk).trans h2, (World.cell?_of_block hk).trans h3, (World.cell?_of_block hk).trans h4, (World.cell?_of_block hk).trans h5, (World.cell?_of_block hk).trans h6, (World.cell?_of_block hk).trans h7, (World.cell?_of_block hk).trans h8, (World.cell?_of_block hk).trans h9, (World.cell?_of_block hk).trans h10⟩
theorem RfAt.keep {off : Nat} {q : Rf} (h : RfAt W r off q) (hk : W'.heap[r]? = W.heap[r]?) : RfAt W' r off q := by
  obtain ⟨h0, h1, h2, h3, h4⟩ := h
  exact ⟨(World.cell?_of_block hk).trans h0, (World.cell?_of_block hk).trans h1, (World.cell?_of_block hk).trans h2, (World.cell?_of_block hk).trans h3, (World.cell?_of_block hk).trans h4⟩
theorem MO.keep (h : MO m mb r C md ch rs W) (hs : W.heap.size ≤ W'.heap.size) (k1 : W'.heap[m]? = W.heap[m]?) (k2 : W'.heap[mb]? = W.heap[mb]?) (k3 : W'.heap[r]? = W.heap[r]?) : MO m mb r C md ch rs W' :=
  ⟨⟨Nat.lt_of_lt_of_le h.lt.1 hs, Nat.lt_of_lt_of_le h.lt.2.1 hs, h.lt.2.2⟩, h.cf.keep k1, (World.cell?_of_block k1).trans h.c11, (World.cell?_of_block k1).trans h.c12, (World.cell?_of_block k1).trans h.c13, fun o => ⟨(World.frozen?_of_block k1).trans (h.fz o).1, (World.frozen?_of_block k3).trans (h.fz o).2⟩, h.mp.keep k2, fun i q hq => (h.rg i q hq).keep k3, h.ok, h.i64⟩
theorem MO.below (h : MO m mb r C md ch rs W) (hb : Below W.heap.size W W') : MO m mb r C md ch rs W' := h.keep hb.size (hb.block m h.lt.1) (hb.block mb h.mp.lt) (hb.block r h.lt.2.1)
theorem mregs (h : MO m mb r C md ch rs W) : Calls Try.prog 18 #[.pointer (some ⟨m, 0, none⟩)] W fun e w' => e = .returned (.int .i64 (rs.length : Int)) ∧ W = w' := by
  have c13 := h.c13
  clear h
  go_enter Try.func18, Try.ntmps18
  go_wp2
  go_ret
  exact ⟨rfl, rfl⟩
theorem mlive (h : MO m mb r C md ch rs W) : Calls Try.prog 13 #[.pointer (some ⟨m, 0, none⟩)] W fun e w' => e = .returned (.int .i64 (ch.length : Int)) ∧ W = w' := by
  have c12 := h.c12
  have hl := lenM W mb ch h.mp
  clear h
  go_enter Try.func13, Try.ntmps13
  go_wp2
  go_ret
  exact ⟨rfl, rfl⟩
theorem mthread_yes (t : Int) (h : MO m mb r C md ch rs W) (ht : 0 ≤ t ∧ t < C.th) : Calls Try.prog 55 #[.pointer (some ⟨m, 0, none⟩), .int .i64 t] W fun e w' => e = .returned (.bool true) ∧ W = w' := by
  have c3 := h.cf.2.2.2.1
  obtain ⟨h0, h1⟩ := ht
  clear h
  go_enter Try.func55, Try.ntmps55
  go_wp2
  go_ret
  exact ⟨rfl, rfl⟩
theorem mthread_no (t : Int) (h : MO m mb r C md ch rs W) (ht : t < 0 ∨ C.th ≤ t) : Calls Try.prog 55 #[.pointer (some ⟨m, 0, none⟩), .int .i64 t] W fun e w' => e = .returned (.bool false) ∧ W = w' := by
  have c3 := h.cf.2.2.2.1
  clear h
  by_cases h0 : 0 ≤ t
  · have h1 : ¬ t < C.th := by omega
    clear ht
    go_enter Try.func55, Try.ntmps55
    go_wp2
    go_ret
    exact ⟨rfl, rfl⟩
  · have h2 : ¬ t ≥ 0 := h0
    clear ht
    go_enter Try.func55, Try.ntmps55
    go_wp2
    go_ret
    exact ⟨rfl, rfl⟩
end
def goodR (ch : List (Int × Nat)) (q : Rf) : Rf := if ch.any (fun e => decide (e.1 = q.c)) then q else Rf0
theorem goodR_nil (q : Rf) : goodR [] q = Rf0 := rfl
theorem goodR_in {ch : List (Int × Nat)} {q : Rf} {b : Nat} (h : (q.c, b) ∈ ch) : goodR ch q = q := by
  unfold goodR
  rw [if_pos (List.any_eq_true.2 ⟨_, h, by simp⟩)]
theorem goodR_out {ch : List (Int × Nat)} {q : Rf} (h : ∀ b, ¬ (q.c, b) ∈ ch) : goodR ch q = Rf0 := by
  unfold goodR
  rw [if_neg]
  intro h2
  obtain ⟨e, he, h3⟩ := List.any_eq_true.1 h2
  obtain ⟨a, b⟩ := e
  have h4 : a = q.c := by simpa using h3
  subst h4
  exact h b he
section
variable {m mb r : Nat} {C : Cf} {md : Nat} {ch : List (Int × Nat)} {rs : List Rf} {W : World}
theorem lookA (b : Nat) (l : List (Int × Nat)) (hn : (l.map Prod.fst).Nodup) (k : Int) (hk : I64 k) :
    (∃ q, (k, q) ∈ l ∧ ∀ W, MP b W l → (Instr.lookup 59 (.map (some b)) (.int .i64 k) false).run Try.prog W = .ok (pv q) W) ∨
    ((∀ q, ¬ (k, q) ∈ l) ∧ ∀ W, MP b W l → (Instr.lookup 59 (.map (some b)) (.int .i64 k) false).run Try.prog W = .ok (.pointer none) W) := by
  by_cases h : ∃ q, (k, q) ∈ l
  · obtain ⟨q, hq⟩ := h
    refine .inl ⟨q, hq, fun W hW => ?_⟩
    rcases lookM W b l hW k hk with ⟨q', hq', h2⟩ | ⟨hno, -⟩
    · obtain ⟨i, hi⟩ := List.getElem?_of_mem hq
      obtain ⟨j, hj⟩ := List.getElem?_of_mem hq'
      have e1 : (l.map Prod.fst)[i]? = some k := by rw [List.getElem?_map, hi]; rfl
      have e2 : (l.map Prod.fst)[j]? = some k := by rw [List.getElem?_map, hj]; rfl
      have e3 : i = j := (List.getElem?_inj (List.getElem?_eq_some_iff.1 e1).1 hn).1 (e1.trans e2.symm)
      subst e3
      rw [hi] at hj
      obtain rfl : q = q' := by injection hj with hj; injection hj
      exact h2
    · exact absurd hq (hno q)
  · refine .inr ⟨fun q hq => h ⟨q, hq⟩, fun W hW => ?_⟩
    rcases lookM W b l hW k hk with ⟨q', hq', -⟩ | ⟨-, h2⟩
    · exact absurd ⟨q', hq'⟩ h
    · exact h2
set_option maxHeartbeats 1600000 in
theorem mgood (q : Rf) (hq : I64 q.c) (h : MO m mb r C md ch rs W) : Calls Try.prog 31 #[.pointer (some ⟨m, 0, none⟩), q.v] W fun e w' => e = .returned (goodR ch q).v ∧ Below W.heap.size W w' := by
  have c12 := h.c12
  have hlt := h.lt.1
  have HMP := Lib.hid h.mp
  have hlook := lookA mb ch (by obtain ⟨_, _, _, _, h3, _⟩ := h.mp; exact h3) q.c hq
  clear h
  obtain ⟨qc, qo, ql, qu, qp⟩ := q
  have hsh : ∀ T, Below W.heap.size W ((W.alloc (.cells #[.int .i64 qc, .int .i64 qo, .int .i64 ql, .int .i64 qu, .int .i64 qp] T)).alloc (.cells #[.int .i64 0, .int .i64 0, .int .i64 0, .int .i64 0, .int .i64 0] T)) := fun T => alc (alc0 _ _) _
  have hwc : ∀ T o u, (#[.int .i64 qc, .int .i64 qo, .int .i64 ql, .int .i64 qu, .int .i64 qp] : Array Value)[o]? = some u → ((W.alloc (.cells #[.int .i64 qc, .int .i64 qo, .int .i64 ql, .int .i64 qu, .int .i64 qp] T)).alloc (.cells #[.int .i64 0, .int .i64 0, .int .i64 0, .int .i64 0, .int .i64 0] T)).cell? ⟨W.heap.size, o, none⟩ = some u := fun T o u hu => by
    rcases o with _ | _ | _ | _ | _ | o <;> simp at hu <;> (try subst hu) <;> simp
  have hwd : ∀ T o, o < 5 → ((W.alloc (.cells #[.int .i64 qc, .int .i64 qo, .int .i64 ql, .int .i64 qu, .int .i64 qp] T)).alloc (.cells #[.int .i64 0, .int .i64 0, .int .i64 0, .int .i64 0, .int .i64 0] T)).cell? ⟨W.heap.size + 1, o, none⟩ = some (.int .i64 0) := fun T o ho => by
    rcases o with _ | _ | _ | _ | _ | o <;> first | omega | simp
  have hwf : ∀ T o, ((W.alloc (.cells #[.int .i64 qc, .int .i64 qo, .int .i64 ql, .int .i64 qu, .int .i64 qp] T)).alloc (.cells #[.int .i64 0, .int .i64 0, .int .i64 0, .int .i64 0, .int .i64 0] T)).frozen? ⟨W.heap.size + 1, o, none⟩ = false := fun T o => by simp
  have hsz : ∀ T, ((W.alloc (.cells #[.int .i64 qc, .int .i64 qo, .int .i64 ql, .int .i64 qu, .int .i64 qp] T)).alloc (.cells #[.int .i64 0, .int .i64 0, .int .i64 0, .int .i64 0, .int .i64 0] T)).heap.size = W.heap.size + 2 := fun T => by simp
  rcases hlook with ⟨bq, hb, hlk⟩ | ⟨hno, hlk⟩
  · have HG : Hid (goodR ch ⟨qc, qo, ql, qu, qp⟩ = ⟨qc, qo, ql, qu, qp⟩) := Lib.hid (goodR_in hb)
    rw [HG.out]
    have HLK := Lib.hid hlk
    clear hb hlk
    simp only [Rf.v] at *
    go_enter Try.func31, Try.ntmps31
    go_upto_region 1 with (fail)
    obtain ⟨w3, hw3⟩ : ∃ w3, (W.alloc (.cells #[.int .i64 qc, .int .i64 qo, .int .i64 ql, .int .i64 qu, .int .i64 qp] 52)).alloc (.cells #[.int .i64 0, .int .i64 0, .int .i64 0, .int .i64 0, .int .i64 0] 52) = w3 := ⟨_, rfl⟩
    have hBW3 := hsh 52
    have hc3 := hwc 52
    have hd3 := hwd 52
    have hf3 := hwf 52
    have hs3 := hsz 52
    rw [hw3] at hBW3 hc3 hd3 hf3 hs3 ⊢
    have HBW3 := Lib.hid hBW3
    have HMP3 := Lib.hid (HMP.out.keep (hBW3.block mb HMP.out.lt))
    have d12 := (hBW3.cell (p := ⟨m, 12, none⟩) hlt).trans c12
    have x0 := hc3 0 _ rfl
    have x1 := hc3 1 _ rfl
    have x2 := hc3 2 _ rfl
    have x3 := hc3 3 _ rfl
    have x4 := hc3 4 _ rfl
    have y0 := hd3 0 (by decide)
    have y1 := hd3 1 (by decide)
    have y2 := hd3 2 (by decide)
    have y3 := hd3 3 (by decide)
    have y4 := hd3 4 (by decide)
    have z0 := hf3 0
    have z1 := hf3 1
    have z2 := hf3 2
    have z3 := hf3 3
    have z4 := hf3 4
    clear hBW3 hc3 hd3 hf3 hw3 hsh hwc hwd hwf hsz
    have hm3 : m < w3.heap.size := by omega
    have hb3 : W.heap.size < w3.heap.size := by omega
    have HTAKE := Lib.hid (fun (w' : World) (hb : Below w3.heap.size w3 w') => (⟨(hb.cell (p := ⟨m, 12, none⟩) hm3).trans d12, (hb.cell (p := ⟨W.heap.size, 0, none⟩) hb3).trans x0, HLK.out w' (HMP3.out.keep (hb.block mb HMP3.out.lt))⟩ : _ ∧ _ ∧ _))
    refine wp_region_held_drew (S := fun w' => Below w3.heap.size w3 w') (by kernel_rfl) ?_ (fun hHeld => ?_)
    · exact (Below.refl _ _).drew
    refine wpAnyH_take (i := 0) (v := ?_) rfl (by kernel_rfl) (by kernel_rfl) (by kernel_rfl) (fun _ _ _ h => h) (Or.inl ⟨by kernel_rfl, ?_⟩) (by assumption) ?_
    rotate_left
    · (intro w hSw; (try dsimp only at hSw); (try have hTk := Hid.out HTAKE _ hSw); go_simp)
      try (with_reducible rfl)
    rotate_left
    try simp (maxSteps := 4000000) only [Act.put, List.setIfInBounds_toArray, List.set_cons_zero, List.set_cons_succ, List.getElem_toArray, List.getElem_cons_zero, List.getElem_cons_succ]
    refine wpAnyH_take (i := 1) (v := ?_) rfl (by kernel_rfl) (by kernel_rfl) (by kernel_rfl) (fun _ _ _ h => h) (Or.inl ⟨by kernel_rfl, ?_⟩) (by assumption) ?_
    rotate_left
    · (intro w hSw; (try dsimp only at hSw); (try have hTk := Hid.out HTAKE _ hSw); go_simp)
      try (with_reducible rfl)
    rotate_left
    try simp (maxSteps := 4000000) only [Act.put, List.setIfInBounds_toArray, List.set_cons_zero, List.set_cons_succ, List.getElem_toArray, List.getElem_cons_zero, List.getElem_cons_succ]
    refine wpAnyH_take (i := 2) (v := ?_) rfl (by kernel_rfl) (by kernel_rfl) (by kernel_rfl) (fun _ _ _ h => h) (Or.inl ⟨by kernel_rfl, ?_⟩) (by assumption) ?_
    rotate_left
    · (intro w hSw; (try dsimp only at hSw); (try have hTk := Hid.out HTAKE _ hSw); go_simp)
      try (with_reducible rfl)
    rotate_left
    try simp (maxSteps := 4000000) only [Act.put, List.setIfInBounds_toArray, List.set_cons_zero, List.set_cons_succ, List.getElem_toArray, List.getElem_cons_zero, List.getElem_cons_succ]
    refine wpAnyH_take (i := 3) (v := ?_) rfl (by kernel_rfl) (by kernel_rfl) (by kernel_rfl) (fun _ _ _ h => h) (Or.inl ⟨by kernel_rfl, ?_⟩) (by assumption) ?_
    rotate_left
    · (intro w hSw; (try dsimp only at hSw); (try have hTk := Hid.out HTAKE _ hSw); go_simp)
      try (with_reducible rfl)
    rotate_left
    try simp (maxSteps := 4000000) only [Act.put, List.setIfInBounds_toArray, List.set_cons_zero, List.set_cons_succ, List.getElem_toArray, List.getElem_cons_zero, List.getElem_cons_succ]
    refine wpAnyH_take (i := 4) (v := ?_) rfl (by kernel_rfl) (by kernel_rfl) (by kernel_rfl) (fun _ _ _ h => h) (Or.inl ⟨by kernel_rfl, ?_⟩) (by assumption) ?_
    rotate_left
    · (intro w hSw; (try dsimp only at hSw); (try have hTk := Hid.out HTAKE _ hSw); go_simp)
      try (with_reducible rfl)
    rotate_left
    try simp (maxSteps := 4000000) only [Act.put, List.setIfInBounds_toArray, List.set_cons_zero, List.set_cons_succ, List.getElem_toArray, List.getElem_cons_zero, List.getElem_cons_succ]
    refine wpAnyH_take (i := 5) (v := ?_) rfl (by kernel_rfl) (by kernel_rfl) (by kernel_rfl) (fun _ _ _ h => h) (Or.inl ⟨by kernel_rfl, ?_⟩) (by assumption) ?_
    rotate_left
    · (intro w hSw; (try dsimp only at hSw); (try have hTk := Hid.out HTAKE _ hSw); go_simp)
      try (with_reducible rfl)
    rotate_left
    try simp (maxSteps := 4000000) only [Act.put, List.setIfInBounds_toArray, List.set_cons_zero, List.set_cons_succ, List.getElem_toArray, List.getElem_cons_zero, List.getElem_cons_succ]
    refine wpAnyH_take (i := 6) (v := ?_) rfl (by kernel_rfl) (by kernel_rfl) (by kernel_rfl) (fun _ _ _ h => h) (Or.inl ⟨by kernel_rfl, ?_⟩) (by assumption) ?_
    rotate_left
    · (intro w hSw; (try dsimp only at hSw); (try have hTk := Hid.out HTAKE _ hSw); go_simp)
      try (with_reducible rfl)
    rotate_left
    try simp (maxSteps := 4000000) only [Act.put, List.setIfInBounds_toArray, List.set_cons_zero, List.set_cons_succ, List.getElem_toArray, List.getElem_cons_zero, List.getElem_cons_succ]
    refine wpAnyH_take (i := 7) (v := ?_) rfl (by kernel_rfl) (by kernel_rfl) (by kernel_rfl) (fun _ _ _ h => h) (Or.inl ⟨by kernel_rfl, ?_⟩) (by assumption) ?_
    rotate_left
    · (intro w hSw; (try dsimp only at hSw); (try have hTk := Hid.out HTAKE _ hSw); go_simp)
      try (with_reducible rfl)
    rotate_left
    try simp (maxSteps := 4000000) only [Act.put, List.setIfInBounds_toArray, List.set_cons_zero, List.set_cons_succ, List.getElem_toArray, List.getElem_cons_zero, List.getElem_cons_succ]
    refine wpAnyH_done (by kernel_rfl) ?_ _
    go_wp2_with fail
    refine bodyPost_ret (v := Value.agg #[.int .i64 qc, .int .i64 qo, .int .i64 ql, .int .i64 qu, .int .i64 qp]) (by simp [results, Try.results31, go_sem, y0, y1, y2, y3, y4]) rfl ⟨rfl, ?_⟩
    exact (HBW3.out.drew).setCell (p := ⟨W.heap.size + 1, 0, none⟩) (by simp) _ |>.setCell (p := ⟨W.heap.size + 1, 1, none⟩) (by simp) _ |>.setCell (p := ⟨W.heap.size + 1, 2, none⟩) (by simp) _ |>.setCell (p := ⟨W.heap.size + 1, 3, none⟩) (by simp) _ |>.setCell (p := ⟨W.heap.size + 1, 4, none⟩) (by simp) _
  · have HG : Hid (goodR ch ⟨qc, qo, ql, qu, qp⟩ = Rf0) := Lib.hid (goodR_out hno)
    rw [HG.out]
    have HLK := Lib.hid hlk
    clear hno hlk
    simp only [Rf.v, Rf0] at *
    go_enter Try.func31, Try.ntmps31
    go_upto_region 1 with (fail)
    obtain ⟨w3, hw3⟩ : ∃ w3, (W.alloc (.cells #[.int .i64 qc, .int .i64 qo, .int .i64 ql, .int .i64 qu, .int .i64 qp] 52)).alloc (.cells #[.int .i64 0, .int .i64 0, .int .i64 0, .int .i64 0, .int .i64 0] 52) = w3 := ⟨_, rfl⟩
    have hBW3 := hsh 52
    have hc3 := hwc 52
    have hd3 := hwd 52
    have hf3 := hwf 52
    have hs3 := hsz 52
    rw [hw3] at hBW3 hc3 hd3 hf3 hs3 ⊢
    have HBW3 := Lib.hid hBW3
    have HMP3 := Lib.hid (HMP.out.keep (hBW3.block mb HMP.out.lt))
    have d12 := (hBW3.cell (p := ⟨m, 12, none⟩) hlt).trans c12
    have x0 := hc3 0 _ rfl
    have x1 := hc3 1 _ rfl
    have x2 := hc3 2 _ rfl
    have x3 := hc3 3 _ rfl
    have x4 := hc3 4 _ rfl
    have y0 := hd3 0 (by decide)
    have y1 := hd3 1 (by decide)
    have y2 := hd3 2 (by decide)
    have y3 := hd3 3 (by decide)
    have y4 := hd3 4 (by decide)
    have z0 := hf3 0
    have z1 := hf3 1
    have z2 := hf3 2
    have z3 := hf3 3
    have z4 := hf3 4
    clear hBW3 hc3 hd3 hf3 hw3 hsh hwc hwd hwf hsz
    have hm3 : m < w3.heap.size := by omega
    have hb3 : W.heap.size < w3.heap.size := by omega
    have HTAKE := Lib.hid (fun (w' : World) (hb : Below w3.heap.size w3 w') => (⟨(hb.cell (p := ⟨m, 12, none⟩) hm3).trans d12, (hb.cell (p := ⟨W.heap.size, 0, none⟩) hb3).trans x0, HLK.out w' (HMP3.out.keep (hb.block mb HMP3.out.lt))⟩ : _ ∧ _ ∧ _))
    refine wp_region_held_drew (S := fun w' => Below w3.heap.size w3 w') (by kernel_rfl) ?_ (fun hHeld => ?_)
    · exact (Below.refl _ _).drew
    refine wpAnyH_take (i := 0) (v := ?_) rfl (by kernel_rfl) (by kernel_rfl) (by kernel_rfl) (fun _ _ _ h => h) (Or.inl ⟨by kernel_rfl, ?_⟩) (by assumption) ?_
    rotate_left
    · (intro w hSw; (try dsimp only at hSw); (try have hTk := Hid.out HTAKE _ hSw); go_simp)
      try (with_reducible rfl)
    rotate_left
    try simp (maxSteps := 4000000) only [Act.put, List.setIfInBounds_toArray, List.set_cons_zero, List.set_cons_succ, List.getElem_toArray, List.getElem_cons_zero, List.getElem_cons_succ]
    refine wpAnyH_take (i := 1) (v := ?_) rfl (by kernel_rfl) (by kernel_rfl) (by kernel_rfl) (fun _ _ _ h => h) (Or.inl ⟨by kernel_rfl, ?_⟩) (by assumption) ?_
    rotate_left
    · (intro w hSw; (try dsimp only at hSw); (try have hTk := Hid.out HTAKE _ hSw); go_simp)
      try (with_reducible rfl)
    rotate_left
    try simp (maxSteps := 4000000) only [Act.put, List.setIfInBounds_toArray, List.set_cons_zero, List.set_cons_succ, List.getElem_toArray, List.getElem_cons_zero, List.getElem_cons_succ]
    refine wpAnyH_take (i := 2) (v := ?_) rfl (by kernel_rfl) (by kernel_rfl) (by kernel_rfl) (fun _ _ _ h => h) (Or.inl ⟨by kernel_rfl, ?_⟩) (by assumption) ?_
    rotate_left
    · (intro w hSw; (try dsimp only at hSw); (try have hTk := Hid.out HTAKE _ hSw); go_simp)
      try (with_reducible rfl)
    rotate_left
    try simp (maxSteps := 4000000) only [Act.put, List.setIfInBounds_toArray, List.set_cons_zero, List.set_cons_succ, List.getElem_toArray, List.getElem_cons_zero, List.getElem_cons_succ]
    refine wpAnyH_take (i := 3) (v := ?_) rfl (by kernel_rfl) (by kernel_rfl) (by kernel_rfl) (fun _ _ _ h => h) (Or.inl ⟨by kernel_rfl, ?_⟩) (by assumption) ?_
    rotate_left
    · (intro w hSw; (try dsimp only at hSw); (try have hTk := Hid.out HTAKE _ hSw); go_simp)
      try (with_reducible rfl)
    rotate_left
    try simp (maxSteps := 4000000) only [Act.put, List.setIfInBounds_toArray, List.set_cons_zero, List.set_cons_succ, List.getElem_toArray, List.getElem_cons_zero, List.getElem_cons_succ]
    refine wpAnyH_take (i := 4) (v := ?_) rfl (by kernel_rfl) (by kernel_rfl) (by kernel_rfl) (fun _ _ _ h => h) (Or.inl ⟨by kernel_rfl, ?_⟩) (by assumption) ?_
    rotate_left
    · (intro w hSw; (try dsimp only at hSw); (try have hTk := Hid.out HTAKE _ hSw); go_simp)
      try (with_reducible rfl)
    rotate_left
    try simp (maxSteps := 4000000) only [Act.put, List.setIfInBounds_toArray, List.set_cons_zero, List.set_cons_succ, List.getElem_toArray, List.getElem_cons_zero, List.getElem_cons_succ]
    refine wpAnyH_take (i := 5) (v := ?_) rfl (by kernel_rfl) (by kernel_rfl) (by kernel_rfl) (fun _ _ _ h => h) (Or.inl ⟨by kernel_rfl, ?_⟩) (by assumption) ?_
    rotate_left
    · (intro w hSw; (try dsimp only at hSw); (try have hTk := Hid.out HTAKE _ hSw); go_simp)
      try (with_reducible rfl)
    rotate_left
    try simp (maxSteps := 4000000) only [Act.put, List.setIfInBounds_toArray, List.set_cons_zero, List.set_cons_succ, List.getElem_toArray, List.getElem_cons_zero, List.getElem_cons_succ]
    refine wpAnyH_take (i := 6) (v := ?_) rfl (by kernel_rfl) (by kernel_rfl) (by kernel_rfl) (fun _ _ _ h => h) (Or.inl ⟨by kernel_rfl, ?_⟩) (by assumption) ?_
    rotate_left
    · (intro w hSw; (try dsimp only at hSw); (try have hTk := Hid.out HTAKE _ hSw); go_simp)
      try (with_reducible rfl)
    rotate_left
    try simp (maxSteps := 4000000) only [Act.put, List.setIfInBounds_toArray, List.set_cons_zero, List.set_cons_succ, List.getElem_toArray, List.getElem_cons_zero, List.getElem_cons_succ]
    refine wpAnyH_take (i := 7) (v := ?_) rfl (by kernel_rfl) (by kernel_rfl) (by kernel_rfl) (fun _ _ _ h => h) (Or.inl ⟨by kernel_rfl, ?_⟩) (by assumption) ?_
    rotate_left
    · (intro w hSw; (try dsimp only at hSw); (try have hTk := Hid.out HTAKE _ hSw); go_simp)
      try (with_reducible rfl)
    rotate_left
    try simp (maxSteps := 4000000) only [Act.put, List.setIfInBounds_toArray, List.set_cons_zero, List.set_cons_succ, List.getElem_toArray, List.getElem_cons_zero, List.getElem_cons_succ]
    refine wpAnyH_done (by kernel_rfl) ?_ _
    go_wp2_with fail
    refine bodyPost_ret (v := Value.agg #[.int .i64 0, .int .i64 0, .int .i64 0, .int .i64 0, .int .i64 0]) (by simp [results, Try.results31, go_sem, y0, y1, y2, y3, y4]) rfl ⟨rfl, ?_⟩
    exact (HBW3.out.drew).setCell (p := ⟨W.heap.size + 1, 0, none⟩) (by simp) _ |>.setCell (p := ⟨W.heap.size + 1, 1, none⟩) (by simp) _ |>.setCell (p := ⟨W.heap.size + 1, 2, none⟩) (by simp) _ |>.setCell (p := ⟨W.heap.size + 1, 3, none⟩) (by simp) _ |>.setCell (p := ⟨W.heap.size + 1, 4, none⟩) (by simp) _
theorem mget_no (k : Int) (h : MO m mb r C md ch rs W) (hk : k < 0 ∨ (rs.length : Int) ≤ k) : Calls Try.prog 16 #[.pointer (some ⟨m, 0, none⟩), .int .i64 k] W fun e w' => e = .returned Rf0.v ∧ Below W.heap.size W w' := by
  have H := Lib.hid h
  clear h
  simp only [Rf.v, Rf0]
  by_cases h0 : k < 0
  · clear hk
    go_enter Try.func16, Try.ntmps16
    go_wp2_with fail
    refine bodyPost_ret (v := Value.agg #[.int .i64 0, .int .i64 0, .int .i64 0, .int .i64 0, .int .i64 0]) (by simp [results, Try.results16, go_sem]) rfl ⟨rfl, ?_⟩
    exact alc0 _ _
  · have h1 : (k : Int) ≥ (rs.length : Int) := by omega
    clear hk
    go_enter Try.func16, Try.ntmps16
    go_wp2_with fail
    refine (mregs (H.out.below (alc0 _ _))).mono ?_
    rintro e w1 ⟨rfl, rfl⟩
    go_wp2_with fail
    refine bodyPost_ret (v := Value.agg #[.int .i64 0, .int .i64 0, .int .i64 0, .int .i64 0, .int .i64 0]) (by simp [results, Try.results16, go_sem]) rfl ⟨rfl, ?_⟩
    exact alc0 _ _
set_option maxHeartbeats 1600000 in
theorem mget_yes (k : Nat) (q : Rf) (h : MO m mb r C md ch rs W) (hk : rs[k]? = some q) : Calls Try.prog 16 #[.pointer (some ⟨m, 0, none⟩), .int .i64 k] W fun e w' => e = .returned (goodR ch q).v ∧ Below W.heap.size W w' := by
  have H := Lib.hid h
  have hq : I64 q.c := h.i64 q (List.mem_of_getElem? hk)
  have hlt := (List.getElem?_eq_some_iff.1 hk).1
  obtain ⟨N, hN⟩ : ∃ N, rs.length = N := ⟨_, rfl⟩
  have HN := Lib.hid hN
  have c13 := h.c13
  obtain ⟨g0, g1, g2, g3, g4⟩ := h.rg k q hk
  rw [hN] at c13 hlt
  have hm := h.lt.1
  have hr := h.lt.2.1
  clear h hk hN
  have h0 : ¬ (k : Int) < 0 := by omega
  have h1 : ¬ (k : Int) ≥ (N : Int) := by omega
  have h2 : (k : Int) < (N : Int) := by omega
  have h3 : (0 : Int) ≤ (k : Int) := by omega
  obtain ⟨qc, qo, ql, qu, qp⟩ := q
  obtain ⟨gv, hgv⟩ : ∃ gv, goodR ch ⟨qc, qo, ql, qu, qp⟩ = gv := ⟨_, rfl⟩
  have HGV := Lib.hid hgv
  rw [hgv]
  obtain ⟨vc, vo, vl, vu, vp⟩ := gv
  simp only [Rf.v] at *
  clear hgv
  go_enter Try.func16, Try.ntmps16
  go_upto_region 1 with (fail)
  obtain ⟨w3, hw3⟩ : ∃ w3, W.alloc (.cells #[.int .i64 0, .int .i64 0, .int .i64 0, .int .i64 0, .int .i64 0] 52) = w3 := ⟨_, rfl⟩
  have hBW3 : Below W.heap.size W w3 := by rw [← hw3]; exact alc0 _ _
  have hf3 : ∀ o, w3.frozen? ⟨W.heap.size, o, none⟩ = false := fun o => by rw [← hw3]; simp
  have hd3 : ∀ o, o < 5 → w3.cell? ⟨W.heap.size, o, none⟩ = some (.int .i64 0) := fun o ho => by
    rw [← hw3]
    rcases o with _ | _ | _ | _ | _ | o <;> first | omega | simp
  rw [hw3]
  have e13 := (hBW3.cell (p := ⟨m, 13, none⟩) hm).trans c13
  have f0 := (hBW3.cell (p := ⟨r, k * 5, none⟩) hr).trans g0
  have f1 := (hBW3.cell (p := ⟨r, k * 5 + 1, none⟩) hr).trans g1
  have f2 := (hBW3.cell (p := ⟨r, k * 5 + 2, none⟩) hr).trans g2
  have f3 := (hBW3.cell (p := ⟨r, k * 5 + 3, none⟩) hr).trans g3
  have f4 := (hBW3.cell (p := ⟨r, k * 5 + 4, none⟩) hr).trans g4
  have H3 := Lib.hid (H.out.below hBW3)
  have HBW3 := Lib.hid hBW3
  have hs3 : W.heap.size < w3.heap.size := by rw [← hw3]; simp
  clear hw3 hBW3 c13 g0 g1 g2 g3 g4
  go_wp2_with fail
  refine (mregs H3.out).mono ?_
  rintro e w4 ⟨rfl, rfl⟩
  rw [HN.out]
  go_wp2_with fail
  refine (mgood ⟨qc, qo, ql, qu, qp⟩ hq H3.out).mono ?_
  rw [HGV.out]
  simp only [Rf.v]
  rintro e w5 ⟨rfl, hb5⟩
  have y0 := (hb5.cell (p := ⟨W.heap.size, 0, none⟩) hs3).trans (hd3 0 (by decide))
  have y1 := (hb5.cell (p := ⟨W.heap.size, 1, none⟩) hs3).trans (hd3 1 (by decide))
  have y2 := (hb5.cell (p := ⟨W.heap.size, 2, none⟩) hs3).trans (hd3 2 (by decide))
  have y3 := (hb5.cell (p := ⟨W.heap.size, 3, none⟩) hs3).trans (hd3 3 (by decide))
  have y4 := (hb5.cell (p := ⟨W.heap.size, 4, none⟩) hs3).trans (hd3 4 (by decide))
  have z0 := (hb5.frozen (p := ⟨W.heap.size, 0, none⟩) hs3).trans (hf3 0)
  have z1 := (hb5.frozen (p := ⟨W.heap.size, 1, none⟩) hs3).trans (hf3 1)
  have z2 := (hb5.frozen (p := ⟨W.heap.size, 2, none⟩) hs3).trans (hf3 2)
  have z3 := (hb5.frozen (p := ⟨W.heap.size, 3, none⟩) hs3).trans (hf3 3)
  have z4 := (hb5.frozen (p := ⟨W.heap.size, 4, none⟩) hs3).trans (hf3 4)
  have HB5 := Lib.hid (thn HBW3.out hb5)
  clear hb5 hf3 hd3
  go_wp2_with fail
  refine bodyPost_ret (v := Value.agg #[.int .i64 vc, .int .i64 vo, .int .i64 vl, .int .i64 vu, .int .i64 vp]) (by simp [results, Try.results16, go_sem, y0, y1, y2, y3, y4]) rfl ⟨rfl, ?_⟩
  exact HB5.out.setCell (p := ⟨W.heap.size, 0, none⟩) (Nat.le_refl _) _ |>.setCell (p := ⟨W.heap.size, 1, none⟩) (Nat.le_refl _) _ |>.setCell (p := ⟨W.heap.size, 2, none⟩) (Nat.le_refl _) _ |>.setCell (p := ⟨W.heap.size, 3, none⟩) (Nat.le_refl _) _ |>.setCell (p := ⟨W.heap.size, 4, none⟩) (Nat.le_refl _) _
end
end Go.Proofs.Ytanmmhbnjmglhaa
