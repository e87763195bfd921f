/- MrA, MmU, MsA, MsB. -/
import Derived.Test.YtnfcpohbdkionaaGreatDoorZ18
import Derived.Deep.MidRow
import Derived.Deep.WholeRow
import Derived.Deep.DeepCutAuto
import Derived.Test.YtnfcpohbdkionaaGreatDoorZ39
import Derived.Test.YtnfcpohbdkionaaGreatDoorZ14
import Derived.Test.YtnfcpohbdkionaaGreatDoorZ07
namespace Go.Proofs.YtnfcpohbdkionaaGreatDoor
set_option maxRecDepth 100000
open Go.RowKit Go.ChangeMaps Go.MapKept
set_option linter.unusedVariables false
set_option linter.unusedSimpArgs false
/-- Which pages are mapped, bytes, tags, where something is kept, and its cells. -/
structure RS where
  o : Nat → Bool
  b : Nat → Nat
  t : Nat → Int
  k : Nat → Bool
  v : Nat → Value
def RS.c (r : RS) (i : Nat) : Value :=
  if i < 8 then .bool (r.o i) else if i < 2056 then .int .u8 (r.b (i - 8) : Nat) else if i < 2184 then .int .i64 (r.t (i - 2056)) else if i < 2312 then .bool (r.k (i - 2184)) else r.v (i - 2312)
theorem RS.cb (r : RS) {i : Nat} (h : i < 2048) : r.c (8 + i) = .int .u8 (r.b i : Nat) := by
  unfold RS.c
  rw [if_neg (by omega), if_pos (by omega), Nat.add_sub_cancel_left]
theorem RS.ck (r : RS) {i : Nat} (h : i < 128) : r.c (2184 + i) = .bool (r.k i) := by
  unfold RS.c
  rw [if_neg (by omega), if_neg (by omega), if_neg (by omega), if_pos (by omega), Nat.add_sub_cancel_left]
def RS.l (r : RS) : List Value := (List.range 3080).map r.c
theorem RS.len (r : RS) : r.l.length = 3080 := by rw [RS.l, List.length_map, List.length_range]
theorem RS.at_ (r : RS) {i : Nat} (h : i < 3080) : r.l[i]? = some (r.c i) := by
  rw [RS.l, List.getElem?_map, List.getElem?_range h]; rfl
theorem RS.at_inv (r : RS) {i : Nat} {v : Value} (h : r.l[i]? = some v) : i < 3080 ∧ v = r.c i := by
  have hi : i < 3080 := by
    have := (List.getElem?_eq_some_iff.1 h).1
    rw [RS.len] at this; exact this
  rw [r.at_ hi] at h
  exact ⟨hi, (Option.some.inj h).symm⟩
/-- Each of its cells is one. -/
def RS.One (r : RS) : Prop := ∀ i, i < 768 → (r.v i).oneCell' = true
theorem RS.one {r : RS} (h : r.One) : r.l.toArray.all (·.oneCell') = true := all_oneCell_toArray fun v hv => by
  obtain ⟨i, hi, rfl⟩ := List.mem_map.1 hv
  have hi2 : i < 3080 := List.mem_range.1 hi
  unfold RS.c
  split
  · rfl
  · split
    · rfl
    · split
      · rfl
      · split
        · rfl
        · exact h _ (by omega)
/-- It lies in block A. -/
def RAt (A : Nat) (W : World) (r : RS) : Prop := A < W.heap.size ∧ ∀ i, i < 3080 → W.cell? ⟨A, i, none⟩ = some (r.c i) ∧ W.frozen? ⟨A, i, none⟩ = false
theorem RAt.keep {A : Nat} {W W' : World} {r : RS} (h : RAt A W r) (hs : W.heap.size ≤ W'.heap.size) (e : W'.heap[A]? = W.heap[A]?) : RAt A W' r :=
  ⟨Nat.lt_of_lt_of_le h.1 hs, fun i hi => ⟨(World.cell?_of_block e).trans (h.2 i hi).1, (World.frozen?_of_block e).trans (h.2 i hi).2⟩⟩
theorem RAt.below {A : Nat} {W W' : World} {r : RS} (h : RAt A W r) (hb : Below W.heap.size W W') : RAt A W' r := h.keep hb.size (hb.block A h.1)
theorem RAt.range {A : Nat} {W : World} {r : RS} (h : RAt A W r) : W.rangeAt A 0 r.l := fun j v hv => by
  obtain ⟨hj, rfl⟩ := r.at_inv hv
  rw [Nat.zero_add]; exact (h.2 j hj).1
theorem RAt.there {A : Nat} {W : World} {r : RS} (h : RAt A W r) : W.there A 0 3080 := fun j hj => by
  rw [Nat.zero_add, (h.2 j hj).1]; exact ⟨rfl, (h.2 j hj).2⟩
theorem RAt.new (W : World) (r : RS) (T : TypeId) : RAt W.heap.size (W.alloc (.cells r.l.toArray T)) r := by
  refine ⟨by simp, fun i hi => ⟨?_, by simp⟩⟩
  rw [World.cell?_alloc_mark, List.getElem?_toArray]
  exact r.at_ hi
theorem RAt.cells {A : Nat} {W : World} {r r' : RS} (h : RAt A W r) : RAt A (W.setCells A 0 r'.l) r' := by
  refine ⟨by rw [(ob_cells A _ 0 W).2]; exact h.1, fun i hi => ⟨?_, by rw [World.frozen?_setCells]; exact (h.2 i hi).2⟩⟩
  have h1 := World.cell?_setCells_in A r'.l 0 W (fun i hi => by
    rw [RS.len] at hi
    rw [Nat.zero_add, (h.2 i hi).1]; rfl) i (by rw [RS.len]; exact hi)
  rw [Nat.zero_add] at h1
  rw [h1]
  simp [RS.l, hi]
theorem RAt.set_ {A : Nat} {W : World} {r r' : RS} {x : Nat} {u : Value} (h : RAt A W r) (hx : x < 3080) (hu : r'.c x = u) (ho : ∀ i, i < 3080 → i ≠ x → r'.c i = r.c i) : RAt A (W.setCell ⟨A, x, none⟩ u) r' := by
  refine ⟨by rw [size_set]; exact h.1, fun i hi => ?_⟩
  obtain ⟨k1, k2⟩ := h.2 i hi
  refine ⟨?_, by simp [k2]⟩
  by_cases e : x = i
  · subst e
    rw [World.cell?_setCell_same _ _ _ k1, hu]
  · rw [World.cell?_setCell_other _ _ _ _ (by intro q; injection q with _ q; exact e q), k1, ho i hi (fun q => e q.symm)]
theorem results_cell_mid {P : Program} {fn : Func} {p : Tmp} {ty : TypeId} (h : fn.results = #[.cell p ty]) (tmps : Array Value) (w : World) (g : Nat) (cs : List Value) (d : TypeDesc)
    (hp : tmps.getD p undef = .pointer (some ⟨g, 0, none⟩)) (hc : w.rangeAt g 0 cs)
    (hu : P.underlying ty = some d) (hd : d.isRow = true) (hi : (P.info? ty).map (·.size) = some cs.length) :
    (results fn tmps).run P w = .ok (.agg cs.toArray) w := by
  have hp' : tmps[p]?.getD undef = .pointer (some ⟨g, 0, none⟩) := by simpa using hp
  simp [results, h, hp', asAddr, run_loadVar_mid w g 0 ty cs d hc hu hd hi]
end Go.Proofs.YtnfcpohbdkionaaGreatDoor
namespace Go.Proofs.YtnfcpohbdkionaaGreatDoor
set_option maxRecDepth 100000
open Go.RowKit Go.ChangeMaps Go.MapKept
set_option linter.unusedVariables false
set_option linter.unusedSimpArgs false
theorem span_of (f n : Int) (h : thereI f n) (W : World) :
    Calls Tryz.prog 61 #[.int .i64 f, .int .i64 n] W fun e w' => e = .returned (.agg #[.int .i64 (f * 256), .int .i64 (n * 256)]) ∧ Below W.heap.size W w' := by
  obtain ⟨h1, h2, h3, h4⟩ : 0 ≤ f ∧ f < 1024 ∧ 1 ≤ n ∧ n ≤ 1024 - f := h
  go_enter Tryz.func61, Tryz.ntmps61
  go_wp2
  refine bodyPost_ret (results_cell_mid rfl _ _ W.heap.size [.int .i64 (f * 256), .int .i64 (n * 256)] _ rfl (fun j v hv => ?_) Tryz.underlying23 rfl (by kernel_rfl)) rfl ⟨rfl, ?_⟩
  · have hj : j < 2 := (List.getElem?_eq_some_iff.1 hv).1
    have hj2 : j = 0 ∨ j = 1 := by omega
    rcases hj2 with rfl | rfl
    · simp at hv; subst hv; simp
    · simp at hv; subst hv; simp
  · first
      | exact ((alc0 _ _).setCell (Nat.le_refl _) _).setCell (Nat.le_refl _) _
      | exact alc0 _ _
section
variable {B : Nat} {col : Nat → Nat} {M : Nat} {W : World} {σ : MS}
end
end Go.Proofs.YtnfcpohbdkionaaGreatDoor
namespace Go.Proofs.YtnfcpohbdkionaaGreatDoor
set_option maxRecDepth 100000
open Go.RowKit Go.ChangeMaps Go.MapKept
set_option linter.unusedVariables false
set_option linter.unusedSimpArgs false
def listF (pg : Nat → Bool) : Nat → List Int
  | 0 => []
  | j + 1 => if pg j then listF pg j ++ [(j : Int)] else listF pg j
theorem listB_F {ws : List Nat} {pg : Nat → Bool} (h : ∀ y, bitB ws y = pg y) (n : Nat) : listB ws n = listF pg n := by
  induction n with
  | zero => rfl
  | succ n ih => rw [listB, listF, h, ih]
theorem plist_any {lo hi g p : Nat} {W : World} {c most peak : Int} {ws : List Nat} (h : PgIs lo hi g p W c most peak ws) (hz : ∀ y, 1024 ≤ y → bitB ws y = false) (ht : TzTab W) :
    Calls Tryz.prog 56 #[.pointer (some ⟨p, 0, none⟩)] W (ListPost (listB ws 1024) W) := by
  obtain ⟨h1, _, _, h5, h6, h7, h8⟩ := h
  have H := Lib.hid (slist_any lo hi g W c 1024 ws h1 hz ht)
  clear h1 hz ht
  go_enter Tryz.func56, Tryz.ntmps56
  go_wp2_with fail
  refine H.out.mono ?_
  rintro e w' ⟨a, cap, rfl, h⟩
  have HH := Lib.hid h
  clear h
  go_wp2
  go_ret
  exact ⟨a, cap, rfl, HH.out⟩
section
variable {B : Nat} {col : Nat → Nat} {M : Nat} {W : World} {σ : MS}
theorem mlist (h : MEM B col M W σ) (hz : ∀ y, 1024 ≤ y → σ.pg y = false) :
    Calls Tryz.prog 28 #[.pointer (some ⟨M, 0, none⟩)] W (ListPost (listF σ.pg 1024) W) := by
  have ht := h.tz
  obtain ⟨P, sg, t, S, kb, ⟨k0, -, -, -, -⟩, ⟨lo, hi, g, ws, hp, -, hb, -⟩, -⟩ := h.ex
  have H := Lib.hid (plist_any hp (fun y hy => by rw [hb]; exact hz y hy) ht)
  rw [listB_F hb] at H
  clear h hp hb ht hz
  go_enter Tryz.func28, Tryz.ntmps28
  go_wp2_with fail
  refine H.out.mono ?_
  rintro e w' ⟨a, cap, rfl, h⟩
  have HH := Lib.hid h
  clear h
  go_wp2
  go_ret
  exact ⟨a, cap, rfl, HH.out⟩
end
end Go.Proofs.YtnfcpohbdkionaaGreatDoor
namespace Go.Proofs.YtnfcpohbdkionaaGreatDoor
set_option maxRecDepth 100000
open Go.RowKit Go.ChangeMaps Go.MapKept
set_option linter.unusedVariables false
set_option linter.unusedSimpArgs false
theorem beq_yes (b1 o1 n c1 b2 o2 c2 : Nat) (f : Nat → Nat) (W : World) (h1 : ∀ j, j < n → W.cell? ⟨b1, o1 + j, none⟩ = some (.int .u8 (f j : Int))) (h2 : ∀ j, j < n → W.cell? ⟨b2, o2 + j, none⟩ = some (.int .u8 (f j : Int))) :
    Calls Tryz.prog 60 #[.slice (some ⟨b1, o1, none⟩) n c1, .slice (some ⟨b2, o2, none⟩) n c2] W fun e w' => e = .returned (.bool true) ∧ W = w' := by
  have e1 := conv_of W b1 o1 n c1 f h1
  have e2 := conv_of W b2 o2 n c2 f h2
  obtain ⟨x, hx⟩ : ∃ x, sof f n = x := ⟨_, rfl⟩
  rw [hx] at e1 e2
  clear hx h1 h2
  go_enter Tryz.func60, Tryz.ntmps60
  go_wp2
  go_ret
  exact ⟨rfl, rfl⟩
theorem ieq_yes (l : List Int) (a1 a2 : Option Addr) (c1 c2 : Nat) (W : World) (h1 : Ints .i64 W a1 l.length l) (h2 : Ints .i64 W a2 l.length l) :
    Calls Tryz.prog 27 #[.slice a1 l.length c1, .slice a2 l.length c2] W fun e w' => e = .returned (.bool true) ∧ ∃ q, w' = W.drewN q := by
  obtain ⟨-, h1⟩ := h1
  obtain ⟨-, h2⟩ := h2
  have HA := Lib.hid h1; clear h1
  have HB := Lib.hid h2; clear h2
  obtain ⟨L, hL⟩ : ∃ L, l.length = L := ⟨_, rfl⟩
  rw [hL]
  have hm : L ≤ 9223372036854775807 := by
    rcases HA.out with h | ⟨b, o, -, -, hm, -⟩ <;> omega
  have HL := Lib.hid hL
  clear hL
  have hne : (L : Int) = L := rfl
  go_enter Tryz.func27, Tryz.ntmps27
  go_wp2_with fail
  go_loopw [13] (fun i wr => ∃ k q : Nat, k ≤ L ∧ i = .int .i64 k ∧ wr = W.drewN q) (fun i _ => L - (intOf i).toNat)
  case atStart => exact ⟨0, 0, by omega, rfl, rfl⟩
  case round =>
    obtain ⟨k, q, hk, rfl, rfl⟩ := hrel
    by_cases hlt : k < L
    · obtain h | ⟨b, o, rfl, -, -, hc1⟩ := HA.out
      · have := HL.out; omega
      obtain h | ⟨b2, o2, rfl, -, -, hc2⟩ := HB.out
      · have := HL.out; omega
      have a1 := hc1 k (by rw [HL.out]; exact hlt)
      have a2 := hc2 k (by rw [HL.out]; exact hlt)
      clear hc1 hc2
      generalize l.getD k 0 = x at *
      have k0 : (0 : Int) ≤ (k : Int) := by omega
      have k1 : (k : Int) < (L : Int) := by omega
      have k2 : (k : Int).toNat = k := Int.toNat_natCast k
      have qxy : ((x : Int) == (x : Int)) = true := by simp
      go_wp2_with fail
      go_quiet (fail)
      go_wp2
      exact ⟨⟨k + 1, _, by omega, by go_num, rfl⟩, by simp [intOf]; omega⟩
    · have k1 : ¬ (k : Int) < (L : Int) := by omega
      go_wp2
      go_ret
      exact ⟨rfl, _, rfl⟩
end Go.Proofs.YtnfcpohbdkionaaGreatDoor
