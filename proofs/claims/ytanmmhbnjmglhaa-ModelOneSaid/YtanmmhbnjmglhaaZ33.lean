/- MpB. -/
import Derived.Test.YtanmmhbnjmglhaaZ32
import Derived.Deep.RegionHeld3
import Derived.Deep.DeepCutAuto
import Derived.RegionTactic
import Derived.Deep.RegionLaw
import Derived.Deep.AppendLies
namespace Go.Proofs.Ytanmmhbnjmglhaa
set_option maxRecDepth 100000
open Go.RowKit Go.ChangeMaps Go.MapKept
set_option linter.unusedVariables false
set_option linter.unusedSimpArgs false
theorem infoCh : (Try.prog.info? 77).map (fun i => (i.zero, i.size, i.bytes)) = some (some (.agg #[.slice none 0 0, .slice none 0 0, .int .i64 0, .bool false]), 4, 64) := by kernel_rfl
/-- A chunk's bytes and its box, behind the making of it; so many bytes are filled. -/
def CHx (w1 : World) (R K : Nat) (n : Int) (d kb cb j : Nat) (f : Int) (w : World) : Prop :=
  (w1.heap.size ≤ d ∧ w1.heap.size ≤ kb ∧ w1.heap.size ≤ cb ∧ d < w.heap.size ∧ kb < w.heap.size ∧ cb < w.heap.size ∧ d ≠ kb ∧ d ≠ cb ∧ kb ≠ cb) ∧ BX cb #[.slice (some ⟨d, 0, none⟩) R R, .slice (some ⟨kb, 0, none⟩) K K, .int .i64 n, .bool true] w ∧ FB d R j f w ∧ Below w1.heap.size w1 w
theorem al3 (w : World) (o1 o2 o3 : Obj) : (((w.alloc o1).alloc o2).alloc o3).drew.heap.size = w.heap.size + 1 + 1 + 1 ∧ (((w.alloc o1).alloc o2).alloc o3).drew.heap[w.heap.size]? = some o1 ∧ (((w.alloc o1).alloc o2).alloc o3).drew.heap[w.heap.size + 1]? = some o2 ∧ (((w.alloc o1).alloc o2).alloc o3).drew.heap[w.heap.size + 1 + 1]? = some o3 ∧ Below w.heap.size w (((w.alloc o1).alloc o2).alloc o3).drew := by
  have e : ∀ x : World, x.drew.heap = x.heap := fun _ => rfl
  have s1 : (w.alloc o1).heap.size = w.heap.size + 1 := World.size_alloc _ _
  have s2 : ((w.alloc o1).alloc o2).heap.size = w.heap.size + 1 + 1 := by rw [World.size_alloc, s1]
  have s3 : (((w.alloc o1).alloc o2).alloc o3).heap.size = w.heap.size + 1 + 1 + 1 := by rw [World.size_alloc, s2]
  have a1 := MapKept.heap_alloc w o1
  have a2 := MapKept.heap_alloc (w.alloc o1) o2
  have a3 := MapKept.heap_alloc ((w.alloc o1).alloc o2) o3
  refine ⟨s3, ?_, ?_, ?_, (alc (alc (alc0 _ _) _) _).drew⟩
  · rw [e, a3.2 _ (by omega), a2.2 _ (by omega), a1.1]
  · rw [e, a3.2 _ (by omega), ← s1, a2.1]
  · rw [e, ← s2, a3.1]
theorem chx0 (w1 : World) (R K : Nat) (n f : Int) (d kb cb : Nat) (w : World) (T1 T2 : TypeId) (h1 : w1.heap.size ≤ d ∧ w1.heap.size ≤ kb ∧ w1.heap.size ≤ cb ∧ d < w.heap.size ∧ kb < w.heap.size ∧ cb < w.heap.size ∧ d ≠ kb ∧ d ≠ cb ∧ kb ≠ cb) (h2 : w.heap[cb]? = some (.cells #[.slice (some ⟨d, 0, none⟩) R R, .slice (some ⟨kb, 0, none⟩) K K, .int .i64 n, .bool true] T2)) (h3 : w.heap[d]? = some (.cells (madeCells #[.int .u8 0] R) T1)) (h4 : Below w1.heap.size w1 w) : CHx w1 R K n d kb cb 0 f w :=
  ⟨h1, fun o u hu => ⟨by rw [cell_of_row w cb o _ T2 (0, 0) h2]; exact hu, by simp [World.frozen?, h2]⟩, fun i hi => ⟨fun h => absurd h (by omega), by
    rw [cell_of_row w d i _ T1 (0, 0) h3]
    have := made_cell w R T1 i hi
    rw [World.cell?_alloc_mark] at this
    rw [this]; rfl, by simp [World.frozen?, h3]⟩, h4⟩
theorem chx_dkc (w : World) (R K : Nat) (n f : Int) (T1 T2 T3 : TypeId) : ∃ d kb cb, Value.int .i64 (R : Int) = Value.int .i64 (R : Int) ∧ Value.pointer (some ⟨w.heap.size + 1 + 1, 0, none⟩) = Value.pointer (some ⟨cb, 0, none⟩) ∧ Hid (CHx w R K n d kb cb 0 f (((w.alloc (.cells (madeCells #[.int .u8 0] R) T1)).alloc (.cells (madeCells #[.int .i64 0, .int .i64 0, .int .i64 0, .int .i64 0, .int .i64 0] (K * 5)) T3)).alloc (.cells #[.slice (some ⟨w.heap.size, 0, none⟩) R R, .slice (some ⟨w.heap.size + 1, 0, none⟩) K K, .int .i64 n, .bool true] T2)).drew) := by
  have h := al3 w (.cells (madeCells #[.int .u8 0] R) T1) (.cells (madeCells #[.int .i64 0, .int .i64 0, .int .i64 0, .int .i64 0, .int .i64 0] (K * 5)) T3) (.cells #[.slice (some ⟨w.heap.size, 0, none⟩) R R, .slice (some ⟨w.heap.size + 1, 0, none⟩) K K, .int .i64 n, .bool true] T2)
  exact ⟨w.heap.size, w.heap.size + 1, w.heap.size + 1 + 1, rfl, rfl, Lib.hid (chx0 w R K n f _ _ _ _ T1 T2 ⟨by omega, by omega, by omega, by omega, by omega, by omega, by omega, by omega, by omega⟩ (h.2.2.2.1) (h.2.1) h.2.2.2.2)⟩
theorem chx_dck (w : World) (R K : Nat) (n f : Int) (T1 T2 T3 : TypeId) : ∃ d kb cb, Value.int .i64 (R : Int) = Value.int .i64 (R : Int) ∧ Value.pointer (some ⟨w.heap.size + 1, 0, none⟩) = Value.pointer (some ⟨cb, 0, none⟩) ∧ Hid (CHx w R K n d kb cb 0 f (((w.alloc (.cells (madeCells #[.int .u8 0] R) T1)).alloc (.cells #[.slice (some ⟨w.heap.size, 0, none⟩) R R, .slice (some ⟨w.heap.size + 1 + 1, 0, none⟩) K K, .int .i64 n, .bool true] T2)).alloc (.cells (madeCells #[.int .i64 0, .int .i64 0, .int .i64 0, .int .i64 0, .int .i64 0] (K * 5)) T3)).drew) := by
  have h := al3 w (.cells (madeCells #[.int .u8 0] R) T1) (.cells #[.slice (some ⟨w.heap.size, 0, none⟩) R R, .slice (some ⟨w.heap.size + 1 + 1, 0, none⟩) K K, .int .i64 n, .bool true] T2) (.cells (madeCells #[.int .i64 0, .int .i64 0, .int .i64 0, .int .i64 0, .int .i64 0] (K * 5)) T3)
  exact ⟨w.heap.size, w.heap.size + 1 + 1, w.heap.size + 1, rfl, rfl, Lib.hid (chx0 w R K n f _ _ _ _ T1 T2 ⟨by omega, by omega, by omega, by omega, by omega, by omega, by omega, by omega, by omega⟩ (h.2.2.1) (h.2.1) h.2.2.2.2)⟩
theorem chx_kdc (w : World) (R K : Nat) (n f : Int) (T1 T2 T3 : TypeId) : ∃ d kb cb, Value.int .i64 (R : Int) = Value.int .i64 (R : Int) ∧ Value.pointer (some ⟨w.heap.size + 1 + 1, 0, none⟩) = Value.pointer (some ⟨cb, 0, none⟩) ∧ Hid (CHx w R K n d kb cb 0 f (((w.alloc (.cells (madeCells #[.int .i64 0, .int .i64 0, .int .i64 0, .int .i64 0, .int .i64 0] (K * 5)) T3)).alloc (.cells (madeCells #[.int .u8 0] R) T1)).alloc (.cells #[.slice (some ⟨w.heap.size + 1, 0, none⟩) R R, .slice (some ⟨w.heap.size, 0, none⟩) K K, .int .i64 n, .bool true] T2)).drew) := by
  have h := al3 w (.cells (madeCells #[.int .i64 0, .int .i64 0, .int .i64 0, .int .i64 0, .int .i64 0] (K * 5)) T3) (.cells (madeCells #[.int .u8 0] R) T1) (.cells #[.slice (some ⟨w.heap.size + 1, 0, none⟩) R R, .slice (some ⟨w.heap.size, 0, none⟩) K K, .int .i64 n, .bool true] T2)
  exact ⟨w.heap.size + 1, w.heap.size, w.heap.size + 1 + 1, rfl, rfl, Lib.hid (chx0 w R K n f _ _ _ _ T1 T2 ⟨by omega, by omega, by omega, by omega, by omega, by omega, by omega, by omega, by omega⟩ (h.2.2.2.1) (h.2.2.1) h.2.2.2.2)⟩
theorem chx_kcd (w : World) (R K : Nat) (n f : Int) (T1 T2 T3 : TypeId) : ∃ d kb cb, Value.int .i64 (R : Int) = Value.int .i64 (R : Int) ∧ Value.pointer (some ⟨w.heap.size + 1, 0, none⟩) = Value.pointer (some ⟨cb, 0, none⟩) ∧ Hid (CHx w R K n d kb cb 0 f (((w.alloc (.cells (madeCells #[.int .i64 0, .int .i64 0, .int .i64 0, .int .i64 0, .int .i64 0] (K * 5)) T3)).alloc (.cells #[.slice (some ⟨w.heap.size + 1 + 1, 0, none⟩) R R, .slice (some ⟨w.heap.size, 0, none⟩) K K, .int .i64 n, .bool true] T2)).alloc (.cells (madeCells #[.int .u8 0] R) T1)).drew) := by
  have h := al3 w (.cells (madeCells #[.int .i64 0, .int .i64 0, .int .i64 0, .int .i64 0, .int .i64 0] (K * 5)) T3) (.cells #[.slice (some ⟨w.heap.size + 1 + 1, 0, none⟩) R R, .slice (some ⟨w.heap.size, 0, none⟩) K K, .int .i64 n, .bool true] T2) (.cells (madeCells #[.int .u8 0] R) T1)
  exact ⟨w.heap.size + 1 + 1, w.heap.size, w.heap.size + 1, rfl, rfl, Lib.hid (chx0 w R K n f _ _ _ _ T1 T2 ⟨by omega, by omega, by omega, by omega, by omega, by omega, by omega, by omega, by omega⟩ (h.2.2.1) (h.2.2.2.1) h.2.2.2.2)⟩
theorem chx_cdk (w : World) (R K : Nat) (n f : Int) (T1 T2 T3 : TypeId) : ∃ d kb cb, Value.int .i64 (R : Int) = Value.int .i64 (R : Int) ∧ Value.pointer (some ⟨w.heap.size, 0, none⟩) = Value.pointer (some ⟨cb, 0, none⟩) ∧ Hid (CHx w R K n d kb cb 0 f (((w.alloc (.cells #[.slice (some ⟨w.heap.size + 1, 0, none⟩) R R, .slice (some ⟨w.heap.size + 1 + 1, 0, none⟩) K K, .int .i64 n, .bool true] T2)).alloc (.cells (madeCells #[.int .u8 0] R) T1)).alloc (.cells (madeCells #[.int .i64 0, .int .i64 0, .int .i64 0, .int .i64 0, .int .i64 0] (K * 5)) T3)).drew) := by
  have h := al3 w (.cells #[.slice (some ⟨w.heap.size + 1, 0, none⟩) R R, .slice (some ⟨w.heap.size + 1 + 1, 0, none⟩) K K, .int .i64 n, .bool true] T2) (.cells (madeCells #[.int .u8 0] R) T1) (.cells (madeCells #[.int .i64 0, .int .i64 0, .int .i64 0, .int .i64 0, .int .i64 0] (K * 5)) T3)
  exact ⟨w.heap.size + 1, w.heap.size + 1 + 1, w.heap.size, rfl, rfl, Lib.hid (chx0 w R K n f _ _ _ _ T1 T2 ⟨by omega, by omega, by omega, by omega, by omega, by omega, by omega, by omega, by omega⟩ (h.2.1) (h.2.2.1) h.2.2.2.2)⟩
theorem chx_ckd (w : World) (R K : Nat) (n f : Int) (T1 T2 T3 : TypeId) : ∃ d kb cb, Value.int .i64 (R : Int) = Value.int .i64 (R : Int) ∧ Value.pointer (some ⟨w.heap.size, 0, none⟩) = Value.pointer (some ⟨cb, 0, none⟩) ∧ Hid (CHx w R K n d kb cb 0 f (((w.alloc (.cells #[.slice (some ⟨w.heap.size + 1 + 1, 0, none⟩) R R, .slice (some ⟨w.heap.size + 1, 0, none⟩) K K, .int .i64 n, .bool true] T2)).alloc (.cells (madeCells #[.int .i64 0, .int .i64 0, .int .i64 0, .int .i64 0, .int .i64 0] (K * 5)) T3)).alloc (.cells (madeCells #[.int .u8 0] R) T1)).drew) := by
  have h := al3 w (.cells #[.slice (some ⟨w.heap.size + 1 + 1, 0, none⟩) R R, .slice (some ⟨w.heap.size + 1, 0, none⟩) K K, .int .i64 n, .bool true] T2) (.cells (madeCells #[.int .i64 0, .int .i64 0, .int .i64 0, .int .i64 0, .int .i64 0] (K * 5)) T3) (.cells (madeCells #[.int .u8 0] R) T1)
  exact ⟨w.heap.size + 1 + 1, w.heap.size + 1, w.heap.size, rfl, rfl, Lib.hid (chx0 w R K n f _ _ _ _ T1 T2 ⟨by omega, by omega, by omega, by omega, by omega, by omega, by omega, by omega, by omega⟩ (h.2.1) (h.2.2.2.1) h.2.2.2.2)⟩
theorem own0 {w : World} {g : Nat} {T : TypeId} {base sz : Nat} (h : w.heap[g]? = some (.cells #[] T)) (hb : base ≤ g) : w.ownsRow base T sz (.slice (some ⟨g, 0, none⟩) 0 0) 0 [] :=
  ⟨by simp, .inr ⟨g, 0, #[], rfl, hb, h, Nat.le_refl _, by unfold maxLen; omega, by simp, by simp⟩⟩
theorem al2 (w : World) (o1 o2 : Obj) : (w.alloc o1).heap[w.heap.size]? = some o1 ∧ ((w.alloc o1).alloc o2).heap[w.heap.size]? = some o1 ∧ ((w.alloc o1).alloc o2).heap[w.heap.size + 1]? = some o2 := by
  have s1 : (w.alloc o1).heap.size = w.heap.size + 1 := World.size_alloc _ _
  have a1 := MapKept.heap_alloc w o1
  have a2 := MapKept.heap_alloc (w.alloc o1) o2
  exact ⟨a1.1, by rw [a2.2 _ (by omega), a1.1], by rw [← s1, a2.1]⟩
section
variable {C : Cf} {r k kc : Nat} {W : World}
/-- Behind the append: the model's box has a list of one chunk that is live. -/
def KM (C : Cf) (r k kc : Nat) (W wr : World) (lb lcap : Nat) (w : World) : Prop := wr.heap.size ≤ lb ∧ lb < w.heap.size ∧ wr.heap.size ≤ w.heap.size ∧ w.cell? ⟨lb, 3, none⟩ = some (.bool true) ∧ (∀ i, i < wr.heap.size → i ≠ W.heap.size → w.heap[i]? = wr.heap[i]?) ∧ Below W.heap.size W w ∧ BX W.heap.size #[.int .i64 C.pg, .int .i64 C.rg, .int .i64 C.lg, .int .i64 C.th, .int .i64 C.ca, .int .i64 C.ba, .int .i64 C.sh, .int .i64 C.re, .int .i64 C.mo, .int .i64 C.fi, .int .u64 C.ky, .slice (some ⟨lb, 0, none⟩) 1 lcap, .slice (some ⟨r, 0, none⟩) k kc] w
theorem km_of {lb lcap : Nat} {wr w9 : World} (hs : W.heap.size < wr.heap.size) (hM : BX W.heap.size #[.int .i64 C.pg, .int .i64 C.rg, .int .i64 C.lg, .int .i64 C.th, .int .i64 C.ca, .int .i64 C.ba, .int .i64 C.sh, .int .i64 C.re, .int .i64 C.mo, .int .i64 C.fi, .int .u64 C.ky, .slice none 0 0, .slice (some ⟨r, 0, none⟩) k kc] wr) (hb : Below W.heap.size W wr) (h9 : Below wr.heap.size wr w9) (hg : wr.heap.size ≤ lb) (hl : lb < w9.heap.size) (hc : w9.cell? ⟨lb, 3, none⟩ = some (.bool true)) : KM C r k kc W wr lb lcap (w9.setCell ⟨W.heap.size, 11, none⟩ (.slice (some ⟨lb, 0, none⟩) 1 lcap)) := by
  obtain ⟨a1, a2, a3, a4⟩ := (hM.block (h9.block W.heap.size hs)).put1 #[.int .i64 C.pg, .int .i64 C.rg, .int .i64 C.lg, .int .i64 C.th, .int .i64 C.ca, .int .i64 C.ba, .int .i64 C.sh, .int .i64 C.re, .int .i64 C.mo, .int .i64 C.fi, .int .u64 C.ky, .slice (some ⟨lb, 0, none⟩) 1 lcap, .slice (some ⟨r, 0, none⟩) k kc] 11 (.slice (some ⟨lb, 0, none⟩) 1 lcap) rfl (by simp) _ rfl
  have hs9 := h9.size
  refine ⟨hg, by rw [a1]; exact hl, by rw [a1]; exact hs9, (World.cell?_of_block (a2 lb (by omega))).trans hc, fun i hi hne => (a2 i hne).trans (h9.block i hi), (hb.trans (h9.mono (by omega))).trans (a3 _ (Nat.le_refl _)), a4⟩
theorem km_drew {lb lcap : Nat} {wr w : World} (h : KM C r k kc W wr lb lcap w) : KM C r k kc W wr lb lcap w.drew := ⟨h.1, h.2.1, h.2.2.1, h.2.2.2.1, h.2.2.2.2.1, h.2.2.2.2.2.1.drew, h.2.2.2.2.2.2⟩
/-- What made leaves. -/
def MadePost (C : Cf) (r k kc : Nat) (n : Int) (W : World) (e : Ending) (w' : World) : Prop :=
  ∃ lb lcap, e = .returned (.tuple #[rmv C (some ⟨lb, 0, none⟩) 1 lcap (some ⟨r, 0, none⟩) k kc, .agg #[.int .i64 1, .int .i64 0, .int .i64 n, .int .i64 0, .int .i64 31]]) ∧ W.heap.size ≤ lb ∧ lb < w'.heap.size ∧ w'.cell? ⟨lb, 3, none⟩ = some (.bool true) ∧ Below W.heap.size W w'
set_option maxHeartbeats 1600000 in
theorem rmade (n a f : Int) (hf : 0 ≤ f ∧ f ≤ 255) (h1 : 1 ≤ n) (hn : n ≤ 8000) (ha : 1 ≤ a) (ha2 : a ≤ 256) : Calls Try.prog 48 #[rmv C none 0 0 (some ⟨r, 0, none⟩) k kc, .int .i64 n, .int .i64 a, .int .u8 f] W (MadePost C r k kc n W) := by
  have HRM := Lib.hid (fun w => rroom n a w h1 hn ha ha2)
  go_enter Try.func48, Try.ntmps48
  go_upto_region 1 with (fail)
  obtain ⟨w1, hw1⟩ : ∃ w1, ((W.alloc (.cells #[.int .i64 C.pg, .int .i64 C.rg, .int .i64 C.lg, .int .i64 C.th, .int .i64 C.ca, .int .i64 C.ba, .int .i64 C.sh, .int .i64 C.re, .int .i64 C.mo, .int .i64 C.fi, .int .u64 C.ky, .slice none 0 0, .slice (some ⟨r, 0, none⟩) k kc] 34)).alloc (.cells #[.int .i64 0, .int .i64 0, .int .i64 0, .int .i64 0, .int .i64 0, .int .i64 0, .int .i64 0, .int .i64 0, .int .i64 0, .int .i64 0, .int .u64 0, .slice none 0 0, .slice none 0 0] 34)).alloc (.cells #[.int .i64 0, .int .i64 0, .int .i64 0, .int .i64 0, .int .i64 0] 54) = w1 := ⟨_, rfl⟩
  have bw1 : Below W.heap.size W w1 := by rw [← hw1]; exact alc (alc (alc0 _ _) _) _
  have sw1 : w1.heap.size = W.heap.size + 3 := by rw [← hw1]; simp
  have XM : Hid (BX (W.heap.size) #[.int .i64 C.pg, .int .i64 C.rg, .int .i64 C.lg, .int .i64 C.th, .int .i64 C.ca, .int .i64 C.ba, .int .i64 C.sh, .int .i64 C.re, .int .i64 C.mo, .int .i64 C.fi, .int .u64 C.ky, .slice none 0 0, .slice (some ⟨r, 0, none⟩) k kc] w1) := Lib.hid (by rw [← hw1]; exact (bx_new _ _ _).block ((alc (alc0 _ _) _).block _ (by simp)))
  have XZ : Hid (BX (W.heap.size + 1) #[.int .i64 0, .int .i64 0, .int .i64 0, .int .i64 0, .int .i64 0, .int .i64 0, .int .i64 0, .int .i64 0, .int .i64 0, .int .i64 0, .int .u64 0, .slice none 0 0, .slice none 0 0] w1) := Lib.hid (by rw [← hw1]; exact (bx_at _ _ _ (by simp)).block ((alc0 _ _).block _ (by simp)))
  have XY : Hid (BX (W.heap.size + 1 + 1) #[.int .i64 0, .int .i64 0, .int .i64 0, .int .i64 0, .int .i64 0] w1) := Lib.hid (by rw [← hw1]; exact bx_at _ _ _ (by simp))
  rw [hw1]
  clear hw1
  have HB := Lib.hid bw1
  clear bw1
  go_wp2_with fail
  refine (HRM.out _).mono ?_
  rintro e w2 ⟨⟨R, rfl, hR⟩, bw2⟩
  have sw2 := bw2.size
  replace XM := Lib.hid (XM.out.block (bw2.block (W.heap.size) (by omega)))
  replace XZ := Lib.hid (XZ.out.block (bw2.block (W.heap.size + 1) (by omega)))
  replace XY := Lib.hid (XY.out.block (bw2.block (W.heap.size + 1 + 1) (by omega)))
  replace HB := Lib.hid (thn HB.out bw2)
  clear bw2
  obtain ⟨K, hK⟩ : ∃ K : Nat, R / 16 = K := ⟨_, rfl⟩
  have hKR : (R : Int) / 16 = (K : Int) := by omega
  have hm1 := mkN R (by omega)
  have hm2 := rkRef2 K (by omega)
  clear hK
  go_upto_region 2 with (fail)
  go_cut [10, 11] (fun v10 v11 wx => ∃ d kb cb, v10 = .int .i64 (R : Int) ∧ v11 = .pointer (some ⟨cb, 0, none⟩) ∧ Hid (CHx w2 R K n d kb cb 0 f wx))
  case first =>
    go_region
    all_goals go_wp2
    all_goals go_meet
    all_goals with_reducible first | exact chx_dkc _ _ _ _ _ _ _ _ | exact chx_kdc _ _ _ _ _ _ _ _ | exact chx_dck _ _ _ _ _ _ _ _ | exact chx_kcd _ _ _ _ _ _ _ _ | exact chx_cdk _ _ _ _ _ _ _ _ | exact chx_ckd _ _ _ _ _ _ _ _
  case rest =>
  obtain ⟨d, kb, cb, rfl, rfl, HC⟩ := hcut
  clear hm1 hm2
  obtain ⟨⟨q1, q2, q3, q4, q5, q6, q7, q8, q9⟩, xq, fq, bq⟩ := HC.out
  clear HC
  have sq := bq.size
  have XQ : Hid (BX cb #[.slice (some ⟨d, 0, none⟩) R R, .slice (some ⟨kb, 0, none⟩) K K, .int .i64 n, .bool true] wc) := Lib.hid xq
  have HF : Hid (FB d R 0 f wc) := Lib.hid fq
  clear xq fq
  replace XM := Lib.hid (XM.out.block (bq.block (W.heap.size) (by omega)))
  replace XZ := Lib.hid (XZ.out.block (bq.block (W.heap.size + 1) (by omega)))
  replace XY := Lib.hid (XY.out.block (bq.block (W.heap.size + 1 + 1) (by omega)))
  replace HB := Lib.hid (thn HB.out bq)
  clear bq
  go_wp2_with fail
  go_loopw [12] (fun v12 wr => ∃ j : Nat, j ≤ R ∧ v12 = .int .i64 j ∧ Hid (FB d R j f wr) ∧ Hid (wr.heap.size = wc.heap.size ∧ ∀ i, i ≠ d → wr.heap[i]? = wc.heap[i]?) ∧ Hid (Below d wc wr)) (fun v12 _ => R - (intOf v12).toNat)
  case atStart => exact ⟨0, by omega, rfl, HF, Lib.hid ⟨rfl, fun _ _ => rfl⟩, Lib.hid (Below.refl _ _)⟩
  case round =>
  obtain ⟨j, hj, rfl, HFJ, HSJ, HBJ⟩ := hrel
  have hsz := HSJ.out.1
  have e1 : wr.cell? ⟨cb, 0, none⟩ = some (.slice (some ⟨d, 0, none⟩) R R) := (World.cell?_of_block (HSJ.out.2 cb (by omega))).trans (XQ.out 0 _ rfl).1
  by_cases hlt : j < R
  · obtain ⟨-, g2, g3⟩ := HFJ.out j hlt
    obtain ⟨u, hu⟩ := Option.isSome_iff_exists.1 g2
    have i1 : (j : Int) < (R : Int) := by omega
    have i2 : (0 : Int) ≤ (j : Int) := by omega
    clear g2
    go_wp2_with fail
    go_roundw
    case rel => exact ⟨j + 1, by omega, by go_num, Lib.hid (HFJ.out.next hlt), Lib.hid ⟨by rw [size_set]; exact HSJ.out.1, fun i hi => (heap_other _ d j _ i hi).trans (HSJ.out.2 i hi)⟩, Lib.hid (HBJ.out.setCell (p := ⟨d, j, none⟩) (Nat.le_refl _) _)⟩
    case measure => simp [intOf]; omega
  obtain rfl : R = j := by omega
  have i1 : ¬ (R : Int) < (R : Int) := by omega
  clear e1
  replace XM := Lib.hid (XM.out.block (HSJ.out.2 (W.heap.size) (by omega)))
  replace XZ := Lib.hid (XZ.out.block (HSJ.out.2 (W.heap.size + 1) (by omega)))
  replace XY := Lib.hid (XY.out.block (HSJ.out.2 (W.heap.size + 1 + 1) (by omega)))
  replace XQ := Lib.hid (XQ.out.block (HSJ.out.2 (cb) (by omega)))
  replace HB := Lib.hid (HB.out.trans (HBJ.out.mono (by omega)))
  clear HFJ HSJ HBJ HF HRM
  replace hsz := Nat.le_of_eq hsz.symm
  go_upto_region 7 with (fail)
  obtain ⟨cM0, cM1, cM2, cM3, cM4, cM5, cM6, cM7, cM8, cM9, cM10, cM11, cM12⟩ := XM.out.c13
  obtain ⟨cQ0, cQ1, cQ2, cQ3⟩ := XQ.out.c4
  obtain ⟨fM0, fM1, fM2, fM3, fM4, fM5, fM6, fM7, fM8, fM9, fM10, fM11, fM12⟩ := XM.out.f13
  obtain ⟨i9, hi9, hz9, hy9, hx9⟩ := info_parts infoCh
  have hal2 := al2 wr
  have hsw : W.heap.size < wr.heap.size := by omega
  have hcw : cb < wr.heap.size := by omega
  have hdw : d < wr.heap.size := by omega
  have hkw : kb < wr.heap.size := by omega
  go_cut [12] (fun v12 wx => ∃ lb lcap, v12 = .int .i64 (R : Int) ∧ Hid (KM C r k kc W wr lb lcap wx))
  case first =>
    go_region_law (first
      | (refine step_app_own rfl (.tmp 33) (.tmp 35) 31 rfl wr.heap.size 77 i9 4 Try.underlying31 hi9 (.slice (some ⟨wr.heap.size, 0, none⟩) 0 0) 0 [] (by simp [Act.eval, Act.put]) (own0 (by first | exact (hal2 _ (.cells #[] 0)).1 | exact (hal2 _ _).2.1) (by omega)) (by simp [Act.eval, Act.put]) ?_)
      | (refine step_app_own rfl (.tmp 33) (.tmp 35) 31 rfl wr.heap.size 77 i9 4 Try.underlying31 hi9 (.slice (some ⟨wr.heap.size + 1, 0, none⟩) 0 0) 0 [] (by simp [Act.eval, Act.put]) (own0 (by exact (hal2 _ _).2.2) (by omega)) (by simp [Act.eval, Act.put]) ?_)
      | (refine step_append_lies _ rfl (.tmp 36) (.tmp 38) 31 rfl wr.heap.size 77 i9 (.agg #[.slice none 0 0, .slice none 0 0, .int .i64 0, .bool false]) 4 64 Try.underlying31 hi9 hz9 hy9 hx9 rfl (by decide) (.slice (some ⟨wr.heap.size, 0, none⟩) 0 0) 0 [] (by simp [Act.eval, Act.put]) (own0 (by exact (hal2 _ _).2.1) (by omega)) ⟨wr.heap.size + 1, 0, none⟩ 1 1 [.slice (some ⟨d, 0, none⟩) R R, .slice (some ⟨kb, 0, none⟩) K K, .int .i64 n, .bool true] (by simp [Act.eval, Act.put]) rfl (World.news_of_block (by exact (hal2 _ _).2.2)) (by simp [Value.oneCell']) (by omega) (by unfold maxLen; omega) (by omega) (by simp; omega) (wr.heap.size + 2) (by simp) ?_
         intro g cap w9 hown hgrow hat hlt
         have hb9 : Below wr.heap.size wr w9 := by first | exact ((alc (alc0 wr _) _).drew).grown hgrow (by simp; omega) (fun j hj => by simp [Value.ownBlock] at hj; omega) | exact (alc (alc0 wr _) _).grown hgrow (by simp; omega) (fun j hj => by simp [Value.ownBlock] at hj; omega)
         have hg9 : wr.heap.size ≤ g := by rcases hat with h | h <;> first | (simp [Value.ownBlock] at h; omega) | omega
         have e11 : w9.cell? ⟨W.heap.size, 11, none⟩ = some (.slice none 0 0) := (hb9.cell (p := ⟨W.heap.size, 11, none⟩) hsw).trans cM11
         have z11 : w9.frozen? ⟨W.heap.size, 11, none⟩ = false := (hb9.frozen (p := ⟨W.heap.size, 11, none⟩) hsw).trans fM11
         have HB9 := Lib.hid hb9
         have HG9 : Hid (w9.cell? ⟨g, 3, none⟩ = some (.bool true)) := by
           have h1 := hown.cells (g := g) rfl 3 _ rfl
           rw [addp] at h1
           exact Lib.hid h1
         clear hb9 hown hgrow hat
         try simp only [Nat.zero_add])
      | (refine step_append_lies _ rfl (.tmp 36) (.tmp 38) 31 rfl wr.heap.size 77 i9 (.agg #[.slice none 0 0, .slice none 0 0, .int .i64 0, .bool false]) 4 64 Try.underlying31 hi9 hz9 hy9 hx9 rfl (by decide) (.slice (some ⟨wr.heap.size + 1, 0, none⟩) 0 0) 0 [] (by simp [Act.eval, Act.put]) (own0 (by exact (hal2 _ _).2.2) (by omega)) ⟨wr.heap.size, 0, none⟩ 1 1 [.slice (some ⟨d, 0, none⟩) R R, .slice (some ⟨kb, 0, none⟩) K K, .int .i64 n, .bool true] (by simp [Act.eval, Act.put]) rfl (World.news_of_block (by exact (hal2 _ _).2.1)) (by simp [Value.oneCell']) (by omega) (by unfold maxLen; omega) (by omega) (by simp; omega) (wr.heap.size + 2) (by simp) ?_
         intro g cap w9 hown hgrow hat hlt
         have hb9 : Below wr.heap.size wr w9 := by first | exact ((alc (alc0 wr _) _).drew).grown hgrow (by simp; omega) (fun j hj => by simp [Value.ownBlock] at hj; omega) | exact (alc (alc0 wr _) _).grown hgrow (by simp; omega) (fun j hj => by simp [Value.ownBlock] at hj; omega)
         have hg9 : wr.heap.size ≤ g := by rcases hat with h | h <;> first | (simp [Value.ownBlock] at h; omega) | omega
         have e11 : w9.cell? ⟨W.heap.size, 11, none⟩ = some (.slice none 0 0) := (hb9.cell (p := ⟨W.heap.size, 11, none⟩) hsw).trans cM11
         have z11 : w9.frozen? ⟨W.heap.size, 11, none⟩ = false := (hb9.frozen (p := ⟨W.heap.size, 11, none⟩) hsw).trans fM11
         have HB9 := Lib.hid hb9
         have HG9 : Hid (w9.cell? ⟨g, 3, none⟩ = some (.bool true)) := by
           have h1 := hown.cells (g := g) rfl 3 _ rfl
           rw [addp] at h1
           exact Lib.hid h1
         clear hb9 hown hgrow hat
         try simp only [Nat.zero_add]))
    all_goals go_wp2
    all_goals go_meet
    all_goals first | exact ⟨g, cap, rfl, Lib.hid (km_of hsw XM.out HB.out HB9.out (by assumption) (by assumption) HG9.out)⟩ | exact ⟨g, cap, rfl, Lib.hid (km_drew (km_of hsw XM.out HB.out HB9.out (by assumption) (by assumption) HG9.out))⟩
  case rest =>
  obtain ⟨lb, lcap, rfl, HKM⟩ := hcut
  clear cM0 cM1 cM2 cM3 cM4 cM5 cM6 cM7 cM8 cM9 cM10 cM11 cM12 cQ0 cQ1 cQ2 cQ3 fM0 fM1 fM2 fM3 fM4 fM5 fM6 fM7 fM8 fM9 fM10 fM11 fM12
  clear hal2 hi9 hz9 hy9 hx9 hdw hkw
  obtain ⟨k1, k2, k3, k4, k5, k6, k7⟩ := HKM.out
  clear HKM
  replace XM := Lib.hid k7
  replace HB := Lib.hid k6
  have HL := Lib.hid k4
  have HK5 := Lib.hid k5
  clear k4 k5 k6 k7
  replace XZ := Lib.hid (XZ.out.block (HK5.out (W.heap.size + 1) (by omega) (by omega)))
  replace XY := Lib.hid (XY.out.block (HK5.out (W.heap.size + 1 + 1) (by omega) (by omega)))
  clear HK5 XQ
  obtain ⟨cM0, cM1, cM2, cM3, cM4, cM5, cM6, cM7, cM8, cM9, cM10, cM11, cM12⟩ := XM.out.c13
  obtain ⟨cZ0, cZ1, cZ2, cZ3, cZ4, cZ5, cZ6, cZ7, cZ8, cZ9, cZ10, cZ11, cZ12⟩ := XZ.out.c13
  obtain ⟨cY0, cY1, cY2, cY3, cY4⟩ := XY.out.c5
  obtain ⟨fZ0, fZ1, fZ2, fZ3, fZ4, fZ5, fZ6, fZ7, fZ8, fZ9, fZ10, fZ11, fZ12⟩ := XZ.out.f13
  obtain ⟨fY0, fY1, fY2, fY3, fY4⟩ := XY.out.f5
  go_upto_region 8 with (fail)
  refine wp_region_held_drew (S := fun w' => w'.cell? ⟨W.heap.size, 0, none⟩ = some (.int .i64 C.pg) ∧ w'.cell? ⟨W.heap.size, 1, none⟩ = some (.int .i64 C.rg) ∧ w'.cell? ⟨W.heap.size, 2, none⟩ = some (.int .i64 C.lg) ∧ w'.cell? ⟨W.heap.size, 3, none⟩ = some (.int .i64 C.th) ∧ w'.cell? ⟨W.heap.size, 4, none⟩ = some (.int .i64 C.ca) ∧ w'.cell? ⟨W.heap.size, 5, none⟩ = some (.int .i64 C.ba) ∧ w'.cell? ⟨W.heap.size, 6, none⟩ = some (.int .i64 C.sh) ∧ w'.cell? ⟨W.heap.size, 7, none⟩ = some (.int .i64 C.re) ∧ w'.cell? ⟨W.heap.size, 8, none⟩ = some (.int .i64 C.mo) ∧ w'.cell? ⟨W.heap.size, 9, none⟩ = some (.int .i64 C.fi) ∧ w'.cell? ⟨W.heap.size, 10, none⟩ = some (.int .u64 C.ky) ∧ w'.cell? ⟨W.heap.size, 11, none⟩ = some (.slice (some ⟨lb, 0, none⟩) 1 lcap) ∧ w'.cell? ⟨W.heap.size, 12, none⟩ = some (.slice (some ⟨r, 0, none⟩) k kc)) (by kernel_rfl) ?_ (fun hHeld => ?_)
  · exact ⟨cM0, cM1, cM2, cM3, cM4, cM5, cM6, cM7, cM8, cM9, cM10, cM11, cM12⟩
  refine wpAnyH_take (i := 0) (v := ?_) rfl (by kernel_rfl) (by kernel_rfl) (by kernel_rfl) (fun _ _ _ h => h) (Or.inl ⟨by kernel_rfl, ?_⟩) (by assumption) ?_
  rotate_left
  · (intro w hSw; (try dsimp only at hSw); go_simp)
    try (with_reducible rfl)
  rotate_left
  try simp (maxSteps := 4000000) only [Act.put, List.setIfInBounds_toArray, List.set_cons_zero, List.set_cons_succ, List.getElem_toArray, List.getElem_cons_zero, List.getElem_cons_succ]
  refine wpAnyH_take (i := 1) (v := ?_) rfl (by kernel_rfl) (by kernel_rfl) (by kernel_rfl) (fun _ _ _ h => h) (Or.inl ⟨by kernel_rfl, ?_⟩) (by assumption) ?_
  rotate_left
  · (intro w hSw; (try dsimp only at hSw); go_simp)
    try (with_reducible rfl)
  rotate_left
  try simp (maxSteps := 4000000) only [Act.put, List.setIfInBounds_toArray, List.set_cons_zero, List.set_cons_succ, List.getElem_toArray, List.getElem_cons_zero, List.getElem_cons_succ]
  refine wpAnyH_take (i := 2) (v := ?_) rfl (by kernel_rfl) (by kernel_rfl) (by kernel_rfl) (fun _ _ _ h => h) (Or.inl ⟨by kernel_rfl, ?_⟩) (by assumption) ?_
  rotate_left
  · (intro w hSw; (try dsimp only at hSw); go_simp)
    try (with_reducible rfl)
  rotate_left
  try simp (maxSteps := 4000000) only [Act.put, List.setIfInBounds_toArray, List.set_cons_zero, List.set_cons_succ, List.getElem_toArray, List.getElem_cons_zero, List.getElem_cons_succ]
  refine wpAnyH_take (i := 3) (v := ?_) rfl (by kernel_rfl) (by kernel_rfl) (by kernel_rfl) (fun _ _ _ h => h) (Or.inl ⟨by kernel_rfl, ?_⟩) (by assumption) ?_
  rotate_left
  · (intro w hSw; (try dsimp only at hSw); go_simp)
    try (with_reducible rfl)
  rotate_left
  try simp (maxSteps := 4000000) only [Act.put, List.setIfInBounds_toArray, List.set_cons_zero, List.set_cons_succ, List.getElem_toArray, List.getElem_cons_zero, List.getElem_cons_succ]
  refine wpAnyH_take (i := 4) (v := ?_) rfl (by kernel_rfl) (by kernel_rfl) (by kernel_rfl) (fun _ _ _ h => h) (Or.inl ⟨by kernel_rfl, ?_⟩) (by assumption) ?_
  rotate_left
  · (intro w hSw; (try dsimp only at hSw); go_simp)
    try (with_reducible rfl)
  rotate_left
  try simp (maxSteps := 4000000) only [Act.put, List.setIfInBounds_toArray, List.set_cons_zero, List.set_cons_succ, List.getElem_toArray, List.getElem_cons_zero, List.getElem_cons_succ]
  refine wpAnyH_take (i := 5) (v := ?_) rfl (by kernel_rfl) (by kernel_rfl) (by kernel_rfl) (fun _ _ _ h => h) (Or.inl ⟨by kernel_rfl, ?_⟩) (by assumption) ?_
  rotate_left
  · (intro w hSw; (try dsimp only at hSw); go_simp)
    try (with_reducible rfl)
  rotate_left
  try simp (maxSteps := 4000000) only [Act.put, List.setIfInBounds_toArray, List.set_cons_zero, List.set_cons_succ, List.getElem_toArray, List.getElem_cons_zero, List.getElem_cons_succ]
  refine wpAnyH_ready (rs := [6]) (by kernel_rfl) (by simp) ?_
  refine AllReadyH.cons rfl (fun K2 hK2 => ?_) AllReadyH.nil
  go_simp
  obtain ⟨wz, hwz⟩ : ∃ wz, wz = sets13 wc (W.heap.size + 1) (.int .i64 C.pg) (.int .i64 C.rg) (.int .i64 C.lg) (.int .i64 C.th) (.int .i64 C.ca) (.int .i64 C.ba) (.int .i64 C.sh) (.int .i64 C.re) (.int .i64 C.mo) (.int .i64 C.fi) (.int .u64 C.ky) (.slice (some ⟨lb, 0, none⟩) 1 lcap) (.slice (some ⟨r, 0, none⟩) k kc) := ⟨_, rfl⟩
  obtain ⟨swz, kwz, lwz, XZn⟩ := XZ.out.put13s rfl hwz
  unfold sets13 at hwz
  rw [← hwz]
  clear hwz
  clear cM0 cM1 cM2 cM3 cM4 cM5 cM6 cM7 cM8 cM9 cM10 cM11 cM12 cZ0 cZ1 cZ2 cZ3 cZ4 cZ5 cZ6 cZ7 cZ8 cZ9 cZ10 cZ11 cZ12 cY0 cY1 cY2 cY3 cY4 fZ0 fZ1 fZ2 fZ3 fZ4 fZ5 fZ6 fZ7 fZ8 fZ9 fZ10 fZ11 fZ12 fY0 fY1 fY2 fY3 fY4
  replace XZ := Lib.hid XZn
  clear XZn
  replace XM := Lib.hid (XM.out.block (kwz (W.heap.size) (by omega)))
  replace XY := Lib.hid (XY.out.block (kwz (W.heap.size + 1 + 1) (by omega)))
  replace HL := Lib.hid ((World.cell?_of_block (kwz (lb) (by omega))).trans HL.out)
  replace HB := Lib.hid (HB.out.trans (lwz W.heap.size (by omega)))
  clear kwz lwz
  obtain ⟨wy, hwy⟩ : ∃ wy, wz.drew = wy := ⟨_, rfl⟩
  rw [hwy]
  have bwy : Below wz.heap.size wz wy := by rw [← hwy]; exact (Below.refl _ wz).drew
  have swy : wy.heap.size = wz.heap.size := by rw [← hwy]; rfl
  clear hwy
  replace XM := Lib.hid (XM.out.block (bwy.block (W.heap.size) (by omega)))
  replace XZ := Lib.hid (XZ.out.block (bwy.block (W.heap.size + 1) (by omega)))
  replace XY := Lib.hid (XY.out.block (bwy.block (W.heap.size + 1 + 1) (by omega)))
  replace HL := Lib.hid ((World.cell?_of_block (bwy.block (lb) (by omega))).trans HL.out)
  replace HB := Lib.hid (thn HB.out bwy)
  clear bwy
  obtain ⟨cM0, cM1, cM2, cM3, cM4, cM5, cM6, cM7, cM8, cM9, cM10, cM11, cM12⟩ := XM.out.c13
  obtain ⟨cZ0, cZ1, cZ2, cZ3, cZ4, cZ5, cZ6, cZ7, cZ8, cZ9, cZ10, cZ11, cZ12⟩ := XZ.out.c13
  obtain ⟨cY0, cY1, cY2, cY3, cY4⟩ := XY.out.c5
  obtain ⟨fY0, fY1, fY2, fY3, fY4⟩ := XY.out.f5
  refine hK2.out _ _ (⟨cM0, cM1, cM2, cM3, cM4, cM5, cM6, cM7, cM8, cM9, cM10, cM11, cM12⟩) (fun hHeld2 => ?_)
  clear hK2 K2 hHeld
  have hHeld := hHeld2
  clear hHeld2
  try simp (maxSteps := 4000000) only [Act.put, List.setIfInBounds_toArray, List.set_cons_zero, List.set_cons_succ]
  refine wpAnyH_ready (rs := [7]) (by kernel_rfl) (by simp) ?_
  refine AllReadyH.cons rfl (fun K2 hK2 => ?_) AllReadyH.nil
  go_simp
  obtain ⟨wx, hwx⟩ : ∃ wx, wx = sets5 wy (W.heap.size + 1 + 1) (.int .i64 1) (.int .i64 0) (.int .i64 n) (.int .i64 0) (.int .i64 31) := ⟨_, rfl⟩
  obtain ⟨swx, kwx, lwx, XYn⟩ := XY.out.put5s rfl hwx
  unfold sets5 at hwx
  rw [← hwx]
  clear hwx
  clear cM0 cM1 cM2 cM3 cM4 cM5 cM6 cM7 cM8 cM9 cM10 cM11 cM12 cZ0 cZ1 cZ2 cZ3 cZ4 cZ5 cZ6 cZ7 cZ8 cZ9 cZ10 cZ11 cZ12 cY0 cY1 cY2 cY3 cY4 fY0 fY1 fY2 fY3 fY4
  replace XY := Lib.hid XYn
  clear XYn
  replace XM := Lib.hid (XM.out.block (kwx (W.heap.size) (by omega)))
  replace XZ := Lib.hid (XZ.out.block (kwx (W.heap.size + 1) (by omega)))
  replace HL := Lib.hid ((World.cell?_of_block (kwx (lb) (by omega))).trans HL.out)
  replace HB := Lib.hid (HB.out.trans (lwx W.heap.size (by omega)))
  clear kwx lwx
  obtain ⟨cM0, cM1, cM2, cM3, cM4, cM5, cM6, cM7, cM8, cM9, cM10, cM11, cM12⟩ := XM.out.c13
  obtain ⟨cZ0, cZ1, cZ2, cZ3, cZ4, cZ5, cZ6, cZ7, cZ8, cZ9, cZ10, cZ11, cZ12⟩ := XZ.out.c13
  obtain ⟨cY0, cY1, cY2, cY3, cY4⟩ := XY.out.c5
  refine hK2.out _ _ (⟨cM0, cM1, cM2, cM3, cM4, cM5, cM6, cM7, cM8, cM9, cM10, cM11, cM12⟩) (fun hHeld2 => ?_)
  clear hK2 K2 hHeld
  have hHeld := hHeld2
  clear hHeld2
  try simp (maxSteps := 4000000) only [Act.put, List.setIfInBounds_toArray, List.set_cons_zero, List.set_cons_succ]
  refine wpAnyH_done (by kernel_rfl) ?_ _
  go_wp2_with fail
  refine bodyPost_ret (v := .tuple #[rmv C (some ⟨lb, 0, none⟩) 1 lcap (some ⟨r, 0, none⟩) k kc, .agg #[.int .i64 1, .int .i64 0, .int .i64 n, .int .i64 0, .int .i64 31]]) (by simp [results, Try.results48, go_sem, cZ0, cZ1, cZ2, cZ3, cZ4, cZ5, cZ6, cZ7, cZ8, cZ9, cZ10, cZ11, cZ12, cY0, cY1, cY2, cY3, cY4]) rfl ⟨lb, lcap, rfl, by omega, by omega, HL.out, HB.out⟩
end
end Go.Proofs.Ytanmmhbnjmglhaa
