/- SoL, SoN. -/
import Derived.Test.YtnfcpohbdkionaaGreatDoorZ06
import Derived.Carry
import Derived.Lib.BufferRead
import Derived.Lib.ConvBytes
namespace Go.Proofs.YtnfcpohbdkionaaGreatDoor
set_option maxRecDepth 100000
open Go.RowKit Go.ChangeMaps Go.MapKept
open Go.Maps (Keyed)
set_option linter.unusedVariables false
set_option linter.unusedSimpArgs false
theorem over_over (c d : Nat → Nat) (a at_ k : Nat) (h : a ≤ at_) : over (over c a (at_ - a) d) at_ k (fun i => d (at_ - a + i)) = over c a (at_ + k - a) d := by
  funext x
  simp only [over]
  by_cases h1 : at_ ≤ x ∧ x < at_ + k
  · rw [if_pos h1, if_pos (by omega), show at_ - a + (x - at_) = x - a by omega]
  · rw [if_neg h1]
    by_cases h2 : a ≤ x ∧ x < a + (at_ - a)
    · rw [if_pos h2, if_pos (by omega)]
    · rw [if_neg h2, if_neg (by omega)]
theorem over_none (c d : Nat → Nat) (a : Nat) : over c a 0 d = c := by
  funext x
  simp only [over]
  rw [if_neg (by omega)]
end Go.Proofs.YtnfcpohbdkionaaGreatDoor
namespace Go.Proofs.YtnfcpohbdkionaaGreatDoor
set_option maxRecDepth 100000
open Go.RowKit Go.ChangeMaps Go.MapKept
open Go.Maps (Keyed)
set_option linter.unusedVariables false
set_option linter.unusedSimpArgs false
theorem STL.lt {B g b : Nat} {W : World} {l : List (Nat × Nat)} {c : Nat → Nat} (h : STL B g b W l c) : ∀ pq ∈ l, pq.2 < W.heap.size := fun pq hpq => (h.2.2.2.1 pq hpq).2.2.2.1
theorem snew (W : World) : Calls Tryz.prog 44 #[] W fun e w' => ∃ g b, e = .returned (.pointer (some ⟨g, 0, none⟩)) ∧ STL W.heap.size g b w' [] (fun _ => 0) ∧ Below W.heap.size W w' := by
  have hmm := fun w => run_makeMap (P := Tryz.prog) 124 w
  go_enter Tryz.func44, Tryz.ntmps44
  go_wp2
  go_ret
  refine ⟨W.heap.size + 1, W.heap.size, by first | rfl | simp, ⟨by simp, ⟨by omega, by omega, by omega, by simp, by simp <;> omega⟩, ⟨#[], 0, ?_, by simp, by simp, by simp⟩, by simp, by simp, by simp⟩, ?_⟩
  · first | (simp; done) | (rw [Below.heap_alloc _ _ _ (by simp)]; show (W.heap.push _)[W.heap.size]? = _; simp)
  · exact alc (alc0 _ _) _
end Go.Proofs.YtnfcpohbdkionaaGreatDoor
namespace Go.Proofs.YtnfcpohbdkionaaGreatDoor
set_option maxRecDepth 100000
open Go.RowKit Go.ChangeMaps Go.MapKept
open Go.Maps (Keyed)
set_option linter.unusedVariables false
set_option linter.unusedSimpArgs false
/-- The number of i bytes. -/
def wn (f : Nat → Nat) : Nat → Nat
  | 0 => 0
  | i + 1 => wn f i + f i * 2 ^ (8 * i)
theorem PGn.set {D n : Nat} {W : World} {f : Nat → Nat} (h : PGn D n W f) (i x : Nat) (hi : i < n) : PGn D n (W.setCell ⟨D, i, none⟩ (.int .u8 (x : Int))) (fun j => if j = i then x else f j) := by
  refine ⟨by rw [show (W.setCell ⟨D, i, none⟩ (.int .u8 (x : Int))).heap.size = W.heap.size by simp [World.setCell]]; exact h.1, fun j hj => ?_, fun o => by rw [World.frozen?_setCell]; exact h.2.2 o⟩
  by_cases e : j = i
  · subst e
    simp only [if_true]
    exact World.cell?_setCell_same _ _ _ (h.2.1 j hj)
  · simp only [if_neg e]
    rw [World.cell?_setCell_other W ⟨D, i, none⟩ ⟨D, j, none⟩ _ (by intro e2; injection e2 with _ e2 _; exact e e2.symm)]
    exact h.2.1 j hj
end Go.Proofs.YtnfcpohbdkionaaGreatDoor
namespace Go.Proofs.YtnfcpohbdkionaaGreatDoor
set_option maxRecDepth 100000
open Go.RowKit Go.ChangeMaps Go.MapKept
open Go.Maps (Keyed)
set_option linter.unusedVariables false
set_option linter.unusedSimpArgs false
set_option maxRecDepth 100000 in
set_option maxHeartbeats 3200000 in
theorem fillC (B g b x3 x5 x P R T : Nat) (dn : Int) (w : World) (l : List (Nat × Nat)) (c : Nat → Nat) (h : STL B g b w l c) (hx3 : w.cell? ⟨x3, 0, none⟩ = some (.pointer (some ⟨g, 0, none⟩))) (hx5 : w.cell? ⟨x5, 0, none⟩ = some (.int .u8 (x : Int)))
    (hx3b : x3 ≠ b) (hx5b : x5 ≠ b) (hx5l : ∀ pq ∈ l, pq.2 ≠ x5) (hP : P < 1024) (hRT : R < T) (hT : T ≤ 256) :
    Calls Tryz.prog 112 #[.int .i64 (P : Int), .int .i64 (R : Int), .int .i64 (T : Int), .int .i64 dn, .pointer (some ⟨x3, 0, none⟩), .pointer (some ⟨x5, 0, none⟩)] w fun e w' => e = .returned (.tuple #[]) ∧ (∃ l', STL B g b w' l' (over c (P * 256 + R) (T - R) (fun _ => x)) ∧ ∀ pq ∈ l', pq ∈ l ∨ w.heap.size ≤ pq.2) ∧ w.heap.size ≤ w'.heap.size ∧ (∀ i, i < w.heap.size → i ≠ b → (∀ pq ∈ l, pq.2 ≠ i) → w'.heap[i]? = w.heap[i]?) ∧ Below B w w' := by
  have H := Lib.hid h
  have HBB : Hid (B ≤ b ∧ B ≤ w.heap.size) := Lib.hid ⟨h.2.1.2.1, by have := h.2.1.1; have := h.2.1.2.2.2.1; omega⟩
  clear h
  go_enter Tryz.func112, Tryz.ntmps112
  go_wp2_with fail
  with_reducible refine Calls.mono (page_any B g b w l c H.out P hP) ?_
  rintro e w1 ⟨⟨q, l', rfl, hq, hS1, hl'⟩, ho1⟩
  have hz5 : x5 < w.heap.size := World.block_lt_of_cell? w _ hx5
  have h15 : w1.cell? ⟨x5, 0, none⟩ = some (.int .u8 (x : Int)) := (World.cell?_of_block (ho1.2.1 x5 hz5 hx5b)).trans hx5
  have hPG := (hS1.2.2.2.1 (P, q) hq)
  have HF : Hid ((∀ pq ∈ l', pq ∈ l ∨ w.heap.size ≤ pq.2) ∧ w.heap.size ≤ w1.heap.size ∧ (∀ i, i < w.heap.size → i ≠ b → (∀ pq ∈ l, pq.2 ≠ i) → i ≠ q ∧ w1.heap[i]? = w.heap[i]?) ∧ Below B w w1) := Lib.hid ⟨fun pq hpq => (hl' pq hpq).imp id (fun e => by rw [e]; exact Nat.le_refl _), ho1.1, fun i hi hib hil => ⟨fun e => by
      rcases hl' (P, q) hq with h | h
      · exact hil (P, q) h e.symm
      · have h' : q = w.heap.size := h
        omega, ho1.2.1 i hi hib⟩, ho1.2.2 B HBB.out.1 HBB.out.2⟩
  have HQ := Lib.hid hq
  have HBQ : Hid (B ≤ q ∧ B ≤ w1.heap.size) := Lib.hid ⟨hPG.2.2.1, by have := ho1.1; have := HBB.out.2; omega⟩
  have H15 := Lib.hid h15
  have HX5Q : Hid (x5 ≠ q) := Lib.hid (fun e => by
    rcases hl' (P, q) hq with h | h
    · exact hx5l (P, q) h e.symm
    · have h' : q = w.heap.size := h
      omega)
  have HS0 : Hid (STL B g b w1 l' (over c (P * 256 + R) (R - R) (fun _ => x))) := Lib.hid (by rw [Nat.sub_self, over_none]; exact hS1)
  clear hPG ho1 hS1 hl' hq h15 hz5 HBB H hx3 hx5
  go_wp2_with fail
  go_loopw [11] (fun v11 wr => ∃ i : Nat, R ≤ i ∧ i ≤ T ∧ v11 = .int .i64 i ∧ Hid (STL B g b wr l' (over c (P * 256 + R) (i - R) (fun _ => x))) ∧ Hid (OB q w1 wr ∧ wr.heap.size = w1.heap.size)) (fun v11 _ => T - (intOf v11).toNat)
  case atStart => exact ⟨R, by omega, by omega, rfl, HS0, Lib.hid ⟨OB.of_below (Below.refl _ _), rfl⟩⟩
  case round =>
    clear HS0
    obtain ⟨i, hRi, hiT, rfl, HS, HO⟩ := hrel
    by_cases hlt : i < T
    · have i1 : (i : Int) < T := by omega
      have i2 : i < 256 := by omega
      have f1 : IntKind.i64.wrap ((i : Int) + 1) = ((i + 1 : Nat) : Int) := by rw [IntKind.wrap_i64]; omega
      have hPG := (HS.out.2.2.2.1 (P, q) HQ.out).2.2.2
      have ca := hPG.2.1 i i2
      have cf := hPG.2.2 i
      have h5 : wr.cell? ⟨x5, 0, none⟩ = some (.int .u8 (x : Int)) := (World.cell?_of_block (HO.out.1.2.1 x5 (World.block_lt_of_cell? w1 _ H15.out) HX5Q.out)).trans H15.out
      have hS2 := HS.out.write HQ.out i 1 (by omega) (fun _ => x)
      have e1 : over (over c (P * 256 + R) (i - R) (fun _ => x)) (P * 256 + i) 1 (fun _ => x) = over c (P * 256 + R) (i + 1 - R) (fun _ => x) := by
        have := over_over c (fun _ => x) (P * 256 + R) (P * 256 + i) 1 (by omega)
        rw [show P * 256 + i - (P * 256 + R) = i - R by omega, show P * 256 + i + 1 - (P * 256 + R) = i + 1 - R by omega] at this
        exact this
      rw [e1] at hS2
      have HS2 : Hid (STL B g b (wr.setCell ⟨q, i, none⟩ (.int .u8 (x : Int))) l' (over c (P * 256 + R) (i + 1 - R) (fun _ => x))) := Lib.hid hS2
      have HO2 : Hid (OB q w1 (wr.setCell ⟨q, i, none⟩ (.int .u8 (x : Int))) ∧ (wr.setCell ⟨q, i, none⟩ (.int .u8 (x : Int))).heap.size = w1.heap.size) := Lib.hid ⟨HO.out.1.trans (ob_set q i wr _) (.inl rfl), by rw [← HO.out.2]; simp [World.setCell]⟩
      clear hPG hS2 e1
      generalize over c (P * 256 + R) (i - R) (fun _ => x) = C at *
      go_wp2_with fail
      go_roundw
      case rel => exact ⟨i + 1, by omega, by omega, by go_num, HS2, HO2⟩
      case measure => simp [intOf] <;> omega
    · obtain rfl : i = T := by omega
      have i1 : ¬ (i : Int) < i := by omega
      go_wp2
      exact bodyPost_end (v := .tuple #[]) (by simp [results, Tryz.results112, go_sem]) rfl ⟨rfl, ⟨l', HS.out, fun a1 a2 ha => HF.out.1 (a1, a2) ha⟩, by rw [HO.out.2]; exact HF.out.2.1, fun j hj hjb hjl => by
        obtain ⟨k1, k2⟩ := HF.out.2.2.1 j hj hjb (fun pq hpq => hjl pq.1 pq.2 hpq)
        rw [HO.out.1.2.1 j (Nat.lt_of_lt_of_le hj HF.out.2.1) k1, k2], HF.out.2.2.2.trans (HO.out.1.2.2 B HBQ.out.1 HBQ.out.2)⟩
end Go.Proofs.YtnfcpohbdkionaaGreatDoor
namespace Go.Proofs.YtnfcpohbdkionaaGreatDoor
set_option maxRecDepth 100000
open Go.RowKit Go.ChangeMaps Go.MapKept
open Go.Maps (Keyed)
set_option linter.unusedVariables false
set_option linter.unusedSimpArgs false
end Go.Proofs.YtnfcpohbdkionaaGreatDoor
namespace Go.Proofs.YtnfcpohbdkionaaGreatDoor
set_option maxRecDepth 100000
open Go.RowKit Go.ChangeMaps Go.MapKept
open Go.Maps (Keyed)
set_option linter.unusedVariables false
set_option linter.unusedSimpArgs false
end Go.Proofs.YtnfcpohbdkionaaGreatDoor
namespace Go.Proofs.YtnfcpohbdkionaaGreatDoor
set_option maxRecDepth 100000
open Go.RowKit Go.ChangeMaps Go.MapKept
open Go.Maps (Keyed)
set_option linter.unusedVariables false
set_option linter.unusedSimpArgs false
theorem ST.size {B g : Nat} {W : World} {c : Nat → Nat} (h : ST B g W c) : B ≤ W.heap.size := by
  obtain ⟨b, l, h⟩ := h
  have := h.2.1.1; have := h.2.1.2.2.2.1; omega
/-- The string of bytes. -/
def sof (f : Nat → Nat) (n : Nat) : ByteArray := strOfNums ((List.range n).map fun j => ((f j : Nat) : Int))
theorem conv_of (W : World) (b o n c : Nat) (f : Nat → Nat) (h : ∀ j, j < n → W.cell? ⟨b, o + j, none⟩ = some (.int .u8 (f j : Int))) : (convert 38 9 (.slice (some ⟨b, o, none⟩) n c)).run Tryz.prog W = .ok (.string (sof f n)) W := by
  refine run_convert_bytes_arg W 38 5 Tryz.underlying38 Tryz.underlying5 b o n c _ (by simp) (fun i hi => ?_) 9 Tryz.underlying9
  rw [h i (by simpa using hi)]
  simp [List.getD, hi]
end Go.Proofs.YtnfcpohbdkionaaGreatDoor
