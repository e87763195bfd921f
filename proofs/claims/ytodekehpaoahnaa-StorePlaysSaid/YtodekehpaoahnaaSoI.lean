/- The store: New, Put, Get. -/
import Derived.Test.YtodekehpaoahnaaSoH
import Derived.Carry
namespace Go.Proofs.Ytodekehpaoahnaa
open Go.RowKit Go.ChangeMaps Go.MapKept
open Go.Maps (Keyed)
set_option linter.unusedVariables false
set_option linter.unusedSimpArgs false

theorem STL.lt {B g b : Nat} {W : World} {l : List (Nat × Nat)} {c : Nat → Nat} (h : STL B g b W l c) : ∀ pq ∈ l, pq.2 < W.heap.size := fun pq hpq => (h.2.2.2.1 pq hpq).2.2.2.1
theorem snew (W : World) : Calls Try.prog 5 #[] W fun e w' => ∃ g b, e = .returned (.pointer (some ⟨g, 0, none⟩)) ∧ STL W.heap.size g b w' [] (fun _ => 0) ∧ Below W.heap.size W w' := by
  have hmm := fun w => run_makeMap (P := Try.prog) 42 w
  go_enter Try.func5, Try.ntmps5
  go_wp2
  go_ret
  refine ⟨W.heap.size + 1, W.heap.size, by first | rfl | simp, ⟨by simp, ⟨by omega, by omega, by omega, by simp, by simp <;> omega⟩, ⟨#[], 0, ?_, by simp, by simp, by simp⟩, by simp, by simp, by simp⟩, ?_⟩
  · first | (simp; done) | (rw [Below.heap_alloc _ _ _ (by simp)]; show (W.heap.push _)[W.heap.size]? = _; simp)
  · exact alc (alc0 _ _) _
theorem sget_no (p : Option Addr) (a : Int) (W : World) (h : p = none ∨ mayB a 1 = false) : Calls Try.prog 14 #[.pointer p, .int .i64 a] W fun e w' => e = .returned (.int .u8 0) ∧ Below W.heap.size W w' := by
  have H := Lib.hid h
  have heq : ∀ w, (binOp .neq 26 (.slice none 0 0) (.slice none 0 0)).run Try.prog w = .ok (.bool false) w := fun w => by
    have := run_neq_slice_nil (P := Try.prog) w 26 _ none 0 0 Try.underlying26
    simpa using this
  clear h
  go_enter Try.func14, Try.ntmps14
  go_wp2_with fail
  with_reducible refine Calls.mono (sread_no p a 1 W H.out) ?_
  rintro e w1 ⟨rfl, hb⟩
  go_wp2
  go_ret
  exact ⟨rfl, hb⟩
theorem sget_yes (B g : Nat) (W : World) (c : Nat → Nat) (h : ST B g W c) (a : Nat) (ha : a < 262144) : Calls Try.prog 14 #[.pointer (some ⟨g, 0, none⟩), .int .i64 (a : Int)] W fun e w' => e = .returned (.int .u8 (c a : Int)) ∧ Below W.heap.size W w' := by
  have H := Lib.hid h
  clear h
  go_enter Try.func14, Try.ntmps14
  go_wp2_with fail
  with_reducible refine Calls.mono (sread_yes B g W c H.out a 1 (by decide) (by omega)) ?_
  rintro e w1 ⟨⟨D, rfl, hD, hp⟩, hb⟩
  have heq : ∀ w, (binOp .neq 26 (.slice (some ⟨D, 0, none⟩) 1 1) (.slice none 0 0)).run Try.prog w = .ok (.bool true) w := fun w => by
    have := run_neq_slice_nil (P := Try.prog) w 26 _ (some ⟨D, 0, none⟩) 1 1 Try.underlying26
    simpa using this
  have h0 : w1.cell? ⟨D, 0, none⟩ = some (.int .u8 (c a : Int)) := hp.2.1 0 (by decide)
  go_wp2
  go_ret
  exact ⟨rfl, hb⟩
theorem sput_no (p : Option Addr) (a : Int) (x : Nat) (W : World) (h : p = none ∨ mayB a 1 = false) : Calls Try.prog 6 #[.pointer p, .int .i64 a, .int .u8 (x : Int)] W fun e w' => e = .returned (.bool false) ∧ Below W.heap.size W w' := by
  have H := Lib.hid h
  clear h
  go_enter Try.func6, Try.ntmps6
  go_wp2_with fail
  with_reducible refine Calls.mono (swrite_no p a _ 1 1 _ (by simpa using H.out)) ?_
  rintro e w1 ⟨rfl, hb⟩
  have HB : Hid (Below W.heap.size W w1) := Lib.hid (thn (alc0 _ _) hb)
  clear hb
  go_wp2
  go_ret
  exact ⟨rfl, HB.out⟩
theorem sput_yes (B g : Nat) (W : World) (c : Nat → Nat) (h : ST B g W c) (a x : Nat) (ha : a < 262144) : Calls Try.prog 6 #[.pointer (some ⟨g, 0, none⟩), .int .i64 (a : Int), .int .u8 (x : Int)] W fun e w' => (e = .returned (.bool true) ∧ ST B g w' (over c a 1 (fun _ => x))) ∧ W.heap.size ≤ w'.heap.size ∧ Below B W w' := by
  obtain ⟨b, l, h⟩ := h
  have H := Lib.hid h
  have HBW : Hid (B ≤ W.heap.size) := Lib.hid (by have := h.2.1.1; have := h.2.1.2.2.2.1; omega)
  clear h
  go_enter Try.func6, Try.ntmps6
  go_wp2_with fail
  with_reducible refine Calls.mono (swrite_yes B g b _ l c (fun _ => x) (H.out.below (alc0 _ _)) a 1 W.heap.size 0 1 (by decide) (by omega) (by decide) (fun i hi => by
    obtain rfl : i = 0 := by omega
    simp) (fun pq hpq => by have := H.out.lt pq hpq; omega)) ?_
  rintro e w1 ⟨⟨rfl, hs⟩, hz, hb⟩
  have HS := Lib.hid hs
  have HB : Hid (Below B W w1) := Lib.hid (((alc0 W _).mono HBW.out).trans hb)
  have HZ : Hid (W.heap.size ≤ w1.heap.size) := Lib.hid (by simp at hz; omega)
  clear hs hz hb
  go_wp2
  go_ret
  exact ⟨⟨rfl, HS.out⟩, HZ.out, HB.out⟩
end Go.Proofs.Ytodekehpaoahnaa
