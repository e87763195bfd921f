/- Contracts of package perm: Show. -/
import Derived.Test.YtlajhhecipabaaaPerm
import Derived.Laws.BytesArg
namespace Go.Proofs.Ytlajhhecipabaaa
open Go.RowKit
set_option linter.unusedVariables false

theorem setCell_mark {w : World} (c : Array Value) (t : TypeId) (m : Nat × Nat) (i : Nat) (v : Value) :
    (w.alloc (.cells c t m)).setCell ⟨w.heap.size, i, none⟩ v = w.alloc (.cells (c.setIfInBounds i v) t m) := by
  unfold World.setCell World.alloc
  congr 1
  apply Array.ext_getElem?
  intro k
  rw [Array.getElem?_modify]
  by_cases hk : w.heap.size = k
  · subst hk
    simp
  · have hk' : k ≠ w.heap.size := fun e => hk e.symm
    rw [if_neg hk]
    simp [Array.getElem?_push, hk']

def shN (p : Int) (k i : Nat) (d c : Int) : Int := if i < k ∧ p / d % 2 = 0 then 45 else c
def shP (p : Int) (k : Nat) (x0 x1 x2 x3 x4 : Int) : Prop := x0 = shN p k 0 1 114 ∧ x1 = shN p k 1 2 119 ∧ x2 = shN p k 2 4 82 ∧ x3 = shN p k 3 8 87 ∧ x4 = shN p k 4 16 102
def showB (p : Int) : ByteArray := if pmayB p then strOfNums [shN p 5 0 1 114, shN p 5 1 2 119, shN p 5 2 4 82, shN p 5 3 8 87, shN p 5 4 16 102] else ⟨#[]⟩

set_option maxHeartbeats 1000000 in
theorem show_yes (p : Int) (w : World) (h : 0 ≤ p ∧ p ≤ 31) :
    Calls Try.prog 22 #[.int .i64 p] w fun e w' => e = .returned (.string (showB p)) ∧ Below w.heap.size w w' := by
  have hd : showB p = strOfNums [shN p 5 0 1 114, shN p 5 1 2 119, shN p 5 2 4 82, shN p 5 3 8 87, shN p 5 4 16 102] := by rw [showB, pmay_yes h]; rfl
  have HD := Lib.hid hd; clear hd
  have H1 := Lib.hid (pmay_yes h)
  have kc := fun (w : World) (C : Array Value) (n c : Nat) => Lib.run_convert_bytes_const (P := Try.prog) w 50 5 C n c Try.underlying50 Try.underlying5
  obtain ⟨h1, h2⟩ := h
  have fz : ∀ (C : Array Value) (i : Nat), i < 5 → (w.alloc (.cells C 5 (5, 6))).frozen? ⟨w.heap.size, i, none⟩ = false := fun C i hi => by
    rw [World.frozen?_alloc_mark]; simp; omega
  have f0 := fun C => fz C 0 (by decide)
  have f1 := fun C => fz C 1 (by decide)
  have f2 := fun C => fz C 2 (by decide)
  have f3 := fun C => fz C 3 (by decide)
  have f4 := fun C => fz C 4 (by decide)
  clear fz
  have ce := fun C i => World.cell?_alloc_mark w C 5 (5, 6) i
  have se := fun C i v => setCell_mark (w := w) C 5 (5, 6) i v
  have e1 := and1
  go_enter Try.func22, Try.ntmps22
  go_wp2_with (go_at_call 16; refine (pmay_is _ _ _ H1.out).mono ?_; rintro e w' ⟨rfl, rfl⟩)
  go_loopw [12] (fun i wr => ∃ k : Nat, ∃ x0 x1 x2 x3 x4 : Int, k ≤ 5 ∧ i = .int .i64 k ∧ wr = w.alloc (.cells #[.int .u8 x0, .int .u8 x1, .int .u8 x2, .int .u8 x3, .int .u8 x4] 5 (5, 6)) ∧ shP p k x0 x1 x2 x3 x4) (fun i _ => 5 - (intOf i).toNat)
  case atStart => exact ⟨0, 114, 119, 82, 87, 102, by omega, rfl, rfl, by simp [shP, shN]⟩
  case round =>
    obtain ⟨k, x0, x1, x2, x3, x4, hk, rfl, rfl, hs⟩ := hrel
    have HS := Lib.hid hs; clear hs
    have hc : k = 0 ∨ k = 1 ∨ k = 2 ∨ k = 3 ∨ k = 4 ∨ k = 5 := by omega
    rcases hc with rfl | rfl | rfl | rfl | rfl | rfl
    rotate_left 5
    · have hcv := run_convert_bytes_arg (P := Try.prog) (w.alloc (.cells #[.int .u8 x0, .int .u8 x1, .int .u8 x2, .int .u8 x3, .int .u8 x4] 5 (5, 6))) 50 5 Try.underlying50 Try.underlying5 w.heap.size 0 5 5 [x0, x1, x2, x3, x4] rfl (fun i hi => by
        rw [World.cell?_alloc_mark]
        have : i = 0 ∨ i = 1 ∨ i = 2 ∨ i = 3 ∨ i = 4 := by omega
        rcases this with rfl | rfl | rfl | rfl | rfl <;> rfl) 9 Try.underlying9
      go_wp2
      go_ret
      obtain ⟨rfl, rfl, rfl, rfl, rfl⟩ := HS.out
      exact ⟨by rw [HD.out]; rfl, alc0 _ _⟩
    all_goals
      go_wp2
      all_goals
        obtain ⟨e0, e1, e2, e3, e4⟩ := HS.out
        first
        | refine ⟨⟨1, _, _, _, _, _, by omega, rfl, rfl, ?_⟩, by simp [intOf]⟩
        | refine ⟨⟨2, _, _, _, _, _, by omega, rfl, rfl, ?_⟩, by simp [intOf]⟩
        | refine ⟨⟨3, _, _, _, _, _, by omega, rfl, rfl, ?_⟩, by simp [intOf]⟩
        | refine ⟨⟨4, _, _, _, _, _, by omega, rfl, rfl, ?_⟩, by simp [intOf]⟩
        | refine ⟨⟨5, _, _, _, _, _, by omega, rfl, rfl, ?_⟩, by simp [intOf]⟩
        simp [shP, shN] at *
        omega
end Go.Proofs.Ytlajhhecipabaaa
