/- The walk of PermSets: what is asked beside the loop. -/
import Derived.Test.YtlajhhecipabaaaPermS
import Derived.Test.YtlajhhecipabaaaPermR
namespace Go.Proofs.Ytlajhhecipabaaa
open Go.RowKit
set_option linter.unusedVariables false

theorem show_is (t : ByteArray) (p : Int) (w : World) (h : 0 ≤ p ∧ p ≤ 31) (ht : showB p = t) :
    Calls Try.prog 22 #[.int .i64 p] w fun e w' => e = .returned (.string t) ∧ Below w.heap.size w w' := by
  subst ht; exact show_yes p w h
theorem read_lit (w : World) :
    Calls Try.prog 21 #[.string ⟨#[114, 119, 45, 45, 102]⟩] w fun e w' => e = .returned (.tuple #[.int .i64 19, .bool true]) ∧ w = w' := by
  have h : readOkP ⟨#[114, 119, 45, 45, 102]⟩ := by unfold readOkP rdG; decide +kernel
  have hv : readVI ⟨#[114, 119, 45, 45, 102]⟩ = 19 := by decide +kernel
  have := read_yes ⟨#[114, 119, 45, 45, 102]⟩ w h
  rwa [hv] at this

theorem p9awake_any (w : World) :
    Calls Try.prog 15 #[] w fun e w' => e = .returned (.bool true) ∧ Below w.heap.size w w' := by
  have h3 : showB 3 = ⟨#[114, 119, 45, 45, 45]⟩ := by decide +kernel
  have H3 := Lib.hid h3; clear h3
  have a1 : phasB 19 3 = true := by decide +kernel
  have a2 : phasB 3 19 = false := by decide +kernel
  have A1 := Lib.hid a1; clear a1
  have A2 := Lib.hid a2; clear a2
  go_enter Try.func15, Try.ntmps15
  go_wp2_with fail
  refine (read_lit _).mono ?_
  rintro e w1 ⟨rfl, rfl⟩
  go_wp2_with fail
  refine (show_is _ 3 _ (by decide) H3.out).mono ?_
  rintro e w1 ⟨rfl, hb⟩
  go_wp2_with fail
  refine (phas_is true 19 3 _ A1.out).mono ?_
  rintro e w2 ⟨rfl, rfl⟩
  go_wp2_with fail
  refine (phas_is false 3 19 _ A2.out).mono ?_
  rintro e w2 ⟨rfl, rfl⟩
  go_wp2
  go_ret
  exact ⟨rfl, hb⟩

theorem or64 (p : Int) : pmayB (bits .or .i64 p 64) = false := by
  apply pmay_no
  rintro ⟨h1, h2⟩
  have e : bits .or .i64 p 64 = IntKind.i64.wrap ((BitVec.ofInt 64 p ||| BitVec.ofInt 64 64).toNat : Int) := rfl
  rw [e, IntKind.wrap_i64] at h1 h2
  have hl := (BitVec.ofInt 64 p ||| BitVec.ofInt 64 64).isLt
  have hb : (BitVec.ofInt 64 p ||| BitVec.ofInt 64 64).toNat.testBit 6 = true := by
    rw [BitVec.toNat_or, Nat.testBit_or]
    have : (BitVec.ofInt 64 64).toNat = 64 := by decide
    rw [this]
    simp [show Nat.testBit 64 6 = true by decide]
  generalize (BitVec.ofInt 64 p ||| BitVec.ofInt 64 64).toNat = n at *
  have hn : n < 32 := by omega
  have : n < 2 ^ 6 := by omega
  rw [Nat.testBit_lt_two_pow this] at hb
  cases hb

/-- has, and, less, count, what is left of both, the bit: behind k rounds. -/
def psR (two may : Bool) (X Y : Int) : Nat → Bool × Int × Int × Int × Int × Int × Int
  | 0 => (two, 0, 0, 0, X, Y, 1)
  | k + 1 =>
    let r := psR two may X Y k
    (r.1 && (r.2.2.2.2.1 % 2 == 1 || !(r.2.2.2.2.2.1 % 2 == 1)),
      (if two && (r.2.2.2.2.1 % 2 == 1) && (r.2.2.2.2.2.1 % 2 == 1) then r.2.1 + r.2.2.2.2.2.2 else r.2.1),
      (if two && (r.2.2.2.2.1 % 2 == 1) && !(r.2.2.2.2.2.1 % 2 == 1) then r.2.2.1 + r.2.2.2.2.2.2 else r.2.2.1),
      (if may && (r.2.2.2.2.1 % 2 == 1) then r.2.2.2.1 + 1 else r.2.2.2.1),
      r.2.2.2.2.1 / 2, r.2.2.2.2.2.1 / 2, r.2.2.2.2.2.2 * 2)
theorem psR_next {two may : Bool} {X Y : Int} {k : Nat} {h : Bool} {a l n x y b : Int} (e : psR two may X Y k = (h, a, l, n, x, y, b)) :
    psR two may X Y (k + 1) = (h && (x % 2 == 1 || !(y % 2 == 1)), (if two && (x % 2 == 1) && (y % 2 == 1) then a + b else a), (if two && (x % 2 == 1) && !(y % 2 == 1) then l + b else l), (if may && (x % 2 == 1) then n + 1 else n), x / 2, y / 2, b * 2) := by
  rw [psR, e]
theorem psR_end (a b : Int) (ha : -8 ≤ a ∧ a ≤ 55) (hb : -8 ≤ b ∧ b ≤ 55) : (psR (pmayB a && pmayB b) (pmayB a) (max a 0) (max b 0) 5).1 = phasB a b ∧ (psR (pmayB a && pmayB b) (pmayB a) (max a 0) (max b 0) 5).2.1 = pandI a b ∧ (psR (pmayB a && pmayB b) (pmayB a) (max a 0) (max b 0) 5).2.2.1 = plessI a b ∧ (psR (pmayB a && pmayB b) (pmayB a) (max a 0) (max b 0) 5).2.2.2.1 = pcountI a := by
  have key : ∀ p q : Fin 64, (psR (pmayB ((p.val : Int) - 8) && pmayB ((q.val : Int) - 8)) (pmayB ((p.val : Int) - 8)) (max ((p.val : Int) - 8) 0) (max ((q.val : Int) - 8) 0) 5).1 = phasB ((p.val : Int) - 8) ((q.val : Int) - 8) ∧ (psR (pmayB ((p.val : Int) - 8) && pmayB ((q.val : Int) - 8)) (pmayB ((p.val : Int) - 8)) (max ((p.val : Int) - 8) 0) (max ((q.val : Int) - 8) 0) 5).2.1 = pandI ((p.val : Int) - 8) ((q.val : Int) - 8) ∧ (psR (pmayB ((p.val : Int) - 8) && pmayB ((q.val : Int) - 8)) (pmayB ((p.val : Int) - 8)) (max ((p.val : Int) - 8) 0) (max ((q.val : Int) - 8) 0) 5).2.2.1 = plessI ((p.val : Int) - 8) ((q.val : Int) - 8) ∧ (psR (pmayB ((p.val : Int) - 8) && pmayB ((q.val : Int) - 8)) (pmayB ((p.val : Int) - 8)) (max ((p.val : Int) - 8) 0) (max ((q.val : Int) - 8) 0) 5).2.2.2.1 = pcountI ((p.val : Int) - 8) := by decide +kernel
  have := key ⟨(a + 8).toNat, by omega⟩ ⟨(b + 8).toNat, by omega⟩
  have e1 : (((a + 8).toNat : Nat) : Int) - 8 = a := by omega
  have e2 : (((b + 8).toNat : Nat) : Int) - 8 = b := by omega
  simpa only [e1, e2] using this
end Go.Proofs.Ytlajhhecipabaaa
