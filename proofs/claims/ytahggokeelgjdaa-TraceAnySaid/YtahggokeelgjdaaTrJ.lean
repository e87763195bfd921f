/- What is read of what was written. -/
import Derived.Test.YtahggokeelgjdaaTrI
namespace Go.Proofs.Ytahggokeelgjdaa
open Go.RowKit
set_option linter.unusedVariables false
set_option linter.unusedSimpArgs false

theorem rdN_vb_any (rest : List Nat) : ∀ (k i x z : Nat), (vb z).length ≤ k → x + z * 2 ^ (7 * i) < 18446744073709551616 → rdN k i x (vb z ++ rest) = some (x + z * 2 ^ (7 * i), rest) := by
  intro k
  induction k with
  | zero =>
    intro i x z hl _
    rw [vb] at hl
    split at hl <;> simp at hl
  | succ k ih =>
    intro i x z hl hb
    by_cases hz : z < 128
    · rw [vb, if_pos hz, List.cons_append, List.nil_append, rdN, if_pos hz, Nat.mod_eq_of_lt hz, Nat.mod_eq_of_lt (by omega)]
    · have hp : 0 < 2 ^ (7 * i) := Nat.two_pow_pos _
      have e2 : 2 ^ (7 * (i + 1)) = 128 * 2 ^ (7 * i) := by rw [show 7 * (i + 1) = 7 + 7 * i by omega, Nat.pow_add]
      have e3 : z % 128 * 2 ^ (7 * i) + z / 128 * 2 ^ (7 * (i + 1)) = z * 2 ^ (7 * i) := by
        rw [e2, ← Nat.mul_assoc, ← Nat.add_mul]
        congr 1
        omega
      have hlt : z % 128 * 2 ^ (7 * i) < 18446744073709551616 := by omega
      have hl2 : (vb (z / 128)).length ≤ k := by
        rw [vb, if_neg hz] at hl
        simp at hl
        exact hl
      rw [vb, if_neg hz, List.cons_append, rdN, if_neg (by omega), show (z % 128 + 128) % 128 = z % 128 by omega, Nat.mod_eq_of_lt hlt, ih (i + 1) _ (z / 128) hl2 (by omega)]
      congr 2
      omega
theorem rdN_vb (z : Nat) (rest : List Nat) (h : z < 18446744073709551616) : rdN 10 0 0 (vb z ++ rest) = some (z, rest) := by
  have := rdN_vb_any rest 10 0 0 z (vb_len z h) (by simpa using h)
  simpa using this
theorem rdN_zig (n : Int) (rest : List Nat) (h : -9223372036854775808 ≤ n ∧ n ≤ 9223372036854775807) : rdN 10 0 0 (vb (zig n) ++ rest) = some (zig n, rest) := rdN_vb _ _ (zig_lt n h)
/-- So many numbers that bytes begin with, and what is behind them. -/
def rdL : Nat → List Nat → Option (List Int × List Nat)
  | 0, xs => some ([], xs)
  | k + 1, xs => match rdN 10 0 0 xs with
    | none => none
    | some (x, r) => match rdL k r with
      | none => none
      | some (l, r') => some (unzig x :: l, r')
theorem rdL_vbs (rest : List Nat) : ∀ (l : List Int), (∀ x ∈ l, -9223372036854775808 ≤ x ∧ x ≤ 9223372036854775807) → rdL l.length (vbs l ++ rest) = some (l, rest)
  | [], _ => rfl
  | x :: l, h => by
    have ih := rdL_vbs rest l (fun y hy => h y (by simp [hy]))
    rw [List.length_cons, rdL, show vbs (x :: l) ++ rest = vb (zig x) ++ (vbs l ++ rest) by simp [vbs], rdN_zig x _ (h x (by simp))]
    simp only [ih, unzig_zig]
/-- A thing that bytes begin with: its numbers, its bytes, and what is behind them. -/
def rdO (xs : List Nat) : Option (List Int × List Nat × List Nat) := match rdL 7 xs with
  | none => none
  | some (l, r) => match rdN 10 0 0 r with
    | none => none
    | some (x, r2) => if 0 ≤ unzig x ∧ (unzig x).toNat ≤ r2.length then some (l, r2.take (unzig x).toNat, r2.drop (unzig x).toNat) else none
theorem rdO_one (o : Op7) (d rest : List Nat) (ho : o.ok) (hd : d.length ≤ 140737488351232) : rdO (oneB o d ++ rest) = some (o.l, d, rest) := by
  have h7 : o.l.length = 7 := rfl
  have h1 := rdL_vbs (vb (zig d.length) ++ d ++ rest) o.l ho
  rw [h7] at h1
  have e : oneB o d ++ rest = vbs o.l ++ (vb (zig d.length) ++ d ++ rest) := by simp [oneB]
  rw [rdO, e, h1]
  have h2 := rdN_zig (d.length : Int) (d ++ rest) (by omega)
  rw [← List.append_assoc] at h2
  simp only [h2, unzig_zig, Int.toNat_natCast]
  rw [if_pos ⟨by omega, by simp⟩]
  simp
end Go.Proofs.Ytahggokeelgjdaa
