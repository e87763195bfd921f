/- Plain facts on sums by a key: turning a number is one to one. -/
import Derived.Laws.Bits64b
namespace Go.Proofs.Ytcknbbffeeldpaa

/-- A number of 64 bits, turned left by 29. -/
def rotN (x : Nat) : Nat := x % 34359738368 * 536870912 + x / 34359738368
theorem rotN_inj {x y : Nat} (hx : x < 18446744073709551616) (hy : y < 18446744073709551616) (h : rotN x = rotN y) : x = y := by
  unfold rotN at h; omega
theorem rotN_lt {x : Nat} (hx : x < 18446744073709551616) : rotN x < 18446744073709551616 := by unfold rotN; omega
theorem rotN_or {x : Nat} (hx : x < 18446744073709551616) : (x * 536870912 % 18446744073709551616) ||| (x / 34359738368) = rotN x := by
  have h1 : x * 536870912 % 18446744073709551616 = 2 ^ 29 * (x % 34359738368) := by omega
  have h2 : x / 34359738368 < 2 ^ 29 := by omega
  rw [h1, ← Nat.two_pow_add_eq_or_of_lt h2]
  unfold rotN; omega

def turnN (h x : Nat) : Nat := rotN ((h ^^^ x) * 11400714819323198485 % 18446744073709551616)
theorem turnN_lt (h x : Nat) : turnN h x < 18446744073709551616 := rotN_lt (Nat.mod_lt _ (by decide))

theorem mulMod_inj {a b : Nat} (ha : a < 18446744073709551616) (hb : b < 18446744073709551616)
    (h : a * 11400714819323198485 % 18446744073709551616 = b * 11400714819323198485 % 18446744073709551616) : a = b := by
  have key : ∀ c : Nat, c < 18446744073709551616 → (c * 11400714819323198485 % 18446744073709551616) * 17428512612931826493 % 18446744073709551616 = c := by
    intro c hc
    rw [Nat.mod_mul_mod, Nat.mul_assoc, ← Nat.mul_mod_mod]
    rw [show 11400714819323198485 * 17428512612931826493 % 18446744073709551616 = 1 from by decide, Nat.mul_one]
    exact Nat.mod_eq_of_lt hc
  rw [← key a ha, h, key b hb]

theorem turnN_inj {h x y : Nat} (hh : h < 18446744073709551616) (hx : x < 18446744073709551616) (hy : y < 18446744073709551616) (e : turnN h x = turnN h y) : x = y := by
  have h1 : h ^^^ x < 2 ^ 64 := Nat.xor_lt_two_pow (by omega) (by omega)
  have h2 : h ^^^ y < 2 ^ 64 := Nat.xor_lt_two_pow (by omega) (by omega)
  have := mulMod_inj (by omega) (by omega) (rotN_inj (Nat.mod_lt _ (by decide)) (Nat.mod_lt _ (by decide)) e)
  have h3 : h ^^^ (h ^^^ x) = h ^^^ (h ^^^ y) := by rw [this]
  rwa [← Nat.xor_assoc, ← Nat.xor_assoc, Nat.xor_self, Nat.zero_xor, Nat.zero_xor] at h3
attribute [irreducible] turnN rotN
end Go.Proofs.Ytcknbbffeeldpaa
