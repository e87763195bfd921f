/- Plain facts on sums. -/
import Derived.Laws.Bits64b
import Derived.Laws.BitsAllLaws
namespace Go.Proofs.Ytcknbbffeeldpaa
set_option linter.unusedVariables false

/-- Numbers put behind a number one by one, by a step that is any function. -/
def hashT (T : Nat → Nat → Nat) (s : Nat) (l : List Int) : Nat := l.foldl (fun h x => T h (x.toNat + 1)) s
theorem foldl_snoc {α β : Type} (f : β → α → β) (s : β) (d : α) (l : List α) (k : Nat) (h : k < l.length) : (l.take (k + 1)).foldl f s = f ((l.take k).foldl f s) (l.getD k d) := by
  rw [List.take_succ_eq_append_getElem h, List.foldl_append]
  simp [List.getD, List.getElem?_eq_getElem h]
theorem hash_snoc (T : Nat → Nat → Nat) (s : Nat) (l : List Int) (k : Nat) (h : k < l.length) : hashT T s (l.take (k + 1)) = T (hashT T s (l.take k)) ((l.getD k 0).toNat + 1) :=
  foldl_snoc (fun h (x : Int) => T h (x.toNat + 1)) s 0 l k h
theorem hash_lt {T : Nat → Nat → Nat} {B s : Nat} (hT : ∀ h x, T h x < B) (hs : s < B) (l : List Int) : hashT T s l < B := by
  induction l generalizing s with
  | nil => exact hs
  | cons x xs ih => exact ih (hT _ _)

def fold16 (h : Nat) : Nat := h % 65536 ^^^ (h / 65536 % 65536) ^^^ (h / 4294967296 % 65536) ^^^ (h / 281474976710656 % 65536)

theorem fold_go (h : Nat) (hh : h < 18446744073709551616) :
    bits .xor .u16 (bits .xor .u16 (bits .xor .u16 (IntKind.u16.wrap (h : Int)) (IntKind.u16.wrap ((h : Int) / 65536))) (IntKind.u16.wrap ((h : Int) / 4294967296))) ((h : Int) / 281474976710656) = (fold16 h : Int) := by
  have c1 : IntKind.u16.wrap (h : Int) = ((h % 65536 : Nat) : Int) := by rw [IntKind.wrap_u16]; omega
  have c2 : IntKind.u16.wrap ((h : Int) / 65536) = ((h / 65536 % 65536 : Nat) : Int) := by rw [IntKind.wrap_u16]; omega
  have c3 : IntKind.u16.wrap ((h : Int) / 4294967296) = ((h / 4294967296 % 65536 : Nat) : Int) := by rw [IntKind.wrap_u16]; omega
  have c4 : ((h : Int) / 281474976710656) = ((h / 281474976710656 % 65536 : Nat) : Int) := by omega
  have x1 : h % 65536 ^^^ (h / 65536 % 65536) < 2 ^ 16 := Nat.xor_lt_two_pow (by omega) (by omega)
  have x2 : h % 65536 ^^^ (h / 65536 % 65536) ^^^ (h / 4294967296 % 65536) < 2 ^ 16 := Nat.xor_lt_two_pow x1 (by omega)
  rw [c1, c2, c3, c4, u16_xor_nat _ _ (by omega) (by omega), u16_xor_nat _ _ (by omega) (by omega), u16_xor_nat _ _ (by omega) (by omega)]
  rfl

theorem fold_ref (h : Nat) (hh : h < 18446744073709551616) :
    (bits .xor .u64 (bits .xor .u64 (bits .xor .u64 (h : Int) ((h : Int) / 65536)) ((h : Int) / 4294967296)) ((h : Int) / 281474976710656)) % 65536 = (fold16 h : Int) := by
  have c2 : ((h : Int) / 65536) = ((h / 65536 : Nat) : Int) := by omega
  have c3 : ((h : Int) / 4294967296) = ((h / 4294967296 : Nat) : Int) := by omega
  have c4 : ((h : Int) / 281474976710656) = ((h / 281474976710656 : Nat) : Int) := by omega
  have x1 : h ^^^ (h / 65536) < 2 ^ 64 := Nat.xor_lt_two_pow (by omega) (by omega)
  have x2 : h ^^^ (h / 65536) ^^^ (h / 4294967296) < 2 ^ 64 := Nat.xor_lt_two_pow x1 (by omega)
  rw [c2, c3, c4, bits_xor_u64_nat _ _ hh (by omega), bits_xor_u64_nat _ _ (by omega) (by omega), bits_xor_u64_nat _ _ (by omega) (by omega)]
  have e : (h ^^^ (h / 65536) ^^^ (h / 4294967296) ^^^ (h / 281474976710656)) % 2 ^ 16 = fold16 h := by
    rw [Nat.xor_mod_two_pow, Nat.xor_mod_two_pow, Nat.xor_mod_two_pow]; rfl
  rw [← e]
  omega

end Go.Proofs.Ytcknbbffeeldpaa
