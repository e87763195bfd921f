/- What num.Parse makes of a numeral, and what a text is of which it makes a number. -/
import Derived.Test.YtmcmlplbdepooaaDoorNumQ
namespace Go.Proofs.YtmcmlplbdepooaaDoor
open Go.RowKit
set_option linter.unusedVariables false

def valL : List UInt8 → Int → Option Int
  | [], n => some n
  | b :: r, n => if b.toNat < 48 ∨ 57 < b.toNat then none else valL r (n * 10 + ((b.toNat : Int) - 48))

theorem valF_eq (s : ByteArray) : ∀ (f k : Nat) (n : Int), f = s.size - k → k ≤ s.size → valF s f k n = valL (s.data.toList.drop k) n
  | 0, k, n, h, hk => by
    have hl : s.data.toList.length = s.size := rfl
    rw [valF, List.drop_eq_nil_of_le (by omega), valL]
  | f + 1, k, n, h, hk => by
    have hl : s.data.toList.length = s.size := rfl
    have hlt : k < s.size := by omega
    have e : s.data.toList.drop k = (s[k]'hlt) :: s.data.toList.drop (k + 1) := by
      rw [List.drop_eq_getElem_cons (by omega)]
      rfl
    rw [valF, dif_pos hlt, e, valL, valF_eq s f (k + 1) _ (by omega) (by omega)]

theorem valL_append (a b : List UInt8) : ∀ n, valL (a ++ b) n = (valL a n).bind (valL b) := by
  induction a with
  | nil => intro n; simp [valL]
  | cons x r ih =>
    intro n
    rw [List.cons_append, valL, valL]
    split
    · rfl
    · exact ih _

theorem u8_of (n : Nat) (h : n < 256) : (UInt8.ofNat n).toNat = n := by simp; omega

theorem valL_dec (u : Nat) : valL (Lib.decDigits u) 0 = some (u : Int) := by
  induction u using Nat.strongRecOn with
  | _ u ih =>
    rw [Lib.decDigits]
    split
    · rename_i h
      rw [valL, u8_of _ (by omega), if_neg (by omega), valL]
      congr 1; omega
    · rename_i h
      rw [valL_append, ih (u / 10) (by omega)]
      show valL [UInt8.ofNat (48 + u % 10)] ((u / 10 : Nat) : Int) = _
      rw [valL, u8_of _ (by omega), if_neg (by omega), valL]
      congr 1; omega

theorem head_app {a b : List UInt8} (h : a ≠ []) : (a ++ b).head? = a.head? := by
  cases a with
  | nil => exact absurd rfl h
  | cons x r => rfl
theorem dec_ne (u : Nat) : Lib.decDigits u ≠ [] := by
  rw [Lib.decDigits]; split <;> simp
theorem dec_head (u : Nat) (h : 1 ≤ u) : (Lib.decDigits u).head? ≠ some 48 := by
  induction u using Nat.strongRecOn with
  | _ u ih =>
    rw [Lib.decDigits]
    split
    · rename_i h1
      intro e
      simp only [List.head?_cons, Option.some.injEq] at e
      have := congrArg UInt8.toNat e
      rw [u8_of _ (by omega)] at this
      have h2 : (48 : UInt8).toNat = 48 := rfl
      omega
    · rename_i h1
      rw [head_app (dec_ne _)]
      exact ih _ (by omega) (by omega)
theorem dec_len (u k : Nat) (h : u < 10 ^ (k + 1)) : (Lib.decDigits u).length ≤ k + 1 := by
  induction k generalizing u with
  | zero => rw [Lib.decDigits, dif_pos (by omega)]; simp
  | succ k ih =>
    rw [Lib.decDigits]
    split
    · simp
    · rw [List.length_append]
      have := ih (u / 10) (by rw [Nat.pow_succ] at h; omega)
      simp; omega
theorem dec_one (u : Nat) (h : 1 < (Lib.decDigits u).length) : 1 ≤ u := by
  rcases Nat.eq_zero_or_pos u with rfl | h'
  · exact absurd h (by decide +kernel)
  · exact h'

theorem parse_dec (x : Nat) (most : Int) (hx : x < 4294967296) : parseF ⟨(Lib.itoa x).toArray⟩ most = if most < x then none else some (x : Int) := by
  have e : Lib.itoa (x : Int) = Lib.decDigits x := Lib.itoa_nonneg x
  rw [e]
  have l1 := dec_len x 14 (by omega)
  have l0 : 0 < (Lib.decDigits x).length := List.length_pos_iff.2 (dec_ne x)
  have hs : (⟨(Lib.decDigits x).toArray⟩ : ByteArray).size = (Lib.decDigits x).length := by simp [ByteArray.size]
  rw [parseF, dif_pos ⟨by omega, by omega⟩]
  have hv := valF_eq ⟨(Lib.decDigits x).toArray⟩ (ByteArray.size ⟨(Lib.decDigits x).toArray⟩) 0 0 (by omega) (by omega)
  rw [hv]
  have : (⟨(Lib.decDigits x).toArray⟩ : ByteArray).data.toList.drop 0 = Lib.decDigits x := by simp
  rw [this, valL_dec]
  rw [if_neg]
  rintro ⟨a, b⟩
  have h1 : 1 ≤ x := dec_one x (by omega)
  refine dec_head x h1 ?_
  have : (Lib.decDigits x).head? = some ((Lib.decDigits x)[0]'l0) := by rw [List.head?_eq_getElem?, List.getElem?_eq_getElem l0]
  rw [this]
  congr 1
  exact UInt8.toNat_inj.1 a

theorem val_dec : ∀ (n : Nat) (l : List UInt8) (v : Int), l.length = n → l ≠ [] → (l.head? = some 48 → l.length = 1) → valL l 0 = some v → 0 ≤ v ∧ Lib.decDigits v.toNat = l
  | 0, l, v, hn, hl, _, _ => absurd (List.length_eq_zero_iff.1 hn) hl
  | n + 1, l, v, hn, hl, hh, hv => by
    rcases List.eq_nil_or_concat l with rfl | ⟨a, b, rfl⟩
    · exact absurd rfl hl
    · rw [List.concat_eq_append] at *
      rw [valL_append] at hv
      by_cases ha : a = []
      · subst ha
        have hv' : valL [b] 0 = some v := hv
        rw [valL] at hv'
        split at hv'
        · cases hv'
        · rename_i hb
          rw [valL, Option.some.injEq] at hv'
          subst hv'
          refine ⟨by omega, ?_⟩
          rw [Lib.decDigits, dif_pos (by omega)]
          show [_] = [b]
          congr 1
          apply UInt8.toNat_inj.1
          rw [u8_of _ (by omega)]; omega
      · cases hv1 : valL a 0 with
        | none => rw [hv1] at hv; cases hv
        | some v1 =>
          rw [hv1] at hv
          have hv' : valL [b] v1 = some v := hv
          have hh' : a.head? ≠ some 48 := by
            intro e
            have := hh (by rw [head_app ha]; exact e)
            rw [List.length_append, List.length_singleton] at this
            have := List.length_pos_iff.2 ha
            omega
          obtain ⟨p1, p2⟩ := val_dec n a v1 (by simp at hn; omega) ha (fun e => absurd e hh') hv1
          have p3 : 1 ≤ v1 := by
            by_cases h : 1 ≤ v1
            · exact h
            · have : v1 = 0 := by omega
              subst this
              exact absurd (by rw [← p2]; decide +kernel) hh'
          rw [valL] at hv'
          split at hv'
          · cases hv'
          · rename_i hb
            rw [valL, Option.some.injEq] at hv'
            subst hv'
            refine ⟨by omega, ?_⟩
            rw [Lib.decDigits, dif_neg (by omega)]
            have e1 : (v1 * 10 + ((b.toNat : Int) - 48)).toNat / 10 = v1.toNat := by omega
            have e2 : (v1 * 10 + ((b.toNat : Int) - 48)).toNat % 10 = b.toNat - 48 := by omega
            rw [e1, e2, p2]
            congr 1
            show [_] = [b]
            congr 1
            apply UInt8.toNat_inj.1
            rw [u8_of _ (by omega)]; omega
end Go.Proofs.YtmcmlplbdepooaaDoor
