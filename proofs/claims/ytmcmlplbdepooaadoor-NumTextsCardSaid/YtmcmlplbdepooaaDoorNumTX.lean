/- Numerals and texts. -/
import Derived.Test.YtmcmlplbdepooaaDoorNumL
namespace Go.Proofs.YtmcmlplbdepooaaDoor
open Go.RowKit
set_option linter.unusedVariables false

/-- A text of which Parse makes a number: the number's own numeral. -/
theorem parse_some (s : ByteArray) (most v : Int) (h : parseF s most = some v) : 0 ≤ v ∧ v ≤ most ∧ (⟨(Lib.itoa v).toArray⟩ : ByteArray) = s := by
  rw [parseF] at h
  split at h
  · rename_i hs
    split at h
    · cases h
    · rename_i hh
      have hv := valF_eq s s.size 0 0 (by omega) (by omega)
      rw [hv, List.drop_zero] at h
      have hl : s.data.toList.length = s.size := rfl
      cases hv1 : valL s.data.toList 0 with
      | none => rw [hv1] at h; cases h
      | some v1 =>
        rw [hv1] at h
        have h' : (if most < v1 then none else some v1) = some v := h
        split at h'
        · cases h'
        · rename_i hm
          obtain rfl := Option.some.inj h'
          obtain ⟨p1, p2⟩ := val_dec s.size s.data.toList v1 hl (by intro e; rw [e] at hl; simp at hl; omega) (by
            intro e
            have l0 : 0 < s.data.toList.length := by omega
            rw [List.head?_eq_getElem?, List.getElem?_eq_getElem l0, Option.some.injEq] at e
            have e2 : (s[0]'hs.1).toNat = 48 := congrArg UInt8.toNat e
            omega) hv1
          refine ⟨p1, by omega, ?_⟩
          have : Lib.itoa v1 = Lib.decDigits v1.toNat := by unfold Lib.itoa; rw [if_neg (by omega)]
          rw [this, p2]

  · cases h

theorem neg_facts (x : Nat) (hx : x < 4294967296) (N D1 : ByteArray) (hN : (⟨(Lib.itoa (-1 - (x : Int))).toArray⟩ : ByteArray) = N) (hD : (⟨(Lib.itoa ((x : Int) + 1)).toArray⟩ : ByteArray) = D1) :
    ∃ h : 0 < N.size, ((N[0]'h).toNat : Int) = 45 ∧ N.extract 1 N.size = D1 := by
  have e1 : Lib.itoa (-1 - (x : Int)) = 45 :: Lib.decDigits (x + 1) := by
    rw [show (-1 - (x : Int)) = -((x + 1 : Nat) : Int) by omega]
    exact Lib.itoa_neg (x + 1) (by omega)
  have e2 : Lib.itoa ((x : Int) + 1) = Lib.decDigits (x + 1) := by
    rw [show ((x : Int) + 1) = ((x + 1 : Nat) : Int) by omega]
    exact Lib.itoa_nonneg (x + 1)
  rw [e1] at hN
  rw [e2] at hD
  subst hN hD
  refine ⟨by simp [ByteArray.size], rfl, ?_⟩
  apply ByteArray.ext
  rw [ByteArray.data_extract]
  simp [ByteArray.size]

end Go.Proofs.YtmcmlplbdepooaaDoor
