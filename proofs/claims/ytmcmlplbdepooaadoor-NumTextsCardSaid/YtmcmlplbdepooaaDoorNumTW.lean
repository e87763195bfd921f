/- The walk of NumTexts, whole. -/
import Derived.Test.YtmcmlplbdepooaaDoorNumTtt
import Derived.Test.YtmcmlplbdepooaaDoorNumTtf
import Derived.Test.YtmcmlplbdepooaaDoorNumTft
import Derived.Test.YtmcmlplbdepooaaDoorNumTff
import Derived.Test.YtmcmlplbdepooaaDoorNumTX
namespace Go.Proofs.YtmcmlplbdepooaaDoor
open Go.RowKit
set_option linter.unusedVariables false

theorem walkNumTexts (a0 : Int) (a1 : ByteArray) (a2 : Int) (w : World) (w0 : (Lit.int .i64 a0).wf = true) (w1 : a1.size ≤ maxLen) (w2 : (Lit.int .i64 a2).wf = true) (ht : PowTab w) :
    Calls Tryd.prog 6 #[.int .i64 a0, .string a1, .int .i64 a2] w fun e w' => e = .returned (.bool true) ∧ Below w.heap.size w w' := by
  obtain ⟨x, ex⟩ : ∃ x : Nat, (x : Int) = a0 % 4294967296 := ⟨(a0 % 4294967296).toNat, by omega⟩
  have e0 := and32 a0; rw [← ex] at e0
  have x1 : (x : Int) < 4294967296 := by omega
  obtain ⟨D, hD⟩ : ∃ D, (⟨(Lib.itoa (x : Int)).toArray⟩ : ByteArray) = D := ⟨_, rfl⟩
  obtain ⟨N, hN⟩ : ∃ N, (⟨(Lib.itoa (-1 - (x : Int))).toArray⟩ : ByteArray) = N := ⟨_, rfl⟩
  obtain ⟨D1, hD1⟩ : ∃ D1, (⟨(Lib.itoa ((x : Int) + 1)).toArray⟩ : ByteArray) = D1 := ⟨_, rfl⟩
  obtain ⟨n1, n2, n3⟩ := neg_facts x (by omega) N D1 hN hD1
  have hp := parse_dec x a2 (by omega)
  rw [hD] at hp
  have hds : D.size ≤ maxLen := by
    subst hD
    have e : Lib.itoa (x : Int) = Lib.decDigits x := Lib.itoa_nonneg x
    rw [e]
    have := dec_len x 14 (by omega)
    simp only [ByteArray.size, List.size_toArray]
    unfold maxLen; omega
  cases hs : parseF a1 1099511627776 with
  | none =>
    by_cases hm : (x : Int) ≤ a2
    · exact texts_tf a0 x a2 a1 D N D1 w e0 (by omega) x1 w1 hm (Lib.hid hs) (Lib.hid hD) (Lib.hid hN) (Lib.hid hD1) (Lib.hid hds) (Lib.hid hp) n1 n2 n3 (Lib.hid ht)
    · exact texts_ff a0 x a2 a1 D N D1 w e0 (by omega) x1 w1 (by omega) (Lib.hid hs) (Lib.hid hD) (Lib.hid hN) (Lib.hid hD1) (Lib.hid hds) (Lib.hid hp) n1 n2 n3 (Lib.hid ht)
  | some v =>
    obtain ⟨v0, v1, v2⟩ := parse_some a1 1099511627776 v hs
    by_cases hm : (x : Int) ≤ a2
    · exact texts_tt a0 x a2 a1 D N D1 w e0 (by omega) x1 w1 hm v v0 (by omega) (Lib.hid v2) (Lib.hid hs) (Lib.hid hD) (Lib.hid hN) (Lib.hid hD1) (Lib.hid hds) (Lib.hid hp) n1 n2 n3 (Lib.hid ht)
    · exact texts_ft a0 x a2 a1 D N D1 w e0 (by omega) x1 w1 (by omega) v v0 (by omega) (Lib.hid v2) (Lib.hid hs) (Lib.hid hD) (Lib.hid hN) (Lib.hid hD1) (Lib.hid hds) (Lib.hid hp) n1 n2 n3 (Lib.hid ht)
end Go.Proofs.YtmcmlplbdepooaaDoor
