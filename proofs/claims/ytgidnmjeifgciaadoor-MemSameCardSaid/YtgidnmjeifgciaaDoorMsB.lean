/- bytes.Equal of like bytes; slices.Equal of like lists of ints. -/
import Derived.Test.YtgidnmjeifgciaaDoorMsA
import Derived.Test.YtgidnmjeifgciaaDoorSoN
import Derived.Test.YtgidnmjeifgciaaDoorInts0
namespace Go.Proofs.YtgidnmjeifgciaaDoor
set_option maxRecDepth 100000
open Go.RowKit Go.ChangeMaps Go.MapKept
set_option linter.unusedVariables false
set_option linter.unusedSimpArgs false

theorem beq_yes (b1 o1 n c1 b2 o2 c2 : Nat) (f : Nat → Nat) (W : World) (h1 : ∀ j, j < n → W.cell? ⟨b1, o1 + j, none⟩ = some (.int .u8 (f j : Int))) (h2 : ∀ j, j < n → W.cell? ⟨b2, o2 + j, none⟩ = some (.int .u8 (f j : Int))) :
    Calls Tryd.prog 122 #[.slice (some ⟨b1, o1, none⟩) n c1, .slice (some ⟨b2, o2, none⟩) n c2] W fun e w' => e = .returned (.bool true) ∧ W = w' := by
  have e1 := conv_of W b1 o1 n c1 f h1
  have e2 := conv_of W b2 o2 n c2 f h2
  obtain ⟨x, hx⟩ : ∃ x, sof f n = x := ⟨_, rfl⟩
  rw [hx] at e1 e2
  clear hx h1 h2
  go_enter Tryd.func122, Tryd.ntmps122
  go_wp2
  go_ret
  exact ⟨rfl, rfl⟩
theorem ieq_yes (l : List Int) (a1 a2 : Option Addr) (c1 c2 : Nat) (W : World) (h1 : Ints .i64 W a1 l.length l) (h2 : Ints .i64 W a2 l.length l) :
    Calls Tryd.prog 73 #[.slice a1 l.length c1, .slice a2 l.length c2] W fun e w' => e = .returned (.bool true) ∧ ∃ q, w' = W.drewN q := by
  obtain ⟨-, h1⟩ := h1
  obtain ⟨-, h2⟩ := h2
  have HA := Lib.hid h1; clear h1
  have HB := Lib.hid h2; clear h2
  obtain ⟨L, hL⟩ : ∃ L, l.length = L := ⟨_, rfl⟩
  rw [hL]
  have hm : L ≤ 9223372036854775807 := by
    rcases HA.out with h | ⟨b, o, -, -, hm, -⟩ <;> omega
  have HL := Lib.hid hL
  clear hL
  have hne : (L : Int) = L := rfl
  go_enter Tryd.func73, Tryd.ntmps73
  go_wp2_with fail
  go_loopw [13] (fun i wr => ∃ k q : Nat, k ≤ L ∧ i = .int .i64 k ∧ wr = W.drewN q) (fun i _ => L - (intOf i).toNat)
  case atStart => exact ⟨0, 0, by omega, rfl, rfl⟩
  case round =>
    obtain ⟨k, q, hk, rfl, rfl⟩ := hrel
    by_cases hlt : k < L
    · obtain h | ⟨b, o, rfl, -, -, hc1⟩ := HA.out
      · have := HL.out; omega
      obtain h | ⟨b2, o2, rfl, -, -, hc2⟩ := HB.out
      · have := HL.out; omega
      have a1 := hc1 k (by rw [HL.out]; exact hlt)
      have a2 := hc2 k (by rw [HL.out]; exact hlt)
      clear hc1 hc2
      generalize l.getD k 0 = x at *
      have k0 : (0 : Int) ≤ (k : Int) := by omega
      have k1 : (k : Int) < (L : Int) := by omega
      have k2 : (k : Int).toNat = k := Int.toNat_natCast k
      have qxy : ((x : Int) == (x : Int)) = true := by simp
      go_wp2_with fail
      go_quiet (fail)
      go_wp2
      exact ⟨⟨k + 1, _, by omega, by go_num, rfl⟩, by simp [intOf]; omega⟩
    · have k1 : ¬ (k : Int) < (L : Int) := by omega
      go_wp2
      go_ret
      exact ⟨rfl, _, rfl⟩
end Go.Proofs.YtgidnmjeifgciaaDoor
