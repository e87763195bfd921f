/- The walk of MixSums. -/
import Derived.Test.YtlajhhecipabaaaMixV
import Derived.Test.YtlajhhecipabaaaRow
namespace Go.Proofs.Ytlajhhecipabaaa
open Go.RowKit
set_option linter.unusedVariables false

theorem fold16_lt (h : Nat) : fold16 h < 65536 := by
  have x1 : h % 65536 ^^^ (h / 65536 % 65536) < 2 ^ 16 := Nat.xor_lt_two_pow (by omega) (by omega)
  have x2 : h % 65536 ^^^ (h / 65536 % 65536) ^^^ (h / 4294967296 % 65536) < 2 ^ 16 := Nat.xor_lt_two_pow x1 (by omega)
  have x3 : h % 65536 ^^^ (h / 65536 % 65536) ^^^ (h / 4294967296 % 65536) ^^^ (h / 281474976710656 % 65536) < 2 ^ 16 := Nat.xor_lt_two_pow x2 (by omega)
  exact x3
attribute [local irreducible] fold16
theorem conv_ok (n : Nat) (h : n < 65536) : (wrap64 (n : Int) == (n : Int)) = true := by
  rw [IntWalk.wrap64_in _ ⟨by omega, by omega⟩]; simp

theorem sums_empty (a0 a1 : Int) (a : Option Addr) (cap : Nat) (w : World) (k0 : 0 ≤ a0) (k1 : a0 < 18446744073709551616) :
    Calls Try.prog 11 #[.int .u64 a0, .int .i64 a1, .slice a 0 cap] w fun e w' => e = .returned (.bool true) ∧ Below w.heap.size w w' := by
  go_enter Try.func11, Try.ntmps11
  go_wp2_with (first | (go_at_call 40; refine (mawake_any _).mono ?_; rintro e w' ⟨rfl, rfl⟩) | (go_at_call 43; refine (sum_empty turnN Tw Bw _ _ _ _ _ (by omega) (by omega)).mono ?_; rintro e w' ⟨rfl, rfl⟩) | (go_at_call 44; refine (rsum_empty turnN rTw Bw _ _ _ _ _ (by omega) (by omega)).mono ?_; rintro e w' ⟨rfl, rfl⟩))
  go_ret
  exact ⟨ret_bool (conv_ok _ (fold16_lt _)), Below.refl _ _⟩

theorem sums_row (a0 a1 : Int) (b off len cap : Nat) (z2 : List Int) (w : World) (k0 : 0 ≤ a0) (k1 : a0 < 18446744073709551616)
    (hl : len ≤ cap) (hcap : cap ≤ maxLen) (hlz : z2.length = cap) (hc : ∀ i, i < cap → w.cell? ⟨b, off + i, none⟩ = some (.int .u8 (z2.getD i 0))) (hz : ∀ i, 0 ≤ z2.getD i 0 ∧ z2.getD i 0 ≤ 255) :
    Calls Try.prog 11 #[.int .u64 a0, .int .i64 a1, .slice (some ⟨b, off, none⟩) len cap] w fun e w' => e = .returned (.bool true) ∧ Below w.heap.size w w' := by
  unfold maxLen at hcap
  have HZ := Lib.hid hlz; clear hlz
  by_cases h20 : len ≤ 20
  · have hcl : ∀ i, i < len → w.cell? ⟨b, off + i, none⟩ = some (.int .u8 (z2.getD i 0)) := fun i hi => hc i (by omega)
    have hl2 : len ≤ z2.length := by have := HZ.out; omega
    clear hc
    go_enter Try.func11, Try.ntmps11
    go_wp2_with (first | (go_at_call 40; refine (mawake_any _).mono ?_; rintro e w' ⟨rfl, rfl⟩) | (go_at_call 43; refine (sum_row turnN Tw Bw _ _ _ _ _ _ z2 _ (by omega) (by omega) (by omega) (by omega) (by assumption) hz).mono ?_; rintro e w' ⟨rfl, rfl⟩) | (go_at_call 44; refine (rsum_row turnN rTw Bw _ _ _ _ _ _ z2 _ (by omega) (by omega) (by omega) (by omega) (by assumption) hz).mono ?_; rintro e w' ⟨rfl, rfl⟩))
    go_ret
    exact ⟨ret_bool (conv_ok _ (fold16_lt _)), Below.refl _ _⟩
  · have hcl : ∀ i, i < 20 → w.cell? ⟨b, off + i, none⟩ = some (.int .u8 (z2.getD i 0)) := fun i hi => hc i (by omega)
    have hl2 : 20 ≤ z2.length := by have := HZ.out; omega
    clear hc
    go_enter Try.func11, Try.ntmps11
    go_wp2_with (first | (go_at_call 40; refine (mawake_any _).mono ?_; rintro e w' ⟨rfl, rfl⟩) | (go_at_call 43; refine (sum_row turnN Tw Bw _ _ _ _ _ _ z2 _ (by omega) (by omega) (by omega) (by omega) (by assumption) hz).mono ?_; rintro e w' ⟨rfl, rfl⟩) | (go_at_call 44; refine (rsum_row turnN rTw Bw _ _ _ _ _ _ z2 _ (by omega) (by omega) (by omega) (by omega) (by assumption) hz).mono ?_; rintro e w' ⟨rfl, rfl⟩))
    go_ret
    exact ⟨ret_bool (conv_ok _ (fold16_lt _)), Below.refl _ _⟩

theorem walkMixSums (a0 : Int) (a1 : Int) (a2 : Option Addr) (len2 cap2 : Nat) (z2 : List Int) (w : World) (w0 : (Lit.int .u64 a0).wf = true) (w1 : (Lit.int .i64 a1).wf = true) (w2 : IsRow .u8 w a2 len2 cap2 z2) :
    Calls Try.prog 11 #[.int .u64 a0, .int .i64 a1, .slice a2 len2 cap2] w fun e w' => e = .returned (.bool true) ∧ Below w.heap.size w w' := by
  have b0 := bounds_u64 w0
  rcases w2.at with h | ⟨b, off, rfl, hl, hm, hz, hc, hw⟩
  · subst h
    exact sums_empty a0 a1 a2 cap2 w b0.1 (by omega)
  · refine sums_row a0 a1 b off len2 cap2 z2 w b0.1 (by omega) hl hm hz hc fun i => ?_
    have := range_u8 hw i
    simpa using this
end Go.Proofs.Ytlajhhecipabaaa
