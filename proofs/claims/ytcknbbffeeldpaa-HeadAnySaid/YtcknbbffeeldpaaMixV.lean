/- The walk of MixSums. -/
import Derived.Test.YtcknbbffeeldpaaMixW
import Derived.Test.YtcknbbffeeldpaaMixM
namespace Go.Proofs.Ytcknbbffeeldpaa
open Go.RowKit
set_option linter.unusedVariables false

theorem fold_ref2 (h : Nat) (hh : h < 18446744073709551616) :
    wrap64 ((bits .xor .u64 (bits .xor .u64 (bits .xor .u64 (h : Int) ((h : Int) / 65536)) ((h : Int) / 4294967296)) ((h : Int) / 281474976710656)).tmod 65536) = (fold16 h : Int) := by
  have e := fold_ref h hh
  have n0 : ∀ a b : Int, 0 ≤ bits .xor .u64 a b := fun a b => (wrapU _).1
  rw [Int.tmod_eq_emod_of_nonneg (n0 _ _), e]
  exact IntWalk.wrap64_in _ ⟨by omega, by omega⟩

set_option maxHeartbeats 400000 in
theorem sum_row (T : Nat → Nat → Nat) (HT : Hid (∀ (h x : Int) (w : World), 0 ≤ h → h < 18446744073709551616 → 0 ≤ x → x < 18446744073709551616 →
      Calls Try.prog 49 #[.int .u64 h, .int .u64 x] w fun e w' => e = .returned (.int .u64 (T h.toNat x.toNat)) ∧ w = w'))
    (HB : Hid (∀ h x, T h x < 18446744073709551616))
    (key : Int) (at_ : Int) (b off len cap : Nat) (z : List Int) (w : World) (k0 : 0 ≤ key) (k1 : key < 18446744073709551616)
    (hl : len ≤ z.length) (hm : len ≤ 9223372036854775807) (hc : ∀ i, i < len → w.cell? ⟨b, off + i, none⟩ = some (.int .u8 (z.getD i 0))) (hz : ∀ i, 0 ≤ z.getD i 0 ∧ z.getD i 0 ≤ 255) :
    Calls Try.prog 41 #[.int .u64 key, .int .i64 at_, .slice (some ⟨b, off, none⟩) len cap] w fun e w' => e = .returned (.int .u16 (fold16 (hashT T (T key.toNat (IntKind.u64.wrap at_).toNat) (z.take len)))) ∧ w = w' := by
  obtain ⟨u0, u1⟩ := wrapU at_
  have HL := Lib.hid hl; clear hl
  go_enter Try.func41, Try.ntmps41
  go_wp2_with fail
  refine (HT.out _ _ _ k0 k1 u0 u1).mono ?_
  rintro e w' ⟨rfl, rfl⟩
  go_wp2_with fail
  generalize hs : T key.toNat (IntKind.u64.wrap at_).toNat = s
  have hs1 : s < 18446744073709551616 := hs ▸ HB.out _ _
  have HSeq := Lib.hid hs
  clear hs u0 u1 k0 k1
  go_loop [7, 16] (fun h i => ∃ k : Nat, k ≤ len ∧ i = .int .i64 k ∧ h = .int .u64 ((hashT T s (z.take k) : Nat) : Int)) (fun _ i => len - (intOf i).toNat)
  case atStart => exact ⟨0, by omega, rfl, rfl⟩
  case round =>
    obtain ⟨k, hk2, rfl, rfl⟩ := hrel
    have hlt2 := hash_lt HB.out hs1 (z.take k)
    by_cases hlt : k < len
    · have hck := hc k hlt
      obtain ⟨hx0, hx1⟩ := hz k
      have hsn := hash_snoc T s z k (by have := HL.out; omega)
      clear hc hz
      generalize z.getD k 0 = x at *
      have HS := Lib.hid hsn; clear hsn
      generalize hashT T s (z.take k) = hcur at *
      go_wp2_with (go_at_call 49; refine (HT.out _ _ _ (by omega) (by omega) (by omega) (by omega)).mono ?_; rintro e w' ⟨rfl, rfl⟩)
      refine ⟨⟨k + 1, by omega, by go_num, ?_⟩, by simp [intOf]; omega⟩
      rw [HS.out, show (x + 1).toNat = x.toNat + 1 from by omega]
    · obtain rfl : k = len := by omega
      clear hc hz
      generalize hcq : hashT T s (z.take k) = hcur at *
      have HCeq := Lib.hid hcq; clear hcq
      have hf := fold_go hcur hlt2
      have HF := Lib.hid hf; clear hf
      go_wp2
      go_ret
      exact ⟨ret_int (by rw [HSeq.out, HCeq.out]; exact HF.out), rfl⟩

set_option maxHeartbeats 400000 in
theorem rsum_row (T : Nat → Nat → Nat) (HT : Hid (∀ (h x : Int) (w : World), 0 ≤ h → h < 18446744073709551616 → 0 ≤ x → x < 18446744073709551616 →
      Calls Try.prog 45 #[.int .u64 h, .int .u64 x] w fun e w' => e = .returned (.int .u64 (T h.toNat x.toNat)) ∧ w = w'))
    (HB : Hid (∀ h x, T h x < 18446744073709551616))
    (key : Int) (at_ : Int) (b off len cap : Nat) (z : List Int) (w : World) (k0 : 0 ≤ key) (k1 : key < 18446744073709551616)
    (hl : len ≤ z.length) (hm : len ≤ 9223372036854775807) (hc : ∀ i, i < len → w.cell? ⟨b, off + i, none⟩ = some (.int .u8 (z.getD i 0))) (hz : ∀ i, 0 ≤ z.getD i 0 ∧ z.getD i 0 ≤ 255) :
    Calls Try.prog 28 #[.int .u64 key, .int .i64 at_, .slice (some ⟨b, off, none⟩) len cap] w fun e w' => e = .returned (.int .i64 (fold16 (hashT T (T key.toNat (IntKind.u64.wrap at_).toNat) (z.take len)))) ∧ w = w' := by
  obtain ⟨u0, u1⟩ := wrapU at_
  have HL := Lib.hid hl; clear hl
  go_enter Try.func28, Try.ntmps28
  go_wp2_with fail
  refine (HT.out _ _ _ k0 k1 u0 u1).mono ?_
  rintro e w' ⟨rfl, rfl⟩
  go_wp2_with fail
  generalize hs : T key.toNat (IntKind.u64.wrap at_).toNat = s
  have hs1 : s < 18446744073709551616 := hs ▸ HB.out _ _
  have HSeq := Lib.hid hs
  clear hs u0 u1 k0 k1
  go_loop [7, 8] (fun h i => ∃ k : Nat, k ≤ len ∧ i = .int .i64 k ∧ h = .int .u64 ((hashT T s (z.take k) : Nat) : Int)) (fun _ i => len - (intOf i).toNat)
  case atStart => exact ⟨0, by omega, rfl, rfl⟩
  case round =>
    obtain ⟨k, hk2, rfl, rfl⟩ := hrel
    have hlt2 := hash_lt HB.out hs1 (z.take k)
    by_cases hlt : k < len
    · have hck := hc k hlt
      obtain ⟨hx0, hx1⟩ := hz k
      have hsn := hash_snoc T s z k (by have := HL.out; omega)
      clear hc hz
      generalize z.getD k 0 = x at *
      have HS := Lib.hid hsn; clear hsn
      generalize hashT T s (z.take k) = hcur at *
      go_wp2_with (go_at_call 45; refine (HT.out _ _ _ (by omega) (by omega) (by omega) (by omega)).mono ?_; rintro e w' ⟨rfl, rfl⟩)
      refine ⟨⟨k + 1, by omega, by go_num, ?_⟩, by simp [intOf]; omega⟩
      rw [HS.out, show (x + 1).toNat = x.toNat + 1 from by omega]
    · obtain rfl : k = len := by omega
      clear hc hz
      generalize hcq : hashT T s (z.take k) = hcur at *
      have HCeq := Lib.hid hcq; clear hcq
      have hf := fold_ref2 hcur hlt2
      have HF := Lib.hid hf; clear hf
      go_wp2
      go_ret
      exact ⟨ret_int (by rw [HSeq.out, HCeq.out]; exact HF.out), rfl⟩

theorem sum_empty (T : Nat → Nat → Nat) (HT : Hid (∀ (h x : Int) (w : World), 0 ≤ h → h < 18446744073709551616 → 0 ≤ x → x < 18446744073709551616 →
      Calls Try.prog 49 #[.int .u64 h, .int .u64 x] w fun e w' => e = .returned (.int .u64 (T h.toNat x.toNat)) ∧ w = w'))
    (HB : Hid (∀ h x, T h x < 18446744073709551616))
    (key : Int) (at_ : Int) (a : Option Addr) (cap : Nat) (w : World) (k0 : 0 ≤ key) (k1 : key < 18446744073709551616) :
    Calls Try.prog 41 #[.int .u64 key, .int .i64 at_, .slice a 0 cap] w fun e w' => e = .returned (.int .u16 (fold16 (T key.toNat (IntKind.u64.wrap at_).toNat))) ∧ w = w' := by
  obtain ⟨u0, u1⟩ := wrapU at_
  go_enter Try.func41, Try.ntmps41
  go_wp2_with fail
  refine (HT.out _ _ _ k0 k1 u0 u1).mono ?_
  rintro e w' ⟨rfl, rfl⟩
  go_wp2_with fail
  generalize hs : T key.toNat (IntKind.u64.wrap at_).toNat = s
  have hs1 : s < 18446744073709551616 := hs ▸ HB.out _ _
  have HSeq := Lib.hid hs
  clear hs u0 u1 k0 k1
  have hf := fold_go s hs1
  have HF := Lib.hid hf; clear hf
  go_loop [7, 16] (fun h i => i = .int .i64 0 ∧ h = .int .u64 (s : Int)) (fun _ _ => 0)
  case atStart => exact ⟨rfl, rfl⟩
  case round =>
    obtain ⟨rfl, rfl⟩ := hrel
    go_wp2
    go_ret
    exact ⟨ret_int (by rw [HSeq.out]; exact HF.out), rfl⟩

theorem rsum_empty (T : Nat → Nat → Nat) (HT : Hid (∀ (h x : Int) (w : World), 0 ≤ h → h < 18446744073709551616 → 0 ≤ x → x < 18446744073709551616 →
      Calls Try.prog 45 #[.int .u64 h, .int .u64 x] w fun e w' => e = .returned (.int .u64 (T h.toNat x.toNat)) ∧ w = w'))
    (HB : Hid (∀ h x, T h x < 18446744073709551616))
    (key : Int) (at_ : Int) (a : Option Addr) (cap : Nat) (w : World) (k0 : 0 ≤ key) (k1 : key < 18446744073709551616) :
    Calls Try.prog 28 #[.int .u64 key, .int .i64 at_, .slice a 0 cap] w fun e w' => e = .returned (.int .i64 (fold16 (T key.toNat (IntKind.u64.wrap at_).toNat))) ∧ w = w' := by
  obtain ⟨u0, u1⟩ := wrapU at_
  go_enter Try.func28, Try.ntmps28
  go_wp2_with fail
  refine (HT.out _ _ _ k0 k1 u0 u1).mono ?_
  rintro e w' ⟨rfl, rfl⟩
  go_wp2_with fail
  generalize hs : T key.toNat (IntKind.u64.wrap at_).toNat = s
  have hs1 : s < 18446744073709551616 := hs ▸ HB.out _ _
  have HSeq := Lib.hid hs
  clear hs u0 u1 k0 k1
  have hf := fold_ref2 s hs1
  have HF := Lib.hid hf; clear hf
  go_loop [7, 8] (fun h i => i = .int .i64 0 ∧ h = .int .u64 (s : Int)) (fun _ _ => 0)
  case atStart => exact ⟨rfl, rfl⟩
  case round =>
    obtain ⟨rfl, rfl⟩ := hrel
    go_wp2
    go_ret
    exact ⟨ret_int (by rw [HSeq.out]; exact HF.out), rfl⟩

theorem Tw : Hid (∀ (h x : Int) (w : World), 0 ≤ h → h < 18446744073709551616 → 0 ≤ x → x < 18446744073709551616 →
      Calls Try.prog 49 #[.int .u64 h, .int .u64 x] w fun e w' => e = .returned (.int .u64 (turnN h.toNat x.toNat)) ∧ w = w') := Lib.hid turn_int
theorem rTw : Hid (∀ (h x : Int) (w : World), 0 ≤ h → h < 18446744073709551616 → 0 ≤ x → x < 18446744073709551616 →
      Calls Try.prog 45 #[.int .u64 h, .int .u64 x] w fun e w' => e = .returned (.int .u64 (turnN h.toNat x.toNat)) ∧ w = w') := Lib.hid rturn_int
theorem Bw : Hid (∀ h x, turnN h x < 18446744073709551616) := Lib.hid turnN_lt
end Go.Proofs.Ytcknbbffeeldpaa
