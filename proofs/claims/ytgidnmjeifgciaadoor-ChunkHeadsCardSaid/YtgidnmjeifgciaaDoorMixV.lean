/- MixN, Mix, MixW, MixM, MixV in one text: a claim holds at most 60 files. -/
import Derived.Laws.Bits64b
import Derived.Test.YtgidnmjeifgciaaDoorRows
import Derived.Test.YtgidnmjeifgciaaDoorInt
import Derived.WalkKit
import Derived.ProofKit
import Derived.OpenShut
import Derived.WalkLawsBesides
import Derived.WalkSpells
import Derived.Lib.Hide
import Derived.Laws.BitsAllLaws
namespace Go.Proofs.YtgidnmjeifgciaaDoor
set_option maxRecDepth 100000

/-- A number of 64 bits, turned left by 29. -/
def rotN (x : Nat) : Nat := x % 34359738368 * 536870912 + x / 34359738368
theorem rotN_inj {x y : Nat} (hx : x < 18446744073709551616) (hy : y < 18446744073709551616) (h : rotN x = rotN y) : x = y := by
  unfold rotN at h; omega
theorem rotN_lt {x : Nat} (hx : x < 18446744073709551616) : rotN x < 18446744073709551616 := by unfold rotN; omega
theorem rotN_or {x : Nat} (hx : x < 18446744073709551616) : (x * 536870912 % 18446744073709551616) ||| (x / 34359738368) = rotN x := by
  have h1 : x * 536870912 % 18446744073709551616 = 2 ^ 29 * (x % 34359738368) := by omega
  have h2 : x / 34359738368 < 2 ^ 29 := by omega
  rw [h1, ← Nat.two_pow_add_eq_or_of_lt h2]
  unfold rotN; omega

def turnN (h x : Nat) : Nat := rotN ((h ^^^ x) * 11400714819323198485 % 18446744073709551616)
theorem turnN_lt (h x : Nat) : turnN h x < 18446744073709551616 := rotN_lt (Nat.mod_lt _ (by decide))

theorem mulMod_inj {a b : Nat} (ha : a < 18446744073709551616) (hb : b < 18446744073709551616)
    (h : a * 11400714819323198485 % 18446744073709551616 = b * 11400714819323198485 % 18446744073709551616) : a = b := by
  have key : ∀ c : Nat, c < 18446744073709551616 → (c * 11400714819323198485 % 18446744073709551616) * 17428512612931826493 % 18446744073709551616 = c := by
    intro c hc
    rw [Nat.mod_mul_mod, Nat.mul_assoc, ← Nat.mul_mod_mod]
    rw [show 11400714819323198485 * 17428512612931826493 % 18446744073709551616 = 1 from by decide, Nat.mul_one]
    exact Nat.mod_eq_of_lt hc
  rw [← key a ha, h, key b hb]

theorem turnN_inj {h x y : Nat} (hh : h < 18446744073709551616) (hx : x < 18446744073709551616) (hy : y < 18446744073709551616) (e : turnN h x = turnN h y) : x = y := by
  have h1 : h ^^^ x < 2 ^ 64 := Nat.xor_lt_two_pow (by omega) (by omega)
  have h2 : h ^^^ y < 2 ^ 64 := Nat.xor_lt_two_pow (by omega) (by omega)
  have := mulMod_inj (by omega) (by omega) (rotN_inj (Nat.mod_lt _ (by decide)) (Nat.mod_lt _ (by decide)) e)
  have h3 : h ^^^ (h ^^^ x) = h ^^^ (h ^^^ y) := by rw [this]
  rwa [← Nat.xor_assoc, ← Nat.xor_assoc, Nat.xor_self, Nat.zero_xor, Nat.zero_xor] at h3
attribute [irreducible] turnN rotN
end Go.Proofs.YtgidnmjeifgciaaDoor
namespace Go.Proofs.YtgidnmjeifgciaaDoor
set_option maxRecDepth 100000
open Go.RowKit

theorem rot_any (x : Nat) (w : World) (hx : x < 18446744073709551616) :
    Calls Tryd.prog 152 #[.int .u64 x, .int .i64 29] w fun e w' => e = .returned (.int .u64 (rotN x)) ∧ w = w' := by
  have e1 : bits .and .u64 29 63 = 29 := by decide +kernel
  have hr : bits .or .u64 (IntKind.u64.wrap ((x : Int) * 536870912)) ((x : Int) / 34359738368) = (rotN x : Int) := by
    have h1 : IntKind.u64.wrap ((x : Int) * 536870912) = ((x * 536870912 % 18446744073709551616 : Nat) : Int) := by rw [IntKind.wrap_u64]; omega
    have h2 : (x : Int) / 34359738368 = ((x / 34359738368 : Nat) : Int) := by omega
    rw [h1, h2, bits_or_u64_nat _ _ (by omega) (by omega), rotN_or hx]
  have HR := Lib.hid hr; clear hr
  go_enter Tryd.func152, Tryd.ntmps152
  go_wp2
  go_ret
  exact ⟨ret_int HR.out, rfl⟩

theorem turn_any (h x : Nat) (w : World) (hh : h < 18446744073709551616) (hx : x < 18446744073709551616) :
    Calls Tryd.prog 149 #[.int .u64 h, .int .u64 x] w fun e w' => e = .returned (.int .u64 (turnN h x)) ∧ w = w' := by
  have hr : IntKind.u64.wrap (bits .xor .u64 (h : Int) (x : Int) * 11400714819323198485) = (((h ^^^ x) * 11400714819323198485 % 18446744073709551616 : Nat) : Int) := by
    rw [bits_xor_u64_nat _ _ hh hx, IntKind.wrap_u64]
    simp
  have HR := Lib.hid hr; clear hr
  go_enter Tryd.func149, Tryd.ntmps149
  go_wp2_with fail
  rw [HR.out]
  refine (rot_any _ _ (Nat.mod_lt _ (by decide))).mono ?_
  rintro e w' ⟨rfl, rfl⟩
  go_wp2
  go_ret
  exact ⟨ret_int (by unfold turnN; rfl), rfl⟩

theorem rturn_any (h x : Nat) (w : World) (hh : h < 18446744073709551616) (hx : x < 18446744073709551616) :
    Calls Tryd.prog 135 #[.int .u64 h, .int .u64 x] w fun e w' => e = .returned (.int .u64 (turnN h x)) ∧ w = w' := by
  have hr : IntKind.u64.wrap (bits .xor .u64 (h : Int) (x : Int) * 11400714819323198485) = (((h ^^^ x) * 11400714819323198485 % 18446744073709551616 : Nat) : Int) := by
    rw [bits_xor_u64_nat _ _ hh hx, IntKind.wrap_u64]
    simp
  have hr2 : ∀ y : Nat, y < 18446744073709551616 → bits .or .u64 (IntKind.u64.wrap ((y : Int) * 536870912)) ((y : Int) / 34359738368) = (rotN y : Int) := by
    intro x hx
    have h1 : IntKind.u64.wrap ((x : Int) * 536870912) = ((x * 536870912 % 18446744073709551616 : Nat) : Int) := by rw [IntKind.wrap_u64]; omega
    have h2 : (x : Int) / 34359738368 = ((x / 34359738368 : Nat) : Int) := by omega
    rw [h1, h2, bits_or_u64_nat _ _ (by omega) (by omega), rotN_or hx]
  have HR := Lib.hid hr; clear hr
  have HR2 := Lib.hid hr2; clear hr2
  go_enter Tryd.func135, Tryd.ntmps135
  go_wp2
  go_ret
  exact ⟨ret_int (by rw [HR.out]; unfold turnN; exact HR2.out _ (Nat.mod_lt _ (by decide))), rfl⟩
end Go.Proofs.YtgidnmjeifgciaaDoor
namespace Go.Proofs.YtgidnmjeifgciaaDoor
set_option maxRecDepth 100000
open Go.RowKit
set_option linter.unusedVariables false

theorem turn_int (h x : Int) (w : World) (h0 : 0 ≤ h) (h1 : h < 18446744073709551616) (x0 : 0 ≤ x) (x1 : x < 18446744073709551616) :
    Calls Tryd.prog 149 #[.int .u64 h, .int .u64 x] w fun e w' => e = .returned (.int .u64 (turnN h.toNat x.toNat)) ∧ w = w' := by
  obtain ⟨n, rfl⟩ := Int.eq_ofNat_of_zero_le h0
  obtain ⟨m, rfl⟩ := Int.eq_ofNat_of_zero_le x0
  exact turn_any n m w (by omega) (by omega)
theorem rturn_int (h x : Int) (w : World) (h0 : 0 ≤ h) (h1 : h < 18446744073709551616) (x0 : 0 ≤ x) (x1 : x < 18446744073709551616) :
    Calls Tryd.prog 135 #[.int .u64 h, .int .u64 x] w fun e w' => e = .returned (.int .u64 (turnN h.toNat x.toNat)) ∧ w = w' := by
  obtain ⟨n, rfl⟩ := Int.eq_ofNat_of_zero_le h0
  obtain ⟨m, rfl⟩ := Int.eq_ofNat_of_zero_le x0
  exact rturn_any n m w (by omega) (by omega)
theorem wrapU (n : Int) : 0 ≤ IntKind.u64.wrap n ∧ IntKind.u64.wrap n < 18446744073709551616 := by rw [IntKind.wrap_u64]; omega

end Go.Proofs.YtgidnmjeifgciaaDoor
namespace Go.Proofs.YtgidnmjeifgciaaDoor
set_option maxRecDepth 100000
set_option linter.unusedVariables false

/-- Numbers put behind a number one by one, by a step that is any function. -/
def hashT (T : Nat → Nat → Nat) (s : Nat) (l : List Int) : Nat := l.foldl (fun h x => T h (x.toNat + 1)) s
theorem foldl_snoc {α β : Type} (f : β → α → β) (s : β) (d : α) (l : List α) (k : Nat) (h : k < l.length) : (l.take (k + 1)).foldl f s = f ((l.take k).foldl f s) (l.getD k d) := by
  rw [List.take_succ_eq_append_getElem h, List.foldl_append]
  simp [List.getD, List.getElem?_eq_getElem h]
theorem hash_snoc (T : Nat → Nat → Nat) (s : Nat) (l : List Int) (k : Nat) (h : k < l.length) : hashT T s (l.take (k + 1)) = T (hashT T s (l.take k)) ((l.getD k 0).toNat + 1) :=
  foldl_snoc (fun h (x : Int) => T h (x.toNat + 1)) s 0 l k h
theorem hash_lt {T : Nat → Nat → Nat} {B s : Nat} (hT : ∀ h x, T h x < B) (hs : s < B) (l : List Int) : hashT T s l < B := by
  induction l generalizing s with
  | nil => exact hs
  | cons x xs ih => exact ih (hT _ _)

def fold16 (h : Nat) : Nat := h % 65536 ^^^ (h / 65536 % 65536) ^^^ (h / 4294967296 % 65536) ^^^ (h / 281474976710656 % 65536)

theorem fold_go (h : Nat) (hh : h < 18446744073709551616) :
    bits .xor .u16 (bits .xor .u16 (bits .xor .u16 (IntKind.u16.wrap (h : Int)) (IntKind.u16.wrap ((h : Int) / 65536))) (IntKind.u16.wrap ((h : Int) / 4294967296))) ((h : Int) / 281474976710656) = (fold16 h : Int) := by
  have c1 : IntKind.u16.wrap (h : Int) = ((h % 65536 : Nat) : Int) := by rw [IntKind.wrap_u16]; omega
  have c2 : IntKind.u16.wrap ((h : Int) / 65536) = ((h / 65536 % 65536 : Nat) : Int) := by rw [IntKind.wrap_u16]; omega
  have c3 : IntKind.u16.wrap ((h : Int) / 4294967296) = ((h / 4294967296 % 65536 : Nat) : Int) := by rw [IntKind.wrap_u16]; omega
  have c4 : ((h : Int) / 281474976710656) = ((h / 281474976710656 % 65536 : Nat) : Int) := by omega
  have x1 : h % 65536 ^^^ (h / 65536 % 65536) < 2 ^ 16 := Nat.xor_lt_two_pow (by omega) (by omega)
  have x2 : h % 65536 ^^^ (h / 65536 % 65536) ^^^ (h / 4294967296 % 65536) < 2 ^ 16 := Nat.xor_lt_two_pow x1 (by omega)
  rw [c1, c2, c3, c4, u16_xor_nat _ _ (by omega) (by omega), u16_xor_nat _ _ (by omega) (by omega), u16_xor_nat _ _ (by omega) (by omega)]
  rfl

theorem fold_ref (h : Nat) (hh : h < 18446744073709551616) :
    (bits .xor .u64 (bits .xor .u64 (bits .xor .u64 (h : Int) ((h : Int) / 65536)) ((h : Int) / 4294967296)) ((h : Int) / 281474976710656)) % 65536 = (fold16 h : Int) := by
  have c2 : ((h : Int) / 65536) = ((h / 65536 : Nat) : Int) := by omega
  have c3 : ((h : Int) / 4294967296) = ((h / 4294967296 : Nat) : Int) := by omega
  have c4 : ((h : Int) / 281474976710656) = ((h / 281474976710656 : Nat) : Int) := by omega
  have x1 : h ^^^ (h / 65536) < 2 ^ 64 := Nat.xor_lt_two_pow (by omega) (by omega)
  have x2 : h ^^^ (h / 65536) ^^^ (h / 4294967296) < 2 ^ 64 := Nat.xor_lt_two_pow x1 (by omega)
  rw [c2, c3, c4, bits_xor_u64_nat _ _ hh (by omega), bits_xor_u64_nat _ _ (by omega) (by omega), bits_xor_u64_nat _ _ (by omega) (by omega)]
  have e : (h ^^^ (h / 65536) ^^^ (h / 4294967296) ^^^ (h / 281474976710656)) % 2 ^ 16 = fold16 h := by
    rw [Nat.xor_mod_two_pow, Nat.xor_mod_two_pow, Nat.xor_mod_two_pow]; rfl
  rw [← e]
  omega

end Go.Proofs.YtgidnmjeifgciaaDoor
namespace Go.Proofs.YtgidnmjeifgciaaDoor
set_option maxRecDepth 100000
open Go.RowKit
set_option linter.unusedVariables false

theorem fold_ref2 (h : Nat) (hh : h < 18446744073709551616) :
    wrap64 ((bits .xor .u64 (bits .xor .u64 (bits .xor .u64 (h : Int) ((h : Int) / 65536)) ((h : Int) / 4294967296)) ((h : Int) / 281474976710656)).tmod 65536) = (fold16 h : Int) := by
  have e := fold_ref h hh
  have n0 : ∀ a b : Int, 0 ≤ bits .xor .u64 a b := fun a b => (wrapU _).1
  rw [Int.tmod_eq_emod_of_nonneg (n0 _ _), e]
  exact IntWalk.wrap64_in _ ⟨by omega, by omega⟩

set_option maxHeartbeats 400000 in
theorem sum_row (T : Nat → Nat → Nat) (HT : Hid (∀ (h x : Int) (w : World), 0 ≤ h → h < 18446744073709551616 → 0 ≤ x → x < 18446744073709551616 →
      Calls Tryd.prog 149 #[.int .u64 h, .int .u64 x] w fun e w' => e = .returned (.int .u64 (T h.toNat x.toNat)) ∧ w = w'))
    (HB : Hid (∀ h x, T h x < 18446744073709551616))
    (key : Int) (at_ : Int) (b off len cap : Nat) (z : List Int) (w : World) (k0 : 0 ≤ key) (k1 : key < 18446744073709551616)
    (hl : len ≤ z.length) (hm : len ≤ 9223372036854775807) (hc : ∀ i, i < len → w.cell? ⟨b, off + i, none⟩ = some (.int .u8 (z.getD i 0))) (hz : ∀ i, 0 ≤ z.getD i 0 ∧ z.getD i 0 ≤ 255) :
    Calls Tryd.prog 133 #[.int .u64 key, .int .i64 at_, .slice (some ⟨b, off, none⟩) len cap] w fun e w' => e = .returned (.int .u16 (fold16 (hashT T (T key.toNat (IntKind.u64.wrap at_).toNat) (z.take len)))) ∧ w = w' := by
  obtain ⟨u0, u1⟩ := wrapU at_
  have HL := Lib.hid hl; clear hl
  go_enter Tryd.func133, Tryd.ntmps133
  go_wp2_with fail
  refine (HT.out _ _ _ k0 k1 u0 u1).mono ?_
  rintro e w' ⟨rfl, rfl⟩
  go_wp2_with fail
  generalize hs : T key.toNat (IntKind.u64.wrap at_).toNat = s
  have hs1 : s < 18446744073709551616 := hs ▸ HB.out _ _
  have HSeq := Lib.hid hs
  clear hs u0 u1 k0 k1
  go_loop [7, 16] (fun h i => ∃ k : Nat, k ≤ len ∧ i = .int .i64 k ∧ h = .int .u64 ((hashT T s (z.take k) : Nat) : Int)) (fun _ i => len - (intOf i).toNat)
  case atStart => exact ⟨0, by omega, rfl, rfl⟩
  case round =>
    obtain ⟨k, hk2, rfl, rfl⟩ := hrel
    have hlt2 := hash_lt HB.out hs1 (z.take k)
    by_cases hlt : k < len
    · have hck := hc k hlt
      obtain ⟨hx0, hx1⟩ := hz k
      have hsn := hash_snoc T s z k (by have := HL.out; omega)
      clear hc hz
      generalize z.getD k 0 = x at *
      have HS := Lib.hid hsn; clear hsn
      generalize hashT T s (z.take k) = hcur at *
      go_wp2_with (go_at_call 149; refine (HT.out _ _ _ (by omega) (by omega) (by omega) (by omega)).mono ?_; rintro e w' ⟨rfl, rfl⟩)
      refine ⟨⟨k + 1, by omega, by go_num, ?_⟩, by simp [intOf]; omega⟩
      rw [HS.out, show (x + 1).toNat = x.toNat + 1 from by omega]
    · obtain rfl : k = len := by omega
      clear hc hz
      generalize hcq : hashT T s (z.take k) = hcur at *
      have HCeq := Lib.hid hcq; clear hcq
      have hf := fold_go hcur hlt2
      have HF := Lib.hid hf; clear hf
      go_wp2
      go_ret
      exact ⟨ret_int (by rw [HSeq.out, HCeq.out]; exact HF.out), rfl⟩

set_option maxHeartbeats 400000 in
theorem rsum_row (T : Nat → Nat → Nat) (HT : Hid (∀ (h x : Int) (w : World), 0 ≤ h → h < 18446744073709551616 → 0 ≤ x → x < 18446744073709551616 →
      Calls Tryd.prog 135 #[.int .u64 h, .int .u64 x] w fun e w' => e = .returned (.int .u64 (T h.toNat x.toNat)) ∧ w = w'))
    (HB : Hid (∀ h x, T h x < 18446744073709551616))
    (key : Int) (at_ : Int) (b off len cap : Nat) (z : List Int) (w : World) (k0 : 0 ≤ key) (k1 : key < 18446744073709551616)
    (hl : len ≤ z.length) (hm : len ≤ 9223372036854775807) (hc : ∀ i, i < len → w.cell? ⟨b, off + i, none⟩ = some (.int .u8 (z.getD i 0))) (hz : ∀ i, 0 ≤ z.getD i 0 ∧ z.getD i 0 ≤ 255) :
    Calls Tryd.prog 94 #[.int .u64 key, .int .i64 at_, .slice (some ⟨b, off, none⟩) len cap] w fun e w' => e = .returned (.int .i64 (fold16 (hashT T (T key.toNat (IntKind.u64.wrap at_).toNat) (z.take len)))) ∧ w = w' := by
  obtain ⟨u0, u1⟩ := wrapU at_
  have HL := Lib.hid hl; clear hl
  go_enter Tryd.func94, Tryd.ntmps94
  go_wp2_with fail
  refine (HT.out _ _ _ k0 k1 u0 u1).mono ?_
  rintro e w' ⟨rfl, rfl⟩
  go_wp2_with fail
  generalize hs : T key.toNat (IntKind.u64.wrap at_).toNat = s
  have hs1 : s < 18446744073709551616 := hs ▸ HB.out _ _
  have HSeq := Lib.hid hs
  clear hs u0 u1 k0 k1
  go_loop [7, 8] (fun h i => ∃ k : Nat, k ≤ len ∧ i = .int .i64 k ∧ h = .int .u64 ((hashT T s (z.take k) : Nat) : Int)) (fun _ i => len - (intOf i).toNat)
  case atStart => exact ⟨0, by omega, rfl, rfl⟩
  case round =>
    obtain ⟨k, hk2, rfl, rfl⟩ := hrel
    have hlt2 := hash_lt HB.out hs1 (z.take k)
    by_cases hlt : k < len
    · have hck := hc k hlt
      obtain ⟨hx0, hx1⟩ := hz k
      have hsn := hash_snoc T s z k (by have := HL.out; omega)
      clear hc hz
      generalize z.getD k 0 = x at *
      have HS := Lib.hid hsn; clear hsn
      generalize hashT T s (z.take k) = hcur at *
      go_wp2_with (go_at_call 135; refine (HT.out _ _ _ (by omega) (by omega) (by omega) (by omega)).mono ?_; rintro e w' ⟨rfl, rfl⟩)
      refine ⟨⟨k + 1, by omega, by go_num, ?_⟩, by simp [intOf]; omega⟩
      rw [HS.out, show (x + 1).toNat = x.toNat + 1 from by omega]
    · obtain rfl : k = len := by omega
      clear hc hz
      generalize hcq : hashT T s (z.take k) = hcur at *
      have HCeq := Lib.hid hcq; clear hcq
      have hf := fold_ref2 hcur hlt2
      have HF := Lib.hid hf; clear hf
      go_wp2
      go_ret
      exact ⟨ret_int (by rw [HSeq.out, HCeq.out]; exact HF.out), rfl⟩

theorem sum_empty (T : Nat → Nat → Nat) (HT : Hid (∀ (h x : Int) (w : World), 0 ≤ h → h < 18446744073709551616 → 0 ≤ x → x < 18446744073709551616 →
      Calls Tryd.prog 149 #[.int .u64 h, .int .u64 x] w fun e w' => e = .returned (.int .u64 (T h.toNat x.toNat)) ∧ w = w'))
    (HB : Hid (∀ h x, T h x < 18446744073709551616))
    (key : Int) (at_ : Int) (a : Option Addr) (cap : Nat) (w : World) (k0 : 0 ≤ key) (k1 : key < 18446744073709551616) :
    Calls Tryd.prog 133 #[.int .u64 key, .int .i64 at_, .slice a 0 cap] w fun e w' => e = .returned (.int .u16 (fold16 (T key.toNat (IntKind.u64.wrap at_).toNat))) ∧ w = w' := by
  obtain ⟨u0, u1⟩ := wrapU at_
  go_enter Tryd.func133, Tryd.ntmps133
  go_wp2_with fail
  refine (HT.out _ _ _ k0 k1 u0 u1).mono ?_
  rintro e w' ⟨rfl, rfl⟩
  go_wp2_with fail
  generalize hs : T key.toNat (IntKind.u64.wrap at_).toNat = s
  have hs1 : s < 18446744073709551616 := hs ▸ HB.out _ _
  have HSeq := Lib.hid hs
  clear hs u0 u1 k0 k1
  have hf := fold_go s hs1
  have HF := Lib.hid hf; clear hf
  go_loop [7, 16] (fun h i => i = .int .i64 0 ∧ h = .int .u64 (s : Int)) (fun _ _ => 0)
  case atStart => exact ⟨rfl, rfl⟩
  case round =>
    obtain ⟨rfl, rfl⟩ := hrel
    go_wp2
    go_ret
    exact ⟨ret_int (by rw [HSeq.out]; exact HF.out), rfl⟩

theorem rsum_empty (T : Nat → Nat → Nat) (HT : Hid (∀ (h x : Int) (w : World), 0 ≤ h → h < 18446744073709551616 → 0 ≤ x → x < 18446744073709551616 →
      Calls Tryd.prog 135 #[.int .u64 h, .int .u64 x] w fun e w' => e = .returned (.int .u64 (T h.toNat x.toNat)) ∧ w = w'))
    (HB : Hid (∀ h x, T h x < 18446744073709551616))
    (key : Int) (at_ : Int) (a : Option Addr) (cap : Nat) (w : World) (k0 : 0 ≤ key) (k1 : key < 18446744073709551616) :
    Calls Tryd.prog 94 #[.int .u64 key, .int .i64 at_, .slice a 0 cap] w fun e w' => e = .returned (.int .i64 (fold16 (T key.toNat (IntKind.u64.wrap at_).toNat))) ∧ w = w' := by
  obtain ⟨u0, u1⟩ := wrapU at_
  go_enter Tryd.func94, Tryd.ntmps94
  go_wp2_with fail
  refine (HT.out _ _ _ k0 k1 u0 u1).mono ?_
  rintro e w' ⟨rfl, rfl⟩
  go_wp2_with fail
  generalize hs : T key.toNat (IntKind.u64.wrap at_).toNat = s
  have hs1 : s < 18446744073709551616 := hs ▸ HB.out _ _
  have HSeq := Lib.hid hs
  clear hs u0 u1 k0 k1
  have hf := fold_ref2 s hs1
  have HF := Lib.hid hf; clear hf
  go_loop [7, 8] (fun h i => i = .int .i64 0 ∧ h = .int .u64 (s : Int)) (fun _ _ => 0)
  case atStart => exact ⟨rfl, rfl⟩
  case round =>
    obtain ⟨rfl, rfl⟩ := hrel
    go_wp2
    go_ret
    exact ⟨ret_int (by rw [HSeq.out]; exact HF.out), rfl⟩

theorem Tw : Hid (∀ (h x : Int) (w : World), 0 ≤ h → h < 18446744073709551616 → 0 ≤ x → x < 18446744073709551616 →
      Calls Tryd.prog 149 #[.int .u64 h, .int .u64 x] w fun e w' => e = .returned (.int .u64 (turnN h.toNat x.toNat)) ∧ w = w') := Lib.hid turn_int
theorem rTw : Hid (∀ (h x : Int) (w : World), 0 ≤ h → h < 18446744073709551616 → 0 ≤ x → x < 18446744073709551616 →
      Calls Tryd.prog 135 #[.int .u64 h, .int .u64 x] w fun e w' => e = .returned (.int .u64 (turnN h.toNat x.toNat)) ∧ w = w') := Lib.hid rturn_int
theorem Bw : Hid (∀ h x, turnN h x < 18446744073709551616) := Lib.hid turnN_lt
end Go.Proofs.YtgidnmjeifgciaaDoor
