/- Contracts of package head: May; sums of rows. -/
import Derived.Test.YtgidnmjeifgciaaDoorCodeS
import Derived.Test.YtgidnmjeifgciaaDoorMixV
import Derived.Test.YtgidnmjeifgciaaDoorClassO
namespace Go.Proofs.YtgidnmjeifgciaaDoor
set_option maxRecDepth 100000
open Go.RowKit
set_option linter.unusedVariables false
set_option linter.unusedSimpArgs false

def headOkB (s c t n e : Int) : Bool := decide (1 ≤ s ∧ s ≤ 3) && (decide ((0 ≤ c ∧ c < 20) ∨ c = 63) && decide ((0 ≤ t ∧ t ≤ 15) ∧ (0 ≤ n ∧ n < 16777216) ∧ (0 ≤ e ∧ e < 16777216)))
theorem ofI_iff (c : Int) : (0 < ofI c ∧ 0 ≤ c ∧ c < 20) ∨ (ofI c = 0 ∧ ¬ (0 ≤ c ∧ c < 20)) := by
  by_cases h : 0 ≤ c ∧ c < 20
  · left
    refine ⟨?_, h⟩
    rcases lits (k := c) (by omega) (by omega) with rfl | rfl | rfl | rfl | rfl | rfl | rfl | rfl | rfl | rfl | rfl | rfl | rfl | rfl | rfl | rfl | rfl | rfl | rfl | rfl <;> decide
  · right
    refine ⟨?_, h⟩
    unfold ofI
    rw [if_pos (by omega)]
theorem tmay_any (n : Int) (w : World) :
    Calls Tryd.prog 132 #[.int .i64 n] w fun e w' => e = .returned (.bool (decide (0 ≤ n ∧ n < 16777216))) ∧ w = w' := by
  go_enter Tryd.func132, Tryd.ntmps132
  go_wp2
  all_goals
    go_ret
    exact ⟨ret_bool (by rw [Bool.eq_iff_iff]; simp <;> omega), rfl⟩
set_option maxHeartbeats 1600000 in
theorem hmay_any (s c t n e : Int) (w : World) :
    Calls Tryd.prog 90 #[.agg #[.int .i64 s, .int .i64 c, .int .i64 t, .int .i64 n, .int .i64 e]] w fun e' w' => e' = .returned (.bool (headOkB s c t n e)) ∧ Below w.heap.size w w' := by
  obtain ⟨o, ho⟩ : ∃ o, ofI c = o := ⟨_, rfl⟩
  have hi := ofI_iff c
  rw [ho] at hi
  have HO := Lib.hid ho
  clear ho
  rcases hi with ⟨h1, h2, h3⟩ | ⟨rfl, h2⟩
  · go_enter Tryd.func90, Tryd.ntmps90
    go_wp2_with (first | (go_at_call 131; refine (of_any _ _).mono ?_; rintro e w' ⟨rfl, rfl⟩; rw [HO.out]) | (go_at_call 132; refine (tmay_any _ _).mono ?_; rintro e w' ⟨rfl, rfl⟩))
    all_goals
      go_ret
      exact ⟨ret_bool (by rw [Bool.eq_iff_iff]; simp [headOkB] <;> omega), alc0 _ _⟩
  · go_enter Tryd.func90, Tryd.ntmps90
    go_wp2_with (first | (go_at_call 131; refine (of_any _ _).mono ?_; rintro e w' ⟨rfl, rfl⟩; rw [HO.out]) | (go_at_call 132; refine (tmay_any _ _).mono ?_; rintro e w' ⟨rfl, rfl⟩))
    all_goals
      go_ret
      exact ⟨ret_bool (by rw [Bool.eq_iff_iff]; simp [headOkB] <;> omega), alc0 _ _⟩
theorem hmay_is (r : Bool) (s c t n e : Int) (w : World) (h : headOkB s c t n e = r) :
    Calls Tryd.prog 90 #[.agg #[.int .i64 s, .int .i64 c, .int .i64 t, .int .i64 n, .int .i64 e]] w fun e' w' => e' = .returned (.bool r) ∧ Below w.heap.size w w' := by
  subst h; exact hmay_any s c t n e w
theorem fold16_lt (h : Nat) : fold16 h < 65536 := by
  have x1 : h % 65536 ^^^ (h / 65536 % 65536) < 2 ^ 16 := Nat.xor_lt_two_pow (by omega) (by omega)
  have x2 : h % 65536 ^^^ (h / 65536 % 65536) ^^^ (h / 4294967296 % 65536) < 2 ^ 16 := Nat.xor_lt_two_pow x1 (by omega)
  have x3 : h % 65536 ^^^ (h / 65536 % 65536) ^^^ (h / 4294967296 % 65536) ^^^ (h / 281474976710656 % 65536) < 2 ^ 16 := Nat.xor_lt_two_pow x2 (by omega)
  exact x3
/-- The sum of the first fourteen bytes. -/
def sumR (key at_ : Int) (f : Nat → Nat) : Nat := fold16 (hashT turnN (turnN key.toNat (IntKind.u64.wrap at_).toNat) ((List.range 14).map fun i => ((f i : Nat) : Int)))
theorem sumR_lt (key at_ : Int) (f : Nat → Nat) : sumR key at_ f < 65536 := fold16_lt _
theorem sumR_congr (key at_ : Int) {f h : Nat → Nat} (e : ∀ i, i < 14 → f i = h i) : sumR key at_ f = sumR key at_ h := by
  unfold sumR
  rw [List.map_congr_left (fun i hi => by rw [e i (List.mem_range.1 hi)])]
theorem row_z {f : Nat → Nat} (hf : ∀ i, f i < 256) (i : Nat) : 0 ≤ ((List.range 14).map fun i => ((f i : Nat) : Int)).getD i 0 ∧ ((List.range 14).map fun i => ((f i : Nat) : Int)).getD i 0 ≤ 255 := by
  by_cases h : i < 14
  · have := hf i
    simp [List.getD, h]; omega
  · simp [List.getD, h]
theorem msum (key at_ : Int) (g cap K : Nat) (f : Nat → Nat) (W : World) (H : RowU g K W f) (hK : 14 ≤ K) (hf : ∀ i, f i < 256) (k0 : 0 ≤ key) (k1 : key < 18446744073709551616) :
    Calls Tryd.prog 133 #[.int .u64 key, .int .i64 at_, .slice (some ⟨g, 0, none⟩) 14 cap] W fun e w' => e = .returned (.int .u16 (sumR key at_ f)) ∧ W = w' := by
  have := sum_row turnN Tw Bw key at_ g 0 14 cap ((List.range 14).map fun i => ((f i : Nat) : Int)) W k0 k1 (by simp) (by omega) (fun i hi => by rw [Nat.zero_add, (H.2 i (by omega)).1]; simp [List.getD, hi]) (row_z hf)
  rwa [List.take_of_length_le (by simp)] at this
theorem rsum (key at_ : Int) (g cap K : Nat) (f : Nat → Nat) (W : World) (H : RowU g K W f) (hK : 14 ≤ K) (hf : ∀ i, f i < 256) (k0 : 0 ≤ key) (k1 : key < 18446744073709551616) :
    Calls Tryd.prog 94 #[.int .u64 key, .int .i64 at_, .slice (some ⟨g, 0, none⟩) 14 cap] W fun e w' => e = .returned (.int .i64 (sumR key at_ f)) ∧ W = w' := by
  have := rsum_row turnN rTw Bw key at_ g 0 14 cap ((List.range 14).map fun i => ((f i : Nat) : Int)) W k0 k1 (by simp) (by omega) (fun i hi => by rw [Nat.zero_add, (H.2 i (by omega)).1]; simp [List.getD, hi]) (row_z hf)
  rwa [List.take_of_length_le (by simp)] at this
theorem ba_ext (x y : ByteArray) : x.toList = y.toList ↔ x = y := by
  constructor
  · intro h
    rw [ByteArray.toList_eq, ByteArray.toList_eq] at h
    obtain ⟨a⟩ := x
    obtain ⟨b⟩ := y
    have : a = b := Array.toList_inj.1 h
    rw [this]
  · intro h; rw [h]
/-- bytes.Equal of rows. -/
theorem bequal (g1 c1 g2 c2 : Nat) (f h : Nat → Nat) (W : World) (H1 : RowU g1 16 W f) (H2 : RowU g2 16 W h) (r : Bool) (hr : decide (strU f 16 = strU h 16) = r) :
    Calls Tryd.prog 122 #[.slice (some ⟨g1, 0, none⟩) 16 c1, .slice (some ⟨g2, 0, none⟩) 16 c2] W fun e w' => e = .returned (.bool r) ∧ W = w' := by
  have e1 := conv_row H1 c1
  have e2 := conv_row H2 c2
  obtain ⟨x, hx⟩ : ∃ x, strU f 16 = x := ⟨_, rfl⟩
  obtain ⟨y, hy⟩ : ∃ y, strU h 16 = y := ⟨_, rfl⟩
  rw [hx] at e1 hr; rw [hy] at e2 hr
  have HR := Lib.hid hr
  clear hx hy hr H1 H2
  go_enter Tryd.func122, Tryd.ntmps122
  go_wp2
  go_ret
  exact ⟨ret_bool (by first | exact HR.out | (rw [← HR.out]; first | rfl | (rw [Bool.eq_iff_iff]; simp [ba_ext]))), rfl⟩
end Go.Proofs.YtgidnmjeifgciaaDoor
