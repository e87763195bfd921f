/- The law's num. -/
import Derived.Test.YtjblgamngnnccaaDoorStatT
import Derived.Laws.BytesArg
namespace Go.Proofs.YtjblgamngnnccaaDoor
open Go.RowKit
set_option linter.unusedVariables false
set_option linter.unusedSimpArgs false

theorem b_app (a b : List UInt8) : (⟨a.toArray⟩ : ByteArray) ++ ⟨b.toArray⟩ = ⟨(a ++ b).toArray⟩ := by
  apply ByteArray.ext
  simp [ByteArray.data_append]
theorem itoa_step (n : Nat) (h : ¬ n < 10) : (⟨(Lib.itoa ((n / 10 : Nat) : Int)).toArray⟩ : ByteArray) ++ ⟨(Lib.itoa ((n % 10 : Nat) : Int)).toArray⟩ = ⟨(Lib.itoa (n : Int)).toArray⟩ := by
  rw [b_app, Lib.itoa_nonneg, Lib.itoa_nonneg, Lib.itoa_nonneg, Lib.decDigits_one (i := n % 10) (by omega)]
  conv => rhs; rw [Lib.decDigits, dif_neg h]
theorem conv1 (W : World) (x : Int) : (convert 54 9 (.slice (some ⟨W.heap.size, 0, none⟩) 1 1)).run Tryd.prog (W.alloc (.cells #[.int .u8 x] 5)) = .ok (.string (strOfNums [x])) (W.alloc (.cells #[.int .u8 x] 5)) := by
  refine run_convert_bytes_arg _ 54 5 Tryd.underlying54 Tryd.underlying5 W.heap.size 0 1 1 [x] rfl (fun i hi => ?_) 9 Tryd.underlying9
  obtain rfl : i = 0 := by omega
  simp
theorem num_small (d : Nat) (hd : d < 10) (W : World) : Calls Tryd.prog 15 #[.int .i64 d] W fun e' w' => e' = .returned (.string ⟨(Lib.itoa (d : Int)).toArray⟩) ∧ Below W.heap.size W w' := by
  have hn : (⟨(Lib.itoa (d : Int)).toArray⟩ : ByteArray) = ⟨#[UInt8.ofNat (48 + d)]⟩ := by rw [Lib.itoa_nonneg, Lib.decDigits_one hd]
  rw [hn]
  clear hn
  have : d = 0 ∨ d = 1 ∨ d = 2 ∨ d = 3 ∨ d = 4 ∨ d = 5 ∨ d = 6 ∨ d = 7 ∨ d = 8 ∨ d = 9 := by omega
  rcases this with rfl | rfl | rfl | rfl | rfl | rfl | rfl | rfl | rfl | rfl
  · have hcv := conv1 W 48
    go_enter Tryd.func15, Tryd.ntmps15
    go_wp2
    go_ret
    exact ⟨rfl, alc0 _ _⟩
  · have hcv := conv1 W 49
    go_enter Tryd.func15, Tryd.ntmps15
    go_wp2
    go_ret
    exact ⟨rfl, alc0 _ _⟩
  · have hcv := conv1 W 50
    go_enter Tryd.func15, Tryd.ntmps15
    go_wp2
    go_ret
    exact ⟨rfl, alc0 _ _⟩
  · have hcv := conv1 W 51
    go_enter Tryd.func15, Tryd.ntmps15
    go_wp2
    go_ret
    exact ⟨rfl, alc0 _ _⟩
  · have hcv := conv1 W 52
    go_enter Tryd.func15, Tryd.ntmps15
    go_wp2
    go_ret
    exact ⟨rfl, alc0 _ _⟩
  · have hcv := conv1 W 53
    go_enter Tryd.func15, Tryd.ntmps15
    go_wp2
    go_ret
    exact ⟨rfl, alc0 _ _⟩
  · have hcv := conv1 W 54
    go_enter Tryd.func15, Tryd.ntmps15
    go_wp2
    go_ret
    exact ⟨rfl, alc0 _ _⟩
  · have hcv := conv1 W 55
    go_enter Tryd.func15, Tryd.ntmps15
    go_wp2
    go_ret
    exact ⟨rfl, alc0 _ _⟩
  · have hcv := conv1 W 56
    go_enter Tryd.func15, Tryd.ntmps15
    go_wp2
    go_ret
    exact ⟨rfl, alc0 _ _⟩
  · have hcv := conv1 W 57
    go_enter Tryd.func15, Tryd.ntmps15
    go_wp2
    go_ret
    exact ⟨rfl, alc0 _ _⟩
theorem num_is : ∀ (n : Nat), n ≤ 65535 → ∀ W : World, Calls Tryd.prog 15 #[.int .i64 n] W fun e' w' => e' = .returned (.string ⟨(Lib.itoa (n : Int)).toArray⟩) ∧ Below W.heap.size W w' := by
  intro n
  induction n using Nat.strongRecOn with
  | ind n ih =>
    intro hn W
    by_cases h10 : n < 10
    · exact num_small n h10 W
    · have IH1 := Lib.hid (fun w : World => ih (n / 10) (by omega) (by omega) w)
      have IH2 := Lib.hid (fun w : World => ih (n % 10) (by omega) (by omega) w)
      have HE := Lib.hid (itoa_step n h10)
      have z1 := dig_size ((n / 10 : Nat) : Int) (by omega) (by omega)
      have z2 := dig_size ((n % 10 : Nat) : Int) (by omega) (by omega)
      have e1 : (n : Int).tdiv 10 = ((n / 10 : Nat) : Int) := by rw [Int.tdiv_eq_ediv_of_nonneg (by omega)]; omega
      have e2 : (n : Int).tmod 10 = ((n % 10 : Nat) : Int) := by rw [Int.tmod_eq_emod_of_nonneg (by omega)]; omega
      obtain ⟨q, hq⟩ : ∃ q, n / 10 = q := ⟨_, rfl⟩
      obtain ⟨r, hr⟩ : ∃ r, n % 10 = r := ⟨_, rfl⟩
      rw [hq] at IH1 HE z1 e1
      rw [hr] at IH2 HE z2 e2
      have hq2 : q ≤ 6553 := by omega
      have hr2 : r < 10 := by omega
      obtain ⟨D1, hD1⟩ : ∃ D1, (⟨(Lib.itoa (q : Int)).toArray⟩ : ByteArray) = D1 := ⟨_, rfl⟩
      obtain ⟨D2, hD2⟩ : ∃ D2, (⟨(Lib.itoa (r : Int)).toArray⟩ : ByteArray) = D2 := ⟨_, rfl⟩
      rw [hD1] at IH1 HE z1
      rw [hD2] at IH2 HE z2
      rw [← HE.out]
      clear hD1 hD2 HE hq hr ih
      have e3 : ¬ 9223372036854775807 < D1.size + D2.size := by omega
      have l1 : ¬ ((n : Int) < 10) := by omega
      go_enter Tryd.func15, Tryd.ntmps15
      go_wp2_with fail
      refine (IH1.out _).mono ?_
      rintro e9 w1 ⟨rfl, hb1⟩
      have HB1 := Lib.hid hb1
      clear hb1
      go_wp2_with fail
      refine (IH2.out _).mono ?_
      rintro e9 w2 ⟨rfl, hb2⟩
      have HB2 : Hid (Below W.heap.size W w2) := Lib.hid (thn HB1.out hb2)
      clear hb2 HB1
      go_wp2_with fail
      go_ret
      exact ⟨rfl, HB2.out⟩

def lbB : Nat → ByteArray
  | 0 => ⟨#[103, 111, 116, 32]⟩
  | 1 => ⟨#[32, 103, 105, 118, 101, 110, 32]⟩
  | 2 => ⟨#[32, 101, 110, 100, 101, 100, 32]⟩
  | 3 => ⟨#[32, 108, 105, 118, 101, 32]⟩
  | 4 => ⟨#[32, 112, 101, 97, 107, 32]⟩
  | _ => ⟨#[32, 99, 108, 101, 97, 114, 32]⟩
def wB (xs : Nat → Int) : Nat → ByteArray
  | 0 => ⟨#[]⟩
  | i + 1 => wB xs i ++ (lbB i ++ ⟨(Lib.itoa (xs i)).toArray⟩)
theorem w_is (xs : Nat → Int) : wB xs 6 = txtB xs 6 := by
  simp only [wB, txtB, partB, lbB, nmB]
  apply ByteArray.ext
  apply Array.toList_inj.1
  simp [ByteArray.data_append, List.append_assoc]
theorem w_size (f : Nat → Int) (hf : ∀ i, -9223372036854775808 ≤ f i ∧ f i ≤ 9223372036854775807) : ∀ i, (wB f i).size ≤ 40 * i
  | 0 => by simp [wB, ByteArray.size]
  | i + 1 => by
    have h1 := w_size f hf i
    have h2 := dig_size (f i) (hf i).1 (hf i).2
    have h3 : (lbB i).size ≤ 7 := by unfold lbB; split <;> decide
    simp only [wB, ByteArray.size_append]; omega

theorem may_is (g v e l p c : Int) (W : World) (hg : 0 ≤ g ∧ g ≤ 100000000) (hv : 0 ≤ v ∧ v ≤ 100000000) (he : 0 ≤ e ∧ e ≤ 100000000) (hl : 0 ≤ l ∧ l ≤ 100000000) (hp : 0 ≤ p ∧ p ≤ 100000000) (hc : -1000 ≤ c ∧ c ≤ 100000000) :
    Calls Tryd.prog 11 #[.agg #[.int .i64 g, .int .i64 v, .int .i64 e, .int .i64 l, .int .i64 p, .int .i64 c]] W fun e' w' => e' = .returned (.bool (decide (0 ≤ c ∧ e ≤ v ∧ v ≤ g ∧ l ≤ p))) ∧ Below W.heap.size W w' := by
  obtain ⟨g0, g1⟩ := hg
  obtain ⟨v0, v1⟩ := hv
  obtain ⟨e0, e1⟩ := he
  obtain ⟨l0, l1⟩ := hl
  obtain ⟨p0, p1⟩ := hp
  obtain ⟨c0, c1⟩ := hc
  by_cases hc : 0 ≤ c
  · by_cases h1 : e ≤ v
    · by_cases h2 : v ≤ g
      · by_cases h3 : l ≤ p
        · rw [decide_eq_true (show 0 ≤ c ∧ e ≤ v ∧ v ≤ g ∧ l ≤ p from ⟨hc, h1, h2, h3⟩)]
          exact may_yes g v e l p c W ⟨g0, g1⟩ ⟨v0, v1⟩ ⟨e0, e1⟩ ⟨l0, l1⟩ ⟨p0, p1⟩ ⟨hc, c1⟩ h1 h2 h3
        · rw [decide_eq_false (show ¬ (0 ≤ c ∧ e ≤ v ∧ v ≤ g ∧ l ≤ p) by omega)]
          go_enter Tryd.func11, Tryd.ntmps11
          go_wp2
          go_ret
          exact ⟨rfl, alc0 _ _⟩
      · rw [decide_eq_false (show ¬ (0 ≤ c ∧ e ≤ v ∧ v ≤ g ∧ l ≤ p) by omega)]
        go_enter Tryd.func11, Tryd.ntmps11
        go_wp2
        go_ret
        exact ⟨rfl, alc0 _ _⟩
    · rw [decide_eq_false (show ¬ (0 ≤ c ∧ e ≤ v ∧ v ≤ g ∧ l ≤ p) by omega)]
      go_enter Tryd.func11, Tryd.ntmps11
      go_wp2
      go_ret
      exact ⟨rfl, alc0 _ _⟩
  · rw [decide_eq_false (show ¬ (0 ≤ c ∧ e ≤ v ∧ v ≤ g ∧ l ≤ p) by omega)]
    go_enter Tryd.func11, Tryd.ntmps11
    go_wp2
    go_ret
    exact ⟨rfl, alc0 _ _⟩
end Go.Proofs.YtjblgamngnnccaaDoor
