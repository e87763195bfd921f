/- LargePlays: awake; lists that rise. -/
import Derived.Test.YtohamecjiidjdaaLaH
import Derived.Test.YtohamecjiidjdaaLaS
import Derived.Deep.CutBlock
namespace Go.Proofs.Ytohamecjiidjdaa
open Go.RowKit
set_option linter.unusedVariables false
set_option linter.unusedSimpArgs false

theorem LgAt.new (W : World) (T : TypeId) (b : Nat) (hb : b ≠ W.heap.size) : LgAt W.heap.size b (W.alloc (.cells #[.slice none 0 0] T)) [] :=
  ⟨by simp, hb, by simp, _, by simp, vz_nil _ _ _⟩
def yA : La := ⟨300, 0, 2, 0⟩
set_option maxHeartbeats 3200000 in
theorem w30awake (W : World) : Calls Try.prog 22 #[] W fun e w' => e = .returned (.bool true) ∧ Below W.heap.size W w' := by
  go_enter Try.func22, Try.ntmps22
  go_upto_region 2 with (fail)
  obtain ⟨g, hg⟩ : ∃ g, W.heap.size = g := ⟨_, rfl⟩
  obtain ⟨w1, hw1⟩ : ∃ w1, W.alloc (.cells #[.slice none 0 0] 48) = w1 := ⟨_, rfl⟩
  have HL : Hid (LgAt g (g + 1) w1 []) := Lib.hid (by rw [← hw1, ← hg]; exact LgAt.new W _ _ (by omega))
  have HB : Hid (Below W.heap.size W w1 ∧ W.heap.size = g) := Lib.hid (by rw [← hw1]; exact ⟨alc0 _ _, hg⟩)
  rw [hw1, hg]
  clear hw1 hg
  go_wp2_with fail
  have hp : Calls Try.prog 18 #[.pointer (some ⟨g, 0, none⟩), .agg #[.int .i64 300, .int .i64 0, .int .i64 2, .int .i64 0]] w1 (PutPost g (g + 1) w1 [yA]) := lput_new g (g + 1) w1 [] yA HL.out (by decide) 0 ⟨by simp, fun i p h => by omega, fun i p _ h => by simp at h⟩ rfl
  have HP := Lib.hid hp
  clear hp
  with_reducible refine Calls.mono HP.out ?_
  rintro e w2 ⟨rfl, b2, b', hl, hf, hb2, hb'⟩
  have HL2 := Lib.hid hl
  have HB2 : Hid (Below W.heap.size W w2) := Lib.hid (HB.out.1.trans (hf.2.2 _ (by have := HB.out.2; omega) (by have := HB.out.2; have := HB.out.1.size; omega) HB.out.1.size))
  clear hl hf hb2 hb' HP HL
  go_wp2_with fail
  have hg2 : Calls Try.prog 21 #[.pointer (some ⟨g, 0, none⟩), .int .i64 300] w2 fun e w' => e = .returned (.tuple #[.agg #[.int .i64 300, .int .i64 0, .int .i64 2, .int .i64 0], .bool true]) ∧ Below w2.heap.size w2 w' := lget_yes g b' w2 [yA] HL2.out (by decide) 300 0 ⟨by simp, fun i p h => by omega, fun i p _ h => by
    have hi : i = 0 := by
      have := (List.getElem?_eq_some_iff.1 h).1
      simpa using this
    subst hi
    simp at h
    subst h
    decide⟩ rfl yA rfl
  have HG := Lib.hid hg2
  clear hg2
  with_reducible refine Calls.mono HG.out ?_
  rintro e w3 ⟨rfl, hb⟩
  have HL3 := Lib.hid (HL2.out.below hb)
  have HB3 := Lib.hid (thn HB2.out hb)
  clear hb HG HL2
  go_upto_region 4 with (fail)
  obtain ⟨z, hz⟩ : ∃ z, w3.heap.size = z := ⟨_, rfl⟩
  obtain ⟨w4, hw4⟩ : ∃ w4, w3.alloc (.cells #[.int .i64 300, .int .i64 0, .int .i64 2, .int .i64 0] 50) = w4 := ⟨_, rfl⟩
  have HL4 : Hid (LgAt g b' w4 [yA]) := Lib.hid (by rw [← hw4]; exact HL3.out.below (alc0 _ _))
  have HB4 : Hid (Below W.heap.size W w4) := Lib.hid (by rw [← hw4]; exact alc HB3.out _)
  have hz2 : w4.cell? ⟨z, 2, none⟩ = some (.int .i64 2) := by rw [← hw4, ← hz]; simp
  have hzl : z < w4.heap.size := by rw [← hw4, ← hz]; simp
  rw [hw4, hz]
  clear hw4 hz HL3
  go_wp2_with fail
  have hpg : Calls Try.prog 23 #[.pointer (some ⟨g, 0, none⟩)] w4 fun e w' => e = .returned (.int .i64 4) ∧ Below w4.heap.size w4 w' := lpages g b' w4 [yA] HL4.out (by decide) (by intro p hp; simp at hp; subst hp; decide)
  have HPG := Lib.hid hpg
  clear hpg
  with_reducible refine Calls.mono HPG.out ?_
  rintro e w5 ⟨rfl, hb⟩
  have HL5 := Lib.hid (HL4.out.below hb)
  have HB5 := Lib.hid (thn HB4.out hb)
  clear hb HPG
  go_wp2_with fail
  have hln : Calls Try.prog 20 #[.pointer (some ⟨g, 0, none⟩)] w5 fun e w' => e = .returned (.int .i64 1) ∧ w5 = w' := llen g b' w5 [yA] HL5.out
  with_reducible refine Calls.mono hln ?_
  rintro e w6 ⟨rfl, rfl⟩
  go_wp2
  go_ret
  exact ⟨rfl, HB5.out⟩
/-- Rising. -/
def Rise (ms : List La) : Prop := ∀ (i j : Nat) (p q : La), i < j → ms[i]? = some p → ms[j]? = some q → p.at_ < q.at_
theorem lb_ex (at_ : Int) : ∀ (ms : List La), Rise ms → ∃ k, LBat ms at_ k
  | [], _ => ⟨0, by simp, fun i p h => by omega, fun i p _ h => by simp at h⟩
  | p :: r, h => by
    by_cases hp : p.at_ < at_
    · have hr : Rise r := fun i j a b hij ha hb => h (i + 1) (j + 1) a b (by omega) (by simpa using ha) (by simpa using hb)
      obtain ⟨k, h1, h2, h3⟩ := lb_ex at_ r hr
      refine ⟨k + 1, by simp; omega, fun i q hi hq => ?_, fun i q hi hq => ?_⟩
      · cases i with
        | zero => simp at hq; subst hq; exact hp
        | succ i => exact h2 i q (by omega) (by simpa using hq)
      · cases i with
        | zero => omega
        | succ i => exact h3 i q (by omega) (by simpa using hq)
    · refine ⟨0, by simp, fun i q h => by omega, fun i q _ hq => ?_⟩
      cases i with
      | zero => simp at hq; subst hq; omega
      | succ i =>
        have := h 0 (i + 1) p q (by omega) (by simp) hq
        omega
theorem insL_get (ms : List La) (k : Nat) (y : La) (hk : k ≤ ms.length) (i : Nat) : (insL ms k y)[i]? = if i < k then ms[i]? else if i = k then some y else ms[i - 1]? := by
  unfold insL
  have hl : (ms.take k).length = k := by simp; omega
  by_cases h1 : i < k
  · rw [if_pos h1, List.getElem?_append_left (by omega), List.getElem?_take_of_lt h1]
  · rw [if_neg h1, List.getElem?_append_right (by omega), hl]
    by_cases h2 : i = k
    · subst h2; simp
    · rw [if_neg h2]
      obtain ⟨d, hd⟩ : ∃ d, i - k = d + 1 := ⟨i - k - 1, by omega⟩
      rw [hd, List.getElem?_cons_succ, List.getElem?_drop]
      congr 1
      omega
theorem Rise.ins {ms : List La} (h : Rise ms) (y : La) (k : Nat) (hk : LBat ms y.at_ k) (hf : fndB ms y.at_ k = false) : Rise (insL ms k y) := by
  have hne : ∀ i p, k ≤ i → ms[i]? = some p → y.at_ < p.at_ := fun i p hi hp => by
    have h1 := hk.2.2 i p hi hp
    by_cases e : i = k
    · subst e
      unfold fndB at hf
      rw [hp] at hf
      simp at hf
      omega
    · obtain ⟨q, hq⟩ : ∃ q, ms[k]? = some q := ⟨ms[k]'(by have := (List.getElem?_eq_some_iff.1 hp).1; omega), List.getElem?_eq_getElem _⟩
      have h2 := hk.2.2 k q (Nat.le_refl _) hq
      have h3 := h k i q p (by omega) hq hp
      omega
  intro i j p q hij hp hq
  rw [insL_get ms k y hk.1] at hp hq
  split at hp
  · split at hq
    · exact h i j p q hij hp hq
    · split at hq
      · injection hq with hq; subst hq; exact hk.2.1 i p (by assumption) hp
      · exact h i (j - 1) p q (by omega) hp hq
  · split at hp
    · injection hp with hp; subst hp
      rw [if_neg (by omega), if_neg (by omega)] at hq
      exact hne (j - 1) q (by omega) hq
    · rw [if_neg (by omega), if_neg (by omega)] at hq
      exact h (i - 1) (j - 1) p q (by omega) hp hq
theorem Rise.era {ms : List La} (h : Rise ms) (k : Nat) : Rise (ms.eraseIdx k) := by
  intro i j p q hij hp hq
  rw [List.getElem?_eraseIdx] at hp hq
  split at hp <;> split at hq
  · exact h _ _ p q hij hp hq
  · exact h _ _ p q (by omega) hp hq
  · omega
  · exact h _ _ p q (by omega) hp hq
end Go.Proofs.Ytohamecjiidjdaa
