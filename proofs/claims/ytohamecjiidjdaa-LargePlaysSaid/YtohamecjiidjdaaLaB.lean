/- Package large: where one stands. -/
import Derived.Test.YtohamecjiidjdaaLaA
import Derived.Test.YtohamecjiidjdaaInt
import Derived.Deep.LoopGhost
import Derived.Lib.Hide
namespace Go.Proofs.Ytohamecjiidjdaa
open Go.RowKit
set_option linter.unusedVariables false
set_option linter.unusedSimpArgs false

def cmp3 (a b : Int) : Int := if a < b then -1 else if b < a then 1 else 0
theorem lnan (a : Int) (W : World) : Calls Try.prog 38 #[.int .i64 a] W fun e w' => e = .returned (.bool false) ∧ W = w' := by
  go_enter Try.func38, Try.ntmps38
  go_wp2
  go_ret
  exact ⟨ret_bool (by simp), rfl⟩
set_option maxHeartbeats 1600000 in
theorem lcmp (a b : Int) (W : World) : Calls Try.prog 35 #[.int .i64 a, .int .i64 b] W fun e w' => e = .returned (.int .i64 (cmp3 a b)) ∧ W = w' := by
  have h3 : a < b ∨ b < a ∨ a = b := by omega
  rcases h3 with h | h | h
  · have hc : cmp3 a b = -1 := by simp [cmp3, h]
    rw [hc]
    clear hc
    go_enter Try.func35, Try.ntmps35
    go_wp2_with (refine (lnan _ _).mono ?_; rintro e w' ⟨rfl, rfl⟩)
    go_ret
    exact ⟨rfl, rfl⟩
  · have h' : ¬ a < b := by omega
    have hc : cmp3 a b = 1 := by simp [cmp3, h, h']
    rw [hc]
    clear hc
    go_enter Try.func35, Try.ntmps35
    go_wp2_with (refine (lnan _ _).mono ?_; rintro e w' ⟨rfl, rfl⟩)
    go_ret
    exact ⟨rfl, rfl⟩
  · have h' : ¬ a < b := by omega
    have h'' : ¬ b < a := by omega
    have hc : cmp3 a b = 0 := by simp [cmp3, h', h'']
    rw [hc]
    clear hc h
    go_enter Try.func35, Try.ntmps35
    go_wp2_with (refine (lnan _ _).mono ?_; rintro e w' ⟨rfl, rfl⟩)
    go_ret
    exact ⟨rfl, rfl⟩
theorem lclo (a f p r b : Int) (W : World) : Calls Try.prog 34 #[.agg #[.int .i64 a, .int .i64 f, .int .i64 p, .int .i64 r], .int .i64 b] W fun e w' => e = .returned (.int .i64 (cmp3 a b)) ∧ Below W.heap.size W w' := by
  go_enter Try.func34, Try.ntmps34
  go_wp2_with (refine (lcmp _ _ _).mono ?_; rintro e w' ⟨rfl, rfl⟩)
  go_ret
  exact ⟨rfl, alc0 _ _⟩
/-- All ahead of k begin ahead of a place, all others not. -/
def LBat (ms : List La) (at_ : Int) (k : Nat) : Prop := k ≤ ms.length ∧ (∀ i p, i < k → ms[i]? = some p → p.at_ < at_) ∧ ∀ i p, k ≤ i → ms[i]? = some p → at_ ≤ p.at_
def fndB (ms : List La) (at_ : Int) (k : Nat) : Bool := match ms[k]? with | some p => p.at_ == at_ | none => false
theorem cmp3_lt {a b : Int} : cmp3 a b < 0 ↔ a < b := by unfold cmp3; split <;> (try split) <;> omega
theorem cmp3_eq {a b : Int} : cmp3 a b = 0 ↔ a = b := by unfold cmp3; split <;> (try split) <;> omega
set_option maxRecDepth 100000 in
set_option maxHeartbeats 6400000 in
theorem lbin (b : Nat) (v : Value) (ms : List La) (at_ : Int) (k : Nat) (W : World) (h : V4 b W v ms) (hn : ms.length ≤ 1000) (hk : LBat ms at_ k) :
    Calls Try.prog 33 #[v, .int .i64 at_, .func (.func 34) #[] #[]] W fun e w' => e = .returned (.tuple #[.int .i64 (k : Int), .bool (fndB ms at_ k)]) ∧ Below W.heap.size W w' := by
  have HV := Lib.hid h
  have HK := Lib.hid hk
  have hlen := hk.1
  obtain ⟨n, hnn⟩ : ∃ n, ms.length = n := ⟨_, rfl⟩
  obtain ⟨A, c, e0, -⟩ := h
  subst e0
  rw [hnn] at hn hlen ⊢
  have HN := Lib.hid hnn
  clear hk hnn
  go_enter Try.func33, Try.ntmps33
  go_wp2_with fail
  go_loopw [9, 10, 11] (fun v9 v10 v11 wr => ∃ i j : Nat, i ≤ k ∧ k ≤ j ∧ j ≤ n ∧ v9 = .int .i64 i ∧ v10 = .int .i64 j ∧ Hid (Below W.heap.size W wr)) (fun v9 v10 _ _ => (intOf v10).toNat - (intOf v9).toNat)
  case atStart => exact ⟨0, n, by omega, by omega, by omega, rfl, rfl, Lib.hid (Below.refl _ _)⟩
  case round =>
    obtain ⟨i, j, hi, hkj, hj, rfl, rfl, HB⟩ := hrel
    by_cases hij : i < j
    · have hijI : (i : Int) < (j : Int) := by omega
      obtain ⟨m, hm⟩ : ∃ m : Nat, (i + j) / 2 = m := ⟨_, rfl⟩
      have hs : (i : Int) + (j : Int) = ((i + j : Nat) : Int) := by omega
      obtain ⟨sm, hsm⟩ : ∃ sm : Nat, i + j = sm := ⟨_, rfl⟩
      have hsI : (i : Int) + (j : Int) = (sm : Int) := by omega
      have hsm9 : (sm : Int) ≤ 2000 := by omega
      have hmI : (sm : Int) / 2 = (m : Int) := by omega
      have hmI' : (sm : Int) / 2 ^ 1 = (m : Int) := by rw [show (2 : Int) ^ 1 = 2 from rfl]; omega
      have hmj : m < j := by omega
      have him : i ≤ m := by omega
      have hmn : m < n := by omega
      have hmnI : (m : Int) < (n : Int) := by omega
      have hm1000 : m ≤ 1000 := by omega
      clear hs hm hsm
      rcases v4_open HV.out with ⟨_, e9⟩ | ⟨off, c', e1, hb, hlc, _, hcell⟩
      · have := HN.out
        rw [e9] at this
        simp at this
        omega
      injection e1 with e1 e2 e3
      subst e1 e3
      obtain ⟨p, hp⟩ : ∃ p, ms[m]? = some p := ⟨ms[m]'(by have := HN.out; omega), List.getElem?_eq_getElem _⟩
      obtain ⟨c0, c1, c2, c3⟩ := hcell m p hp
      have c0 := (HB.out.cell (p := ⟨b, off + m * 4, none⟩) hb).trans c0
      have c1 := (HB.out.cell (p := ⟨b, off + m * 4 + 1, none⟩) hb).trans c1
      have c2 := (HB.out.cell (p := ⟨b, off + m * 4 + 2, none⟩) hb).trans c2
      have c3 := (HB.out.cell (p := ⟨b, off + m * 4 + 3, none⟩) hb).trans c3
      have HP := Lib.hid hp
      clear hcell hp e2
      go_wp2_with fail
      with_reducible refine Calls.mono (lclo _ _ _ _ _ _) ?_
      rintro e w2 ⟨rfl, hb2⟩
      have HB2 := Lib.hid (thn HB.out hb2)
      clear hb2 HB c0 c1 c2 c3
      by_cases hlt : p.at_ < at_
      · have hc3 : cmp3 p.at_ at_ < 0 := cmp3_lt.2 hlt
        have hmk : m < k := by
          rcases Nat.lt_or_ge m k with h | h
          · exact h
          · have := HK.out.2.2 m p h HP.out
            omega
        clear hlt
        go_wp2_with fail
        go_roundw
        case rel => exact ⟨m + 1, j, by omega, by omega, by omega, by go_num, rfl, HB2⟩
        case measure => simp [intOf] <;> omega
      · have hc3 : ¬ cmp3 p.at_ at_ < 0 := fun h => hlt (cmp3_lt.1 h)
        have hmk : k ≤ m := by
          rcases Nat.lt_or_ge m k with h | h
          · have := HK.out.2.1 m p h HP.out
            omega
          · exact h
        clear hlt
        go_wp2_with fail
        go_roundw
        case rel => exact ⟨i, m, by omega, by omega, by omega, rfl, rfl, HB2⟩
        case measure => simp [intOf] <;> omega
    · obtain rfl : i = k := by omega
      by_cases hkn : i < n
      · have hknI : (i : Int) < (n : Int) := by omega
        rcases v4_open HV.out with ⟨_, e9⟩ | ⟨off, c', e1, hb, hlc, _, hcell⟩
        · have := HN.out
          rw [e9] at this
          simp at this
          omega
        injection e1 with e1 e2 e3
        subst e1 e3
        obtain ⟨p, hp⟩ : ∃ p, ms[i]? = some p := ⟨ms[i]'(by have := HN.out; omega), List.getElem?_eq_getElem _⟩
        obtain ⟨c0, c1, c2, c3⟩ := hcell i p hp
        have c0 := (HB.out.cell (p := ⟨b, off + i * 4, none⟩) hb).trans c0
        have c1 := (HB.out.cell (p := ⟨b, off + i * 4 + 1, none⟩) hb).trans c1
        have c2 := (HB.out.cell (p := ⟨b, off + i * 4 + 2, none⟩) hb).trans c2
        have c3 := (HB.out.cell (p := ⟨b, off + i * 4 + 3, none⟩) hb).trans c3
        have hf : Hid (fndB ms at_ i = (cmp3 p.at_ at_ == 0)) := Lib.hid (by unfold fndB; rw [hp, Bool.eq_iff_iff]; simp [cmp3_eq])
        clear hcell hp e2
        go_wp2_with fail
        with_reducible refine Calls.mono (lclo _ _ _ _ _ _) ?_
        rintro e w2 ⟨rfl, hb2⟩
        have HB2 := Lib.hid (thn HB.out hb2)
        clear hb2 HB c0 c1 c2 c3
        go_wp2
        go_ret2
        exact ⟨by rw [hf.out]; rfl, HB2.out⟩
      · have hf : Hid (fndB ms at_ i = false) := Lib.hid (by unfold fndB; rw [List.getElem?_eq_none (by have := HN.out; omega)])
        go_wp2
        go_ret2
        exact ⟨by rw [hf.out]; rfl, HB.out⟩
end Go.Proofs.Ytohamecjiidjdaa
