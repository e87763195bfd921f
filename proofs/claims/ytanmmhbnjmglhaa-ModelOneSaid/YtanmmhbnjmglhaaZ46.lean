/- MpN. -/
import Derived.Test.YtanmmhbnjmglhaaZ38
import Derived.Test.YtanmmhbnjmglhaaZ39
import Derived.Test.YtanmmhbnjmglhaaZ40
import Derived.Test.YtanmmhbnjmglhaaZ41
import Derived.Test.YtanmmhbnjmglhaaZ42
import Derived.Test.YtanmmhbnjmglhaaZ43
import Derived.Test.YtanmmhbnjmglhaaZ44
import Derived.Test.YtanmmhbnjmglhaaZ45
namespace Go.Proofs.Ytanmmhbnjmglhaa
set_option maxRecDepth 100000
open Go.RowKit Go.ChangeMaps Go.MapKept
set_option linter.unusedVariables false
set_option linter.unusedSimpArgs false
/-- What the document's Do leaves, at any thing. -/
def DPR (C : Cf) (r k kc : Nat) (K a n mm E : Int) (W : World) (e : Ending) (w' : World) : Prop :=
  (E = 0 ∧ (K = 1 ∨ K = 2 ∨ K = 3) ∧ ∃ aN : Nat, a = (aN : Int) ∧ aN < k ∧ DA C k aN (if K = 2 then n * mm else n) W e w') ∨
  (E = 0 ∧ (K = 10 ∨ K = 18) ∧ ∃ aN : Nat, a = (aN : Int) ∧ aN < k ∧ DB C k aN W e w') ∨
  (¬ (E = 0 ∧ (K = 1 ∨ K = 2 ∨ K = 3 ∨ K = 10 ∨ K = 18)) ∧ DC C r k kc E W e w')
section
variable {C : Cf} {r k kc : Nat} {W : World}
theorem askE_vals (t n : Int) (full : Bool) : askE C t n full = 0 ∨ askE C t n full = 1 ∨ askE C t n full = 4 ∨ askE C t n full = 13 := by
  unfold askE
  split
  · omega
  · split
    · omega
    · split <;> omega
theorem quo_sym {n mm mo : Int} (hn : 1 ≤ n) (hm : 1 ≤ mm) : mo / n < mm ↔ mo / mm < n := by
  rw [Int.ediv_lt_iff_lt_mul (by omega), Int.ediv_lt_iff_lt_mul (by omega), Int.mul_comm]
theorem rdoK1 (t a b v n mm : Int) (P : Option Addr) (ln cp : Nat) (full : Bool) (hk64 : k ≤ 64) (hok : C.ok) (hmax : mm ≤ 9223372036854775807) (h : RZ r k W) : Calls Try.prog 11 #[rmv C none 0 0 (some ⟨r, 0, none⟩) k kc, opv 1 t a b v n mm P ln cp, .bool full] W (DPR C r k kc 1 a n mm (doE C k 1 t a b v n mm ln full) W) := by
  by_cases b9 : a < 0
  · have e1 : refE k 1 a b v n ln = 15 := by unfold refE uA uB; rw [if_neg (by omega), if_pos (by omega)]
    have e2 : doE C k 1 t a b v n mm ln full = 15 := by unfold doE; rw [e1]; rfl
    rw [e2]
    exact (rdo_r1 t a b v n mm P ln cp full 1 _ _ (by omega) (by omega) (fun w => ruses1) b9 h).mono fun e w' h9 => .inr (.inr ⟨by omega, h9⟩)
  have g0 := b9
  clear b9
  by_cases b9 : a ≥ (k : Int)
  · have e1 : refE k 1 a b v n ln = 15 := by unfold refE uA uB; rw [if_neg (by omega), if_pos (by omega)]
    have e2 : doE C k 1 t a b v n mm ln full = 15 := by unfold doE; rw [e1]; rfl
    rw [e2]
    exact (rdo_r2 t a b v n mm P ln cp full 1 _ _ (by omega) (by omega) (fun w => ruses1) g0 b9 h).mono fun e w' h9 => .inr (.inr ⟨by omega, h9⟩)
  have g00 := b9
  clear b9
  have e1 : refE k 1 a b v n ln = 0 := by unfold refE uA uB; rw [if_neg (by omega), if_neg (by omega), if_neg (by omega)]
  have e2 : doE C k 1 t a b v n mm ln full = askE C t n full := by unfold doE; rw [if_pos e1]; simp [kE]
  rw [e2]
  rcases askE_vals (C := C) t n full with hE | hE | hE | hE
  · rw [hE]
    obtain ⟨aN, rfl⟩ : ∃ aN : Nat, a = (aN : Int) := ⟨a.toNat, by omega⟩
    exact (rdo_a1 t b v n mm P ln cp full aN (n) g0 g00 (fun w hw => rmk1d t (aN : Int) b v n mm P ln cp full hE aN rfl (by omega) hk64 hok hw) h).mono fun e w' h9 => .inl ⟨rfl, by omega, aN, rfl, by omega, h9⟩
  · rw [hE]
    exact (rdo_e1 t a b v n mm P ln cp full 1 g0 g00 (fun w hw => rmk1a t a b v n mm P ln cp full hE hok hw) h).mono fun e w' h9 => .inr (.inr ⟨by omega, h9⟩)
  · rw [hE]
    exact (rdo_e1 t a b v n mm P ln cp full 4 g0 g00 (fun w hw => rmk1b t a b v n mm P ln cp full hE hok hw) h).mono fun e w' h9 => .inr (.inr ⟨by omega, h9⟩)
  · rw [hE]
    exact (rdo_e1 t a b v n mm P ln cp full 13 g0 g00 (fun w hw => rmk1c t a b v n mm P ln cp full hE hok hw) h).mono fun e w' h9 => .inr (.inr ⟨by omega, h9⟩)
theorem rdoK2 (t a b v n mm : Int) (P : Option Addr) (ln cp : Nat) (full : Bool) (hk64 : k ≤ 64) (hok : C.ok) (hmax : mm ≤ 9223372036854775807) (h : RZ r k W) : Calls Try.prog 11 #[rmv C none 0 0 (some ⟨r, 0, none⟩) k kc, opv 2 t a b v n mm P ln cp, .bool full] W (DPR C r k kc 2 a n mm (doE C k 2 t a b v n mm ln full) W) := by
  by_cases b9 : a < 0
  · have e1 : refE k 2 a b v n ln = 15 := by unfold refE uA uB; rw [if_neg (by omega), if_pos (by omega)]
    have e2 : doE C k 2 t a b v n mm ln full = 15 := by unfold doE; rw [e1]; rfl
    rw [e2]
    exact (rdo_r1 t a b v n mm P ln cp full 2 _ _ (by omega) (by omega) (fun w => ruses2) b9 h).mono fun e w' h9 => .inr (.inr ⟨by omega, h9⟩)
  have g0 := b9
  clear b9
  by_cases b9 : a ≥ (k : Int)
  · have e1 : refE k 2 a b v n ln = 15 := by unfold refE uA uB; rw [if_neg (by omega), if_pos (by omega)]
    have e2 : doE C k 2 t a b v n mm ln full = 15 := by unfold doE; rw [e1]; rfl
    rw [e2]
    exact (rdo_r2 t a b v n mm P ln cp full 2 _ _ (by omega) (by omega) (fun w => ruses2) g0 b9 h).mono fun e w' h9 => .inr (.inr ⟨by omega, h9⟩)
  have g00 := b9
  clear b9
  have e1 : refE k 2 a b v n ln = 0 := by unfold refE uA uB; rw [if_neg (by omega), if_neg (by omega), if_neg (by omega)]
  have e2 : doE C k 2 t a b v n mm ln full = calE C t n mm full := by unfold doE; rw [if_pos e1]; simp [kE]
  rw [e2]
  by_cases c1 : n < 1
  · have hE : calE C t n mm full = 1 := by unfold calE; rw [if_pos (by omega)]
    rw [hE]
    exact (rdo_e2 t a b v n mm P ln cp full 1 g0 g00 (fun w hw => rmk2a1 t a b v n mm P ln cp full c1 hok hw) h).mono fun e w' h9 => .inr (.inr ⟨by omega, h9⟩)
  by_cases c2 : mm < 1
  · have hE : calE C t n mm full = 1 := by unfold calE; rw [if_pos (by omega)]
    rw [hE]
    exact (rdo_e2 t a b v n mm P ln cp full 1 g0 g00 (fun w hw => rmk2a2 t a b v n mm P ln cp full c1 c2 hok hw) h).mono fun e w' h9 => .inr (.inr ⟨by omega, h9⟩)
  by_cases c3 : t < 0
  · have hE : calE C t n mm full = 1 := by unfold calE; rw [if_pos (by omega)]
    rw [hE]
    exact (rdo_e2 t a b v n mm P ln cp full 1 g0 g00 (fun w hw => rmk2a3 t a b v n mm P ln cp full c1 c2 c3 hok hw) h).mono fun e w' h9 => .inr (.inr ⟨by omega, h9⟩)
  by_cases c4 : C.th ≤ t
  · have hE : calE C t n mm full = 1 := by unfold calE; rw [if_pos (by omega)]
    rw [hE]
    exact (rdo_e2 t a b v n mm P ln cp full 1 g0 g00 (fun w hw => rmk2a4 t a b v n mm P ln cp full c1 c2 c3 c4 hok hw) h).mono fun e w' h9 => .inr (.inr ⟨by omega, h9⟩)
  have hqs := quo_sym (n := n) (mm := mm) (mo := C.mo) (by omega) (by omega)
  by_cases c5 : n > C.mo / mm
  · have hE : calE C t n mm full = 4 := by unfold calE; rw [if_neg (by omega), if_pos (hqs.2 c5)]
    rw [hE]
    exact (rdo_e2 t a b v n mm P ln cp full 4 g0 g00 (fun w hw => rmk2b t a b v n mm P ln cp full c1 c2 c3 c4 c5 hok hw) h).mono fun e w' h9 => .inr (.inr ⟨by omega, h9⟩)
  have c6 : ¬ C.mo / n < mm := fun hc => c5 (hqs.1 hc)
  by_cases c7 : full = true
  · have hE : calE C t n mm full = 13 := by unfold calE; rw [if_neg (by omega), if_neg c6, if_pos c7]
    rw [hE]
    exact (rdo_e2 t a b v n mm P ln cp full 13 g0 g00 (fun w hw => rmk2c t a b v n mm P ln cp full c1 c2 c3 c4 c5 c7 hok hw) h).mono fun e w' h9 => .inr (.inr ⟨by omega, h9⟩)
  · have hE : calE C t n mm full = 0 := by unfold calE; rw [if_neg (by omega), if_neg c6, if_neg c7]
    rw [hE]
    obtain ⟨aN, rfl⟩ : ∃ aN : Nat, a = (aN : Int) := ⟨a.toNat, by omega⟩
    exact (rdo_a2 t b v n mm P ln cp full aN (n * mm) g0 g00 (fun w hw => rmk2d t (aN : Int) b v n mm P ln cp full c1 c2 c3 c4 c5 (by simpa using c7) aN rfl (by omega) hk64 hok hw) h).mono fun e w' h9 => .inl ⟨rfl, by omega, aN, rfl, by omega, h9⟩
theorem rdoK3 (t a b v n mm : Int) (P : Option Addr) (ln cp : Nat) (full : Bool) (hk64 : k ≤ 64) (hok : C.ok) (hmax : mm ≤ 9223372036854775807) (h : RZ r k W) : Calls Try.prog 11 #[rmv C none 0 0 (some ⟨r, 0, none⟩) k kc, opv 3 t a b v n mm P ln cp, .bool full] W (DPR C r k kc 3 a n mm (doE C k 3 t a b v n mm ln full) W) := by
  by_cases b9 : a < 0
  · have e1 : refE k 3 a b v n ln = 15 := by unfold refE uA uB; rw [if_neg (by omega), if_pos (by omega)]
    have e2 : doE C k 3 t a b v n mm ln full = 15 := by unfold doE; rw [e1]; rfl
    rw [e2]
    exact (rdo_r1 t a b v n mm P ln cp full 3 _ _ (by omega) (by omega) (fun w => ruses3) b9 h).mono fun e w' h9 => .inr (.inr ⟨by omega, h9⟩)
  have g0 := b9
  clear b9
  by_cases b9 : a ≥ (k : Int)
  · have e1 : refE k 3 a b v n ln = 15 := by unfold refE uA uB; rw [if_neg (by omega), if_pos (by omega)]
    have e2 : doE C k 3 t a b v n mm ln full = 15 := by unfold doE; rw [e1]; rfl
    rw [e2]
    exact (rdo_r2 t a b v n mm P ln cp full 3 _ _ (by omega) (by omega) (fun w => ruses3) g0 b9 h).mono fun e w' h9 => .inr (.inr ⟨by omega, h9⟩)
  have g00 := b9
  clear b9
  have e1 : refE k 3 a b v n ln = 0 := by unfold refE uA uB; rw [if_neg (by omega), if_neg (by omega), if_neg (by omega)]
  by_cases hm : malB mm = true
  · have e2 : doE C k 3 t a b v n mm ln full = askE C t n full := by unfold doE; rw [if_pos e1]; simp [kE, hm]
    rw [e2]
    rcases askE_vals (C := C) t n full with hE | hE | hE | hE
    · rw [hE]
      obtain ⟨aN, rfl⟩ : ∃ aN : Nat, a = (aN : Int) := ⟨a.toNat, by omega⟩
      exact (rdo_a3 t b v n mm P ln cp full aN (n) g0 g00 (fun w hw => rmk3d t (aN : Int) b v n mm P ln cp full hmax hm hE aN rfl (by omega) hk64 hok hw) h).mono fun e w' h9 => .inl ⟨rfl, by omega, aN, rfl, by omega, h9⟩
    · rw [hE]
      exact (rdo_e3 t a b v n mm P ln cp full 1 g0 g00 (fun w hw => rmk3b1 t a b v n mm P ln cp full hmax hm hE hok hw) h).mono fun e w' h9 => .inr (.inr ⟨by omega, h9⟩)
    · rw [hE]
      exact (rdo_e3 t a b v n mm P ln cp full 4 g0 g00 (fun w hw => rmk3b4 t a b v n mm P ln cp full hmax hm hE hok hw) h).mono fun e w' h9 => .inr (.inr ⟨by omega, h9⟩)
    · rw [hE]
      exact (rdo_e3 t a b v n mm P ln cp full 13 g0 g00 (fun w hw => rmk3b13 t a b v n mm P ln cp full hmax hm hE hok hw) h).mono fun e w' h9 => .inr (.inr ⟨by omega, h9⟩)
  · have hm2 : malB mm = false := by simpa using hm
    have e2 : doE C k 3 t a b v n mm ln full = 1 := by unfold doE; rw [if_pos e1]; simp [kE, hm2]
    rw [e2]
    exact (rdo_e3 t a b v n mm P ln cp full 1 g0 g00 (fun w hw => rmk3a t a b v n mm P ln cp full hmax hm2 hok hw) h).mono fun e w' h9 => .inr (.inr ⟨by omega, h9⟩)
theorem rdoK4 (t a b v n mm : Int) (P : Option Addr) (ln cp : Nat) (full : Bool) (hk64 : k ≤ 64) (hok : C.ok) (hmax : mm ≤ 9223372036854775807) (h : RZ r k W) : Calls Try.prog 11 #[rmv C none 0 0 (some ⟨r, 0, none⟩) k kc, opv 4 t a b v n mm P ln cp, .bool full] W (DPR C r k kc 4 a n mm (doE C k 4 t a b v n mm ln full) W) := by
  by_cases b9 : b < 0
  · have e1 : refE k 4 a b v n ln = 15 := by unfold refE uA uB; rw [if_neg (by omega), if_pos (by omega)]
    have e2 : doE C k 4 t a b v n mm ln full = 15 := by unfold doE; rw [e1]; rfl
    rw [e2]
    exact (rdo_r5 t a b v n mm P ln cp full 4 _ (by omega) (by omega) (fun w => ruses4) b9 h).mono fun e w' h9 => .inr (.inr ⟨by omega, h9⟩)
  have g1 := b9
  clear b9
  by_cases b9 : b ≥ (k : Int)
  · have e1 : refE k 4 a b v n ln = 15 := by unfold refE uA uB; rw [if_neg (by omega), if_pos (by omega)]
    have e2 : doE C k 4 t a b v n mm ln full = 15 := by unfold doE; rw [e1]; rfl
    rw [e2]
    exact (rdo_r6 t a b v n mm P ln cp full 4 _ (by omega) (by omega) (fun w => ruses4) g1 b9 h).mono fun e w' h9 => .inr (.inr ⟨by omega, h9⟩)
  have g2 := b9
  clear b9
  have e1 : refE k 4 a b v n ln = 0 := by unfold refE uA uB; rw [if_neg (by omega), if_neg (by omega), if_neg (by omega)]
  by_cases c1 : t < 0
  · have e2 : doE C k 4 t a b v n mm ln full = 1 := by unfold doE; rw [if_pos e1]; simp [kE, c1]
    rw [e2]
    exact (rdo_u4 t a b v n mm P ln cp full 1 g1 g2 (fun w hw => ruse4a t a b v n mm P ln cp c1 hw) h).mono fun e w' h9 => .inr (.inr ⟨by omega, h9⟩)
  by_cases c2 : C.th ≤ t
  · have e2 : doE C k 4 t a b v n mm ln full = 1 := by unfold doE; rw [if_pos e1]; simp [kE, c1, c2]
    rw [e2]
    exact (rdo_u4 t a b v n mm P ln cp full 1 g1 g2 (fun w hw => ruse4b t a b v n mm P ln cp c1 c2 hw) h).mono fun e w' h9 => .inr (.inr ⟨by omega, h9⟩)
  have e2 : doE C k 4 t a b v n mm ln full = 7 := by unfold doE; rw [if_pos e1]; simp [kE, c1, c2]
  rw [e2]
  exact (rdo_u4 t a b v n mm P ln cp full 7 g1 g2 (fun w hw => ruse4 t a b v n mm P ln cp c1 (by omega) hw) h).mono fun e w' h9 => .inr (.inr ⟨by omega, h9⟩)
theorem rdoK5 (t a b v n mm : Int) (P : Option Addr) (ln cp : Nat) (full : Bool) (hk64 : k ≤ 64) (hok : C.ok) (hmax : mm ≤ 9223372036854775807) (h : RZ r k W) : Calls Try.prog 11 #[rmv C none 0 0 (some ⟨r, 0, none⟩) k kc, opv 5 t a b v n mm P ln cp, .bool full] W (DPR C r k kc 5 a n mm (doE C k 5 t a b v n mm ln full) W) := by
  by_cases b9 : a < 0
  · have e1 : refE k 5 a b v n ln = 15 := by unfold refE uA uB; rw [if_neg (by omega), if_pos (by omega)]
    have e2 : doE C k 5 t a b v n mm ln full = 15 := by unfold doE; rw [e1]; rfl
    rw [e2]
    exact (rdo_r1 t a b v n mm P ln cp full 5 _ _ (by omega) (by omega) (fun w => ruses5) b9 h).mono fun e w' h9 => .inr (.inr ⟨by omega, h9⟩)
  have g0 := b9
  clear b9
  by_cases b9 : a ≥ (k : Int)
  · have e1 : refE k 5 a b v n ln = 15 := by unfold refE uA uB; rw [if_neg (by omega), if_pos (by omega)]
    have e2 : doE C k 5 t a b v n mm ln full = 15 := by unfold doE; rw [e1]; rfl
    rw [e2]
    exact (rdo_r2 t a b v n mm P ln cp full 5 _ _ (by omega) (by omega) (fun w => ruses5) g0 b9 h).mono fun e w' h9 => .inr (.inr ⟨by omega, h9⟩)
  have g00 := b9
  clear b9
  by_cases b9 : b < 0
  · have e1 : refE k 5 a b v n ln = 15 := by unfold refE uA uB; rw [if_neg (by omega), if_pos (by omega)]
    have e2 : doE C k 5 t a b v n mm ln full = 15 := by unfold doE; rw [e1]; rfl
    rw [e2]
    exact (rdo_r3 t a b v n mm P ln cp full 5 _ (by omega) (by omega) (fun w => ruses5) g0 g00 b9 h).mono fun e w' h9 => .inr (.inr ⟨by omega, h9⟩)
  have g1 := b9
  clear b9
  by_cases b9 : b ≥ (k : Int)
  · have e1 : refE k 5 a b v n ln = 15 := by unfold refE uA uB; rw [if_neg (by omega), if_pos (by omega)]
    have e2 : doE C k 5 t a b v n mm ln full = 15 := by unfold doE; rw [e1]; rfl
    rw [e2]
    exact (rdo_r4 t a b v n mm P ln cp full 5 _ (by omega) (by omega) (fun w => ruses5) g0 g00 g1 b9 h).mono fun e w' h9 => .inr (.inr ⟨by omega, h9⟩)
  have g2 := b9
  clear b9
  have e1 : refE k 5 a b v n ln = 0 := by unfold refE uA uB; rw [if_neg (by omega), if_neg (by omega), if_neg (by omega)]
  have e2 : doE C k 5 t a b v n mm ln full = reE C t n := by unfold doE; rw [if_pos e1]; simp [kE]
  rw [e2]
  rcases askE_vals (C := C) t n false with hE | hE | hE | hE
  · have hr : reE C t n = 7 := by
      unfold askE at hE
      unfold reE
      split at hE
      · omega
      · split at hE
        · omega
        · rw [if_neg (by assumption), if_neg (by assumption)]
    rw [hr]
    exact (rdo_e5 t a b v n mm P ln cp full 7 g0 g00 g1 g2 (fun w hw => rrenc t a b v n mm P ln cp full hE hw) h).mono fun e w' h9 => .inr (.inr ⟨by omega, h9⟩)
  · have hr : reE C t n = 1 := by
      unfold askE at hE
      unfold reE
      split at hE
      · rw [if_pos (by assumption)]
      · split at hE
        · omega
        · simp at hE
    rw [hr]
    exact (rdo_e5 t a b v n mm P ln cp full 1 g0 g00 g1 g2 (fun w hw => rrena t a b v n mm P ln cp full hE hw) h).mono fun e w' h9 => .inr (.inr ⟨by omega, h9⟩)
  · have hr : reE C t n = 4 := by
      unfold askE at hE
      unfold reE
      split at hE
      · omega
      · split at hE
        · rw [if_neg (by assumption), if_pos (by assumption)]
        · simp at hE
    rw [hr]
    exact (rdo_e5 t a b v n mm P ln cp full 4 g0 g00 g1 g2 (fun w hw => rrenb t a b v n mm P ln cp full hE hw) h).mono fun e w' h9 => .inr (.inr ⟨by omega, h9⟩)
  · exfalso
    unfold askE at hE
    split at hE
    · omega
    · split at hE
      · omega
      · simp at hE
theorem rdoK6 (t a b v n mm : Int) (P : Option Addr) (ln cp : Nat) (full : Bool) (hk64 : k ≤ 64) (hok : C.ok) (hmax : mm ≤ 9223372036854775807) (h : RZ r k W) : Calls Try.prog 11 #[rmv C none 0 0 (some ⟨r, 0, none⟩) k kc, opv 6 t a b v n mm P ln cp, .bool full] W (DPR C r k kc 6 a n mm (doE C k 6 t a b v n mm ln full) W) := by
  by_cases b9 : b < 0
  · have e1 : refE k 6 a b v n ln = 15 := by unfold refE uA uB; rw [if_neg (by omega), if_pos (by omega)]
    have e2 : doE C k 6 t a b v n mm ln full = 15 := by unfold doE; rw [e1]; rfl
    rw [e2]
    exact (rdo_r5 t a b v n mm P ln cp full 6 _ (by omega) (by omega) (fun w => ruses6) b9 h).mono fun e w' h9 => .inr (.inr ⟨by omega, h9⟩)
  have g1 := b9
  clear b9
  by_cases b9 : b ≥ (k : Int)
  · have e1 : refE k 6 a b v n ln = 15 := by unfold refE uA uB; rw [if_neg (by omega), if_pos (by omega)]
    have e2 : doE C k 6 t a b v n mm ln full = 15 := by unfold doE; rw [e1]; rfl
    rw [e2]
    exact (rdo_r6 t a b v n mm P ln cp full 6 _ (by omega) (by omega) (fun w => ruses6) g1 b9 h).mono fun e w' h9 => .inr (.inr ⟨by omega, h9⟩)
  have g2 := b9
  clear b9
  have e1 : refE k 6 a b v n ln = 0 := by unfold refE uA uB; rw [if_neg (by omega), if_neg (by omega), if_neg (by omega)]
  have e2 : doE C k 6 t a b v n mm ln full = 7 := by unfold doE; rw [if_pos e1]; simp [kE]
  rw [e2]
  exact (rdo_u6 t a b v n mm P ln cp full 7 g1 g2 (fun w hw => ruse6 t a b v n mm P ln cp hw) h).mono fun e w' h9 => .inr (.inr ⟨by omega, h9⟩)
theorem rdoK7 (t a b v n mm : Int) (P : Option Addr) (ln cp : Nat) (full : Bool) (hk64 : k ≤ 64) (hok : C.ok) (hmax : mm ≤ 9223372036854775807) (h : RZ r k W) : Calls Try.prog 11 #[rmv C none 0 0 (some ⟨r, 0, none⟩) k kc, opv 7 t a b v n mm P ln cp, .bool full] W (DPR C r k kc 7 a n mm (doE C k 7 t a b v n mm ln full) W) := by
  by_cases b9 : a < 0
  · have e1 : refE k 7 a b v n ln = 15 := by unfold refE uA uB; rw [if_neg (by omega), if_pos (by omega)]
    have e2 : doE C k 7 t a b v n mm ln full = 15 := by unfold doE; rw [e1]; rfl
    rw [e2]
    exact (rdo_r1 t a b v n mm P ln cp full 7 _ _ (by omega) (by omega) (fun w => ruses7) b9 h).mono fun e w' h9 => .inr (.inr ⟨by omega, h9⟩)
  have g0 := b9
  clear b9
  by_cases b9 : a ≥ (k : Int)
  · have e1 : refE k 7 a b v n ln = 15 := by unfold refE uA uB; rw [if_neg (by omega), if_pos (by omega)]
    have e2 : doE C k 7 t a b v n mm ln full = 15 := by unfold doE; rw [e1]; rfl
    rw [e2]
    exact (rdo_r2 t a b v n mm P ln cp full 7 _ _ (by omega) (by omega) (fun w => ruses7) g0 b9 h).mono fun e w' h9 => .inr (.inr ⟨by omega, h9⟩)
  have g00 := b9
  clear b9
  by_cases b9 : b < 0
  · have e1 : refE k 7 a b v n ln = 15 := by unfold refE uA uB; rw [if_neg (by omega), if_pos (by omega)]
    have e2 : doE C k 7 t a b v n mm ln full = 15 := by unfold doE; rw [e1]; rfl
    rw [e2]
    exact (rdo_r3 t a b v n mm P ln cp full 7 _ (by omega) (by omega) (fun w => ruses7) g0 g00 b9 h).mono fun e w' h9 => .inr (.inr ⟨by omega, h9⟩)
  have g1 := b9
  clear b9
  by_cases b9 : b ≥ (k : Int)
  · have e1 : refE k 7 a b v n ln = 15 := by unfold refE uA uB; rw [if_neg (by omega), if_pos (by omega)]
    have e2 : doE C k 7 t a b v n mm ln full = 15 := by unfold doE; rw [e1]; rfl
    rw [e2]
    exact (rdo_r4 t a b v n mm P ln cp full 7 _ (by omega) (by omega) (fun w => ruses7) g0 g00 g1 b9 h).mono fun e w' h9 => .inr (.inr ⟨by omega, h9⟩)
  have g2 := b9
  clear b9
  have e1 : refE k 7 a b v n ln = 0 := by unfold refE uA uB; rw [if_neg (by omega), if_neg (by omega), if_neg (by omega)]
  have e2 : doE C k 7 t a b v n mm ln full = 7 := by unfold doE; rw [if_pos e1]; simp [kE]
  rw [e2]
  exact (rdo_e7 t a b v n mm P ln cp full 7 g0 g00 g1 g2 (fun w hw => rder7 t a b v n mm P ln cp hw) h).mono fun e w' h9 => .inr (.inr ⟨by omega, h9⟩)
theorem rdoK8 (t a b v n mm : Int) (P : Option Addr) (ln cp : Nat) (full : Bool) (hk64 : k ≤ 64) (hok : C.ok) (hmax : mm ≤ 9223372036854775807) (h : RZ r k W) : Calls Try.prog 11 #[rmv C none 0 0 (some ⟨r, 0, none⟩) k kc, opv 8 t a b v n mm P ln cp, .bool full] W (DPR C r k kc 8 a n mm (doE C k 8 t a b v n mm ln full) W) := by
  by_cases b9 : a < 0
  · have e1 : refE k 8 a b v n ln = 15 := by unfold refE uA uB; rw [if_neg (by omega), if_pos (by omega)]
    have e2 : doE C k 8 t a b v n mm ln full = 15 := by unfold doE; rw [e1]; rfl
    rw [e2]
    exact (rdo_r1 t a b v n mm P ln cp full 8 _ _ (by omega) (by omega) (fun w => ruses8) b9 h).mono fun e w' h9 => .inr (.inr ⟨by omega, h9⟩)
  have g0 := b9
  clear b9
  by_cases b9 : a ≥ (k : Int)
  · have e1 : refE k 8 a b v n ln = 15 := by unfold refE uA uB; rw [if_neg (by omega), if_pos (by omega)]
    have e2 : doE C k 8 t a b v n mm ln full = 15 := by unfold doE; rw [e1]; rfl
    rw [e2]
    exact (rdo_r2 t a b v n mm P ln cp full 8 _ _ (by omega) (by omega) (fun w => ruses8) g0 b9 h).mono fun e w' h9 => .inr (.inr ⟨by omega, h9⟩)
  have g00 := b9
  clear b9
  by_cases b9 : b < 0
  · have e1 : refE k 8 a b v n ln = 15 := by unfold refE uA uB; rw [if_neg (by omega), if_pos (by omega)]
    have e2 : doE C k 8 t a b v n mm ln full = 15 := by unfold doE; rw [e1]; rfl
    rw [e2]
    exact (rdo_r3 t a b v n mm P ln cp full 8 _ (by omega) (by omega) (fun w => ruses8) g0 g00 b9 h).mono fun e w' h9 => .inr (.inr ⟨by omega, h9⟩)
  have g1 := b9
  clear b9
  by_cases b9 : b ≥ (k : Int)
  · have e1 : refE k 8 a b v n ln = 15 := by unfold refE uA uB; rw [if_neg (by omega), if_pos (by omega)]
    have e2 : doE C k 8 t a b v n mm ln full = 15 := by unfold doE; rw [e1]; rfl
    rw [e2]
    exact (rdo_r4 t a b v n mm P ln cp full 8 _ (by omega) (by omega) (fun w => ruses8) g0 g00 g1 b9 h).mono fun e w' h9 => .inr (.inr ⟨by omega, h9⟩)
  have g2 := b9
  clear b9
  have e1 : refE k 8 a b v n ln = 0 := by unfold refE uA uB; rw [if_neg (by omega), if_neg (by omega), if_neg (by omega)]
  have e2 : doE C k 8 t a b v n mm ln full = 7 := by unfold doE; rw [if_pos e1]; simp [kE]
  rw [e2]
  exact (rdo_e8 t a b v n mm P ln cp full 7 g0 g00 g1 g2 (fun w hw => rder8 t a b v n mm P ln cp hw) h).mono fun e w' h9 => .inr (.inr ⟨by omega, h9⟩)
theorem rdoK9 (t a b v n mm : Int) (P : Option Addr) (ln cp : Nat) (full : Bool) (hk64 : k ≤ 64) (hok : C.ok) (hmax : mm ≤ 9223372036854775807) (h : RZ r k W) : Calls Try.prog 11 #[rmv C none 0 0 (some ⟨r, 0, none⟩) k kc, opv 9 t a b v n mm P ln cp, .bool full] W (DPR C r k kc 9 a n mm (doE C k 9 t a b v n mm ln full) W) := by
  by_cases b9 : a < 0
  · have e1 : refE k 9 a b v n ln = 15 := by unfold refE uA uB; rw [if_neg (by omega), if_pos (by omega)]
    have e2 : doE C k 9 t a b v n mm ln full = 15 := by unfold doE; rw [e1]; rfl
    rw [e2]
    exact (rdo_r1 t a b v n mm P ln cp full 9 _ _ (by omega) (by omega) (fun w => ruses9) b9 h).mono fun e w' h9 => .inr (.inr ⟨by omega, h9⟩)
  have g0 := b9
  clear b9
  by_cases b9 : a ≥ (k : Int)
  · have e1 : refE k 9 a b v n ln = 15 := by unfold refE uA uB; rw [if_neg (by omega), if_pos (by omega)]
    have e2 : doE C k 9 t a b v n mm ln full = 15 := by unfold doE; rw [e1]; rfl
    rw [e2]
    exact (rdo_r2 t a b v n mm P ln cp full 9 _ _ (by omega) (by omega) (fun w => ruses9) g0 b9 h).mono fun e w' h9 => .inr (.inr ⟨by omega, h9⟩)
  have g00 := b9
  clear b9
  by_cases b9 : b < 0
  · have e1 : refE k 9 a b v n ln = 15 := by unfold refE uA uB; rw [if_neg (by omega), if_pos (by omega)]
    have e2 : doE C k 9 t a b v n mm ln full = 15 := by unfold doE; rw [e1]; rfl
    rw [e2]
    exact (rdo_r3 t a b v n mm P ln cp full 9 _ (by omega) (by omega) (fun w => ruses9) g0 g00 b9 h).mono fun e w' h9 => .inr (.inr ⟨by omega, h9⟩)
  have g1 := b9
  clear b9
  by_cases b9 : b ≥ (k : Int)
  · have e1 : refE k 9 a b v n ln = 15 := by unfold refE uA uB; rw [if_neg (by omega), if_pos (by omega)]
    have e2 : doE C k 9 t a b v n mm ln full = 15 := by unfold doE; rw [e1]; rfl
    rw [e2]
    exact (rdo_r4 t a b v n mm P ln cp full 9 _ (by omega) (by omega) (fun w => ruses9) g0 g00 g1 b9 h).mono fun e w' h9 => .inr (.inr ⟨by omega, h9⟩)
  have g2 := b9
  clear b9
  have e1 : refE k 9 a b v n ln = 0 := by unfold refE uA uB; rw [if_neg (by omega), if_neg (by omega), if_neg (by omega)]
  have e2 : doE C k 9 t a b v n mm ln full = 7 := by unfold doE; rw [if_pos e1]; simp [kE]
  rw [e2]
  exact (rdo_e9 t a b v n mm P ln cp full 7 g0 g00 g1 g2 (fun w hw => rder9 t a b v n mm P ln cp hw) h).mono fun e w' h9 => .inr (.inr ⟨by omega, h9⟩)
theorem rdoK10 (t a b v n mm : Int) (P : Option Addr) (ln cp : Nat) (full : Bool) (hk64 : k ≤ 64) (hok : C.ok) (hmax : mm ≤ 9223372036854775807) (h : RZ r k W) : Calls Try.prog 11 #[rmv C none 0 0 (some ⟨r, 0, none⟩) k kc, opv 10 t a b v n mm P ln cp, .bool full] W (DPR C r k kc 10 a n mm (doE C k 10 t a b v n mm ln full) W) := by
  by_cases b9 : a < 0
  · have e1 : refE k 10 a b v n ln = 15 := by unfold refE uA uB; rw [if_neg (by omega), if_pos (by omega)]
    have e2 : doE C k 10 t a b v n mm ln full = 15 := by unfold doE; rw [e1]; rfl
    rw [e2]
    exact (rdo_r1 t a b v n mm P ln cp full 10 _ _ (by omega) (by omega) (fun w => ruses10) b9 h).mono fun e w' h9 => .inr (.inr ⟨by omega, h9⟩)
  have g0 := b9
  clear b9
  by_cases b9 : a ≥ (k : Int)
  · have e1 : refE k 10 a b v n ln = 15 := by unfold refE uA uB; rw [if_neg (by omega), if_pos (by omega)]
    have e2 : doE C k 10 t a b v n mm ln full = 15 := by unfold doE; rw [e1]; rfl
    rw [e2]
    exact (rdo_r2 t a b v n mm P ln cp full 10 _ _ (by omega) (by omega) (fun w => ruses10) g0 b9 h).mono fun e w' h9 => .inr (.inr ⟨by omega, h9⟩)
  have g00 := b9
  clear b9
  by_cases b9 : b < 0
  · have e1 : refE k 10 a b v n ln = 15 := by unfold refE uA uB; rw [if_neg (by omega), if_pos (by omega)]
    have e2 : doE C k 10 t a b v n mm ln full = 15 := by unfold doE; rw [e1]; rfl
    rw [e2]
    exact (rdo_r3 t a b v n mm P ln cp full 10 _ (by omega) (by omega) (fun w => ruses10) g0 g00 b9 h).mono fun e w' h9 => .inr (.inr ⟨by omega, h9⟩)
  have g1 := b9
  clear b9
  by_cases b9 : b ≥ (k : Int)
  · have e1 : refE k 10 a b v n ln = 15 := by unfold refE uA uB; rw [if_neg (by omega), if_pos (by omega)]
    have e2 : doE C k 10 t a b v n mm ln full = 15 := by unfold doE; rw [e1]; rfl
    rw [e2]
    exact (rdo_r4 t a b v n mm P ln cp full 10 _ (by omega) (by omega) (fun w => ruses10) g0 g00 g1 b9 h).mono fun e w' h9 => .inr (.inr ⟨by omega, h9⟩)
  have g2 := b9
  clear b9
  have e1 : refE k 10 a b v n ln = 0 := by unfold refE uA uB; rw [if_neg (by omega), if_neg (by omega), if_neg (by omega)]
  have e2 : doE C k 10 t a b v n mm ln full = 0 := by unfold doE; rw [if_pos e1]; simp [kE]
  rw [e2]
  obtain ⟨aN, rfl⟩ : ∃ aN : Nat, a = (aN : Int) := ⟨a.toNat, by omega⟩
  exact (rdo_b10 t b v n mm P ln cp full aN (by omega) hk64 g0 g00 g1 g2 h).mono fun e w' h9 => .inr (.inl ⟨rfl, by omega, aN, rfl, by omega, h9⟩)
theorem rdoK11 (t a b v n mm : Int) (P : Option Addr) (ln cp : Nat) (full : Bool) (hk64 : k ≤ 64) (hok : C.ok) (hmax : mm ≤ 9223372036854775807) (h : RZ r k W) : Calls Try.prog 11 #[rmv C none 0 0 (some ⟨r, 0, none⟩) k kc, opv 11 t a b v n mm P ln cp, .bool full] W (DPR C r k kc 11 a n mm (doE C k 11 t a b v n mm ln full) W) := by
  by_cases b9 : b < 0
  · have e1 : refE k 11 a b v n ln = 15 := by unfold refE uA uB; rw [if_neg (by omega), if_pos (by omega)]
    have e2 : doE C k 11 t a b v n mm ln full = 15 := by unfold doE; rw [e1]; rfl
    rw [e2]
    exact (rdo_r5 t a b v n mm P ln cp full 11 _ (by omega) (by omega) (fun w => ruses11) b9 h).mono fun e w' h9 => .inr (.inr ⟨by omega, h9⟩)
  have g1 := b9
  clear b9
  by_cases b9 : b ≥ (k : Int)
  · have e1 : refE k 11 a b v n ln = 15 := by unfold refE uA uB; rw [if_neg (by omega), if_pos (by omega)]
    have e2 : doE C k 11 t a b v n mm ln full = 15 := by unfold doE; rw [e1]; rfl
    rw [e2]
    exact (rdo_r6 t a b v n mm P ln cp full 11 _ (by omega) (by omega) (fun w => ruses11) g1 b9 h).mono fun e w' h9 => .inr (.inr ⟨by omega, h9⟩)
  have g2 := b9
  clear b9
  by_cases hbig : n > 4096
  · have e1 : refE k 11 a b v n ln = 4 := by unfold refE uA uB; rw [if_neg (by omega), if_neg (by omega), if_pos (by omega)]
    have e2 : doE C k 11 t a b v n mm ln full = 4 := by unfold doE; rw [e1]; rfl
    rw [e2]
    exact (rdo_u11 t a b v n mm P ln cp full 4 g1 g2 (fun w hw => ruse11b t a b v n mm P ln cp hbig hw) h).mono fun e w' h9 => .inr (.inr ⟨by omega, h9⟩)
  have e1 : refE k 11 a b v n ln = 0 := by unfold refE uA uB; rw [if_neg (by omega), if_neg (by omega), if_neg (by omega)]
  have e2 : doE C k 11 t a b v n mm ln full = 7 := by unfold doE; rw [if_pos e1]; simp [kE]
  rw [e2]
  exact (rdo_u11 t a b v n mm P ln cp full 7 g1 g2 (fun w hw => ruse11 t a b v n mm P ln cp hbig hw) h).mono fun e w' h9 => .inr (.inr ⟨by omega, h9⟩)
theorem rdoK12 (t a b v n mm : Int) (P : Option Addr) (ln cp : Nat) (full : Bool) (hk64 : k ≤ 64) (hok : C.ok) (hmax : mm ≤ 9223372036854775807) (h : RZ r k W) : Calls Try.prog 11 #[rmv C none 0 0 (some ⟨r, 0, none⟩) k kc, opv 12 t a b v n mm P ln cp, .bool full] W (DPR C r k kc 12 a n mm (doE C k 12 t a b v n mm ln full) W) := by
  by_cases b9 : b < 0
  · have e1 : refE k 12 a b v n ln = 15 := by unfold refE uA uB; rw [if_neg (by omega), if_pos (by omega)]
    have e2 : doE C k 12 t a b v n mm ln full = 15 := by unfold doE; rw [e1]; rfl
    rw [e2]
    exact (rdo_r5 t a b v n mm P ln cp full 12 _ (by omega) (by omega) (fun w => ruses12) b9 h).mono fun e w' h9 => .inr (.inr ⟨by omega, h9⟩)
  have g1 := b9
  clear b9
  by_cases b9 : b ≥ (k : Int)
  · have e1 : refE k 12 a b v n ln = 15 := by unfold refE uA uB; rw [if_neg (by omega), if_pos (by omega)]
    have e2 : doE C k 12 t a b v n mm ln full = 15 := by unfold doE; rw [e1]; rfl
    rw [e2]
    exact (rdo_r6 t a b v n mm P ln cp full 12 _ (by omega) (by omega) (fun w => ruses12) g1 b9 h).mono fun e w' h9 => .inr (.inr ⟨by omega, h9⟩)
  have g2 := b9
  clear b9
  by_cases hbig : (ln : Int) > 4096
  · have e1 : refE k 12 a b v n ln = 4 := by unfold refE uA uB; rw [if_neg (by omega), if_neg (by omega), if_pos (by omega)]
    have e2 : doE C k 12 t a b v n mm ln full = 4 := by unfold doE; rw [e1]; rfl
    rw [e2]
    exact (rdo_u12 t a b v n mm P ln cp full 4 g1 g2 (fun w hw => ruse12b t a b v n mm P ln cp hbig hw) h).mono fun e w' h9 => .inr (.inr ⟨by omega, h9⟩)
  have e1 : refE k 12 a b v n ln = 0 := by unfold refE uA uB; rw [if_neg (by omega), if_neg (by omega), if_neg (by omega)]
  have e2 : doE C k 12 t a b v n mm ln full = 7 := by unfold doE; rw [if_pos e1]; simp [kE]
  rw [e2]
  exact (rdo_u12 t a b v n mm P ln cp full 7 g1 g2 (fun w hw => ruse12 t a b v n mm P ln cp hbig hw) h).mono fun e w' h9 => .inr (.inr ⟨by omega, h9⟩)
theorem rdoK13 (t a b v n mm : Int) (P : Option Addr) (ln cp : Nat) (full : Bool) (hk64 : k ≤ 64) (hok : C.ok) (hmax : mm ≤ 9223372036854775807) (h : RZ r k W) : Calls Try.prog 11 #[rmv C none 0 0 (some ⟨r, 0, none⟩) k kc, opv 13 t a b v n mm P ln cp, .bool full] W (DPR C r k kc 13 a n mm (doE C k 13 t a b v n mm ln full) W) := by
  by_cases b9 : a < 0
  · have e1 : refE k 13 a b v n ln = 15 := by unfold refE uA uB; rw [if_neg (by omega), if_pos (by omega)]
    have e2 : doE C k 13 t a b v n mm ln full = 15 := by unfold doE; rw [e1]; rfl
    rw [e2]
    exact (rdo_r1 t a b v n mm P ln cp full 13 _ _ (by omega) (by omega) (fun w => ruses13) b9 h).mono fun e w' h9 => .inr (.inr ⟨by omega, h9⟩)
  have g0 := b9
  clear b9
  by_cases b9 : a ≥ (k : Int)
  · have e1 : refE k 13 a b v n ln = 15 := by unfold refE uA uB; rw [if_neg (by omega), if_pos (by omega)]
    have e2 : doE C k 13 t a b v n mm ln full = 15 := by unfold doE; rw [e1]; rfl
    rw [e2]
    exact (rdo_r2 t a b v n mm P ln cp full 13 _ _ (by omega) (by omega) (fun w => ruses13) g0 b9 h).mono fun e w' h9 => .inr (.inr ⟨by omega, h9⟩)
  have g00 := b9
  clear b9
  by_cases b9 : b < 0
  · have e1 : refE k 13 a b v n ln = 15 := by unfold refE uA uB; rw [if_neg (by omega), if_pos (by omega)]
    have e2 : doE C k 13 t a b v n mm ln full = 15 := by unfold doE; rw [e1]; rfl
    rw [e2]
    exact (rdo_r3 t a b v n mm P ln cp full 13 _ (by omega) (by omega) (fun w => ruses13) g0 g00 b9 h).mono fun e w' h9 => .inr (.inr ⟨by omega, h9⟩)
  have g1 := b9
  clear b9
  by_cases b9 : b ≥ (k : Int)
  · have e1 : refE k 13 a b v n ln = 15 := by unfold refE uA uB; rw [if_neg (by omega), if_pos (by omega)]
    have e2 : doE C k 13 t a b v n mm ln full = 15 := by unfold doE; rw [e1]; rfl
    rw [e2]
    exact (rdo_r4 t a b v n mm P ln cp full 13 _ (by omega) (by omega) (fun w => ruses13) g0 g00 g1 b9 h).mono fun e w' h9 => .inr (.inr ⟨by omega, h9⟩)
  have g2 := b9
  clear b9
  have e1 : refE k 13 a b v n ln = 0 := by unfold refE uA uB; rw [if_neg (by omega), if_neg (by omega), if_neg (by omega)]
  have e2 : doE C k 13 t a b v n mm ln full = 7 := by unfold doE; rw [if_pos e1]; simp [kE]
  rw [e2]
  exact (rdo_e13 t a b v n mm P ln cp full 7 g0 g00 g1 g2 (fun w hw => rder13 t a b v n mm P ln cp hw) h).mono fun e w' h9 => .inr (.inr ⟨by omega, h9⟩)
theorem rdoK14 (t a b v n mm : Int) (P : Option Addr) (ln cp : Nat) (full : Bool) (hk64 : k ≤ 64) (hok : C.ok) (hmax : mm ≤ 9223372036854775807) (h : RZ r k W) : Calls Try.prog 11 #[rmv C none 0 0 (some ⟨r, 0, none⟩) k kc, opv 14 t a b v n mm P ln cp, .bool full] W (DPR C r k kc 14 a n mm (doE C k 14 t a b v n mm ln full) W) := by
  by_cases b9 : b < 0
  · have e1 : refE k 14 a b v n ln = 15 := by unfold refE uA uB; rw [if_neg (by omega), if_pos (by omega)]
    have e2 : doE C k 14 t a b v n mm ln full = 15 := by unfold doE; rw [e1]; rfl
    rw [e2]
    exact (rdo_r5 t a b v n mm P ln cp full 14 _ (by omega) (by omega) (fun w => ruses14) b9 h).mono fun e w' h9 => .inr (.inr ⟨by omega, h9⟩)
  have g1 := b9
  clear b9
  by_cases b9 : b ≥ (k : Int)
  · have e1 : refE k 14 a b v n ln = 15 := by unfold refE uA uB; rw [if_neg (by omega), if_pos (by omega)]
    have e2 : doE C k 14 t a b v n mm ln full = 15 := by unfold doE; rw [e1]; rfl
    rw [e2]
    exact (rdo_r6 t a b v n mm P ln cp full 14 _ (by omega) (by omega) (fun w => ruses14) g1 b9 h).mono fun e w' h9 => .inr (.inr ⟨by omega, h9⟩)
  have g2 := b9
  clear b9
  by_cases b9 : v < 0
  · have e1 : refE k 14 a b v n ln = 15 := by unfold refE uA uB; rw [if_neg (by omega), if_pos (by omega)]
    have e2 : doE C k 14 t a b v n mm ln full = 15 := by unfold doE; rw [e1]; rfl
    rw [e2]
    exact (rdo_r7 t a b v n mm P ln cp full 14 (by omega) (by omega) (fun w => ruses14) g1 g2 b9 h).mono fun e w' h9 => .inr (.inr ⟨by omega, h9⟩)
  have g3 := b9
  clear b9
  by_cases b9 : v ≥ (k : Int)
  · have e1 : refE k 14 a b v n ln = 15 := by unfold refE uA uB; rw [if_neg (by omega), if_pos (by omega)]
    have e2 : doE C k 14 t a b v n mm ln full = 15 := by unfold doE; rw [e1]; rfl
    rw [e2]
    exact (rdo_r8 t a b v n mm P ln cp full 14 (by omega) (by omega) (fun w => ruses14) g1 g2 g3 b9 h).mono fun e w' h9 => .inr (.inr ⟨by omega, h9⟩)
  have g4 := b9
  clear b9
  have e1 : refE k 14 a b v n ln = 0 := by unfold refE uA uB; rw [if_neg (by omega), if_neg (by omega), if_neg (by omega)]
  have e2 : doE C k 14 t a b v n mm ln full = 7 := by unfold doE; rw [if_pos e1]; simp [kE]
  rw [e2]
  exact (rdo_u14 t a b v n mm P ln cp full 7 g1 g2 g3 g4 (fun w hw => ruse14 t a b v n mm P ln cp hw) h).mono fun e w' h9 => .inr (.inr ⟨by omega, h9⟩)
theorem rdoK15 (t a b v n mm : Int) (P : Option Addr) (ln cp : Nat) (full : Bool) (hk64 : k ≤ 64) (hok : C.ok) (hmax : mm ≤ 9223372036854775807) (h : RZ r k W) : Calls Try.prog 11 #[rmv C none 0 0 (some ⟨r, 0, none⟩) k kc, opv 15 t a b v n mm P ln cp, .bool full] W (DPR C r k kc 15 a n mm (doE C k 15 t a b v n mm ln full) W) := by
  have e1 : refE k 15 a b v n ln = 0 := by unfold refE uA uB; rw [if_neg (by omega), if_neg (by omega), if_neg (by omega)]
  have e2 : doE C k 15 t a b v n mm ln full = 0 := by unfold doE; rw [if_pos e1]; simp [kE]
  rw [e2]
  exact (rdo_q15 t a b v n mm P ln cp full h).mono fun e w' h9 => .inr (.inr ⟨by omega, h9⟩)
theorem rdoK16 (t a b v n mm : Int) (P : Option Addr) (ln cp : Nat) (full : Bool) (hk64 : k ≤ 64) (hok : C.ok) (hmax : mm ≤ 9223372036854775807) (h : RZ r k W) : Calls Try.prog 11 #[rmv C none 0 0 (some ⟨r, 0, none⟩) k kc, opv 16 t a b v n mm P ln cp, .bool full] W (DPR C r k kc 16 a n mm (doE C k 16 t a b v n mm ln full) W) := by
  have e1 : refE k 16 a b v n ln = 0 := by unfold refE uA uB; rw [if_neg (by omega), if_neg (by omega), if_neg (by omega)]
  have e2 : doE C k 16 t a b v n mm ln full = 0 := by unfold doE; rw [if_pos e1]; simp [kE]
  rw [e2]
  exact (rdo_q16 t a b v n mm P ln cp full h).mono fun e w' h9 => .inr (.inr ⟨by omega, h9⟩)
theorem rdoK17 (t a b v n mm : Int) (P : Option Addr) (ln cp : Nat) (full : Bool) (hk64 : k ≤ 64) (hok : C.ok) (hmax : mm ≤ 9223372036854775807) (h : RZ r k W) : Calls Try.prog 11 #[rmv C none 0 0 (some ⟨r, 0, none⟩) k kc, opv 17 t a b v n mm P ln cp, .bool full] W (DPR C r k kc 17 a n mm (doE C k 17 t a b v n mm ln full) W) := by
  have e1 : refE k 17 a b v n ln = 0 := by unfold refE uA uB; rw [if_neg (by omega), if_neg (by omega), if_neg (by omega)]
  have e2 : doE C k 17 t a b v n mm ln full = 0 := by unfold doE; rw [if_pos e1]; simp [kE]
  rw [e2]
  exact (rdo_q17 t a b v n mm P ln cp full h).mono fun e w' h9 => .inr (.inr ⟨by omega, h9⟩)
theorem rdoK18 (t a b v n mm : Int) (P : Option Addr) (ln cp : Nat) (full : Bool) (hk64 : k ≤ 64) (hok : C.ok) (hmax : mm ≤ 9223372036854775807) (h : RZ r k W) : Calls Try.prog 11 #[rmv C none 0 0 (some ⟨r, 0, none⟩) k kc, opv 18 t a b v n mm P ln cp, .bool full] W (DPR C r k kc 18 a n mm (doE C k 18 t a b v n mm ln full) W) := by
  by_cases b9 : a < 0
  · have e1 : refE k 18 a b v n ln = 15 := by unfold refE uA uB; rw [if_neg (by omega), if_pos (by omega)]
    have e2 : doE C k 18 t a b v n mm ln full = 15 := by unfold doE; rw [e1]; rfl
    rw [e2]
    exact (rdo_r1 t a b v n mm P ln cp full 18 _ _ (by omega) (by omega) (fun w => ruses18) b9 h).mono fun e w' h9 => .inr (.inr ⟨by omega, h9⟩)
  have g0 := b9
  clear b9
  by_cases b9 : a ≥ (k : Int)
  · have e1 : refE k 18 a b v n ln = 15 := by unfold refE uA uB; rw [if_neg (by omega), if_pos (by omega)]
    have e2 : doE C k 18 t a b v n mm ln full = 15 := by unfold doE; rw [e1]; rfl
    rw [e2]
    exact (rdo_r2 t a b v n mm P ln cp full 18 _ _ (by omega) (by omega) (fun w => ruses18) g0 b9 h).mono fun e w' h9 => .inr (.inr ⟨by omega, h9⟩)
  have g00 := b9
  clear b9
  have e1 : refE k 18 a b v n ln = 0 := by unfold refE uA uB; rw [if_neg (by omega), if_neg (by omega), if_neg (by omega)]
  have e2 : doE C k 18 t a b v n mm ln full = 0 := by unfold doE; rw [if_pos e1]; simp [kE]
  rw [e2]
  obtain ⟨aN, rfl⟩ : ∃ aN : Nat, a = (aN : Int) := ⟨a.toNat, by omega⟩
  exact (rdo_b18 t b v n mm P ln cp full aN (by omega) hk64 g0 g00 h).mono fun e w' h9 => .inr (.inl ⟨rfl, by omega, aN, rfl, by omega, h9⟩)
theorem rdo_any (K t a b v n mm : Int) (P : Option Addr) (ln cp : Nat) (full : Bool) (hk64 : k ≤ 64) (hok : C.ok) (hmax : mm ≤ 9223372036854775807) (h : RZ r k W) : Calls Try.prog 11 #[rmv C none 0 0 (some ⟨r, 0, none⟩) k kc, opv K t a b v n mm P ln cp, .bool full] W (DPR C r k kc K a n mm (doE C k K t a b v n mm ln full) W) := by
  by_cases hk : K < 1 ∨ 18 < K
  · have e1 : refE k K a b v n ln = 1 := by unfold refE; rw [if_pos hk]
    have e2 : doE C k K t a b v n mm ln full = 1 := by unfold doE; rw [e1]; rfl
    rw [e2]
    by_cases k1 : K < 1
    · exact (rdo_o1 t a b v n mm P ln cp full K k1 h).mono fun e w' h9 => .inr (.inr ⟨by omega, h9⟩)
    · exact (rdo_o2 t a b v n mm P ln cp full K k1 (by omega) h).mono fun e w' h9 => .inr (.inr ⟨by omega, h9⟩)
  · rcases (show K = 1 ∨ K = 2 ∨ K = 3 ∨ K = 4 ∨ K = 5 ∨ K = 6 ∨ K = 7 ∨ K = 8 ∨ K = 9 ∨ K = 10 ∨ K = 11 ∨ K = 12 ∨ K = 13 ∨ K = 14 ∨ K = 15 ∨ K = 16 ∨ K = 17 ∨ K = 18 by omega) with rfl | rfl | rfl | rfl | rfl | rfl | rfl | rfl | rfl | rfl | rfl | rfl | rfl | rfl | rfl | rfl | rfl | rfl
    · exact rdoK1 t a b v n mm P ln cp full hk64 hok hmax h
    · exact rdoK2 t a b v n mm P ln cp full hk64 hok hmax h
    · exact rdoK3 t a b v n mm P ln cp full hk64 hok hmax h
    · exact rdoK4 t a b v n mm P ln cp full hk64 hok hmax h
    · exact rdoK5 t a b v n mm P ln cp full hk64 hok hmax h
    · exact rdoK6 t a b v n mm P ln cp full hk64 hok hmax h
    · exact rdoK7 t a b v n mm P ln cp full hk64 hok hmax h
    · exact rdoK8 t a b v n mm P ln cp full hk64 hok hmax h
    · exact rdoK9 t a b v n mm P ln cp full hk64 hok hmax h
    · exact rdoK10 t a b v n mm P ln cp full hk64 hok hmax h
    · exact rdoK11 t a b v n mm P ln cp full hk64 hok hmax h
    · exact rdoK12 t a b v n mm P ln cp full hk64 hok hmax h
    · exact rdoK13 t a b v n mm P ln cp full hk64 hok hmax h
    · exact rdoK14 t a b v n mm P ln cp full hk64 hok hmax h
    · exact rdoK15 t a b v n mm P ln cp full hk64 hok hmax h
    · exact rdoK16 t a b v n mm P ln cp full hk64 hok hmax h
    · exact rdoK17 t a b v n mm P ln cp full hk64 hok hmax h
    · exact rdoK18 t a b v n mm P ln cp full hk64 hok hmax h
end
end Go.Proofs.Ytanmmhbnjmglhaa
