/- Guard. -/
import Derived.Test.YtanmmhbnjmglhaaZ04
namespace Go.Proofs.Ytanmmhbnjmglhaa
open Go.RowKit
set_option linter.unusedVariables false
def malB (a : Int) : Bool := powB a && decide (a ≤ 256)
theorem pow_list {a : Int} (h : malB a = true) : a = 1 ∨ a = 2 ∨ a = 4 ∨ a = 8 ∨ a = 16 ∨ a = 32 ∨ a = 64 ∨ a = 128 ∨ a = 256 := by
  have key : ∀ n : Fin 257, malB (n.val : Int) = true → n.val = 1 ∨ n.val = 2 ∨ n.val = 4 ∨ n.val = 8 ∨ n.val = 16 ∨ n.val = 32 ∨ n.val = 64 ∨ n.val = 128 ∨ n.val = 256 := by decide +kernel
  have h0 : 0 < a ∧ a ≤ 256 := by
    simp only [malB, powB, Bool.and_eq_true, decide_eq_true_eq] at h
    omega
  obtain ⟨n, rfl⟩ : ∃ n : Fin 257, a = (n.val : Int) := ⟨⟨a.toNat, by omega⟩, (Int.toNat_of_nonneg (by omega)).symm⟩
  have := key n h
  omega
theorem malB_list {a : Int} (h : a = 1 ∨ a = 2 ∨ a = 4 ∨ a = 8 ∨ a = 16 ∨ a = 32 ∨ a = 64 ∨ a = 128 ∨ a = 256) : malB a = true := by
  rcases h with rfl | rfl | rfl | rfl | rfl | rfl | rfl | rfl | rfl <;> decide
theorem mal_any (a : Int) (w : World) (ha : a ≤ 9223372036854775807) :
    Calls Try.prog 72 #[.int .i64 a] w fun e w' => e = .returned (.bool (malB a)) ∧ w = w' := by
  have hd : malB a = (powB a && decide (a ≤ 256)) := rfl
  have HD := Lib.hid hd; clear hd
  cases hp : powB a
  · have HP := Lib.hid hp; clear hp
    go_enter Try.func72, Try.ntmps72
    go_wp2_with fail
    refine (power_any _ _ ha).mono ?_
    rintro e w' ⟨rfl, rfl⟩
    rw [HP.out]
    go_wp2
    go_ret
    exact ⟨ret_bool (by rw [HD.out, HP.out]; rfl), rfl⟩
  · have HP := Lib.hid hp; clear hp
    go_enter Try.func72, Try.ntmps72
    go_wp2_with fail
    refine (power_any _ _ ha).mono ?_
    rintro e w' ⟨rfl, rfl⟩
    rw [HP.out]
    go_wp2
    all_goals
      go_ret
      exact ⟨ret_bool (by rw [HD.out, HP.out]; simp [*]), rfl⟩
theorem mal_is (r : Bool) (a : Int) (w : World) (ha : a ≤ 9223372036854775807) (h : malB a = r) :
    Calls Try.prog 72 #[.int .i64 a] w fun e w' => e = .returned (.bool r) ∧ w = w' := by
  subst h; exact mal_any a w ha
theorem lead_yes (a : Int) (w : World) (h : malB a = true) :
    Calls Try.prog 74 #[.int .i64 a] w fun e w' => e = .returned (.int .i64 (max a 16)) ∧ w = w' := by
  have hl := pow_list h
  have hu : upI 16 a = max a 16 := by rcases hl with rfl | rfl | rfl | rfl | rfl | rfl | rfl | rfl | rfl <;> decide
  have HU := Lib.hid hu
  have ha : a ≤ 256 := by omega
  clear hl hu h
  go_enter Try.func74, Try.ntmps74
  go_wp2_with fail
  refine (up_any _ _ _ (by omega) (by omega)).mono ?_
  rintro e w' ⟨rfl, rfl⟩
  rw [HU.out]
  go_wp2
  go_ret
  exact ⟨rfl, rfl⟩
def needI (n a : Int) : Int := partsI (max a 16 + n) 256
theorem need_yes (n a : Int) (w : World) (h : malB a = true) (h1 : 1 ≤ n) (hn : n ≤ 16384) :
    Calls Try.prog 68 #[.int .i64 n, .int .i64 a] w fun e w' => e = .returned (.tuple #[.int .i64 (needI n a), .int .i64 0]) ∧ w = w' := by
  have HM := Lib.hid h
  have hl := pow_list h
  have ha : 1 ≤ a ∧ a ≤ 256 := by omega
  have hd : needI n a = partsI (max a 16 + n) 256 := rfl
  have HD := Lib.hid hd
  clear h hl hd
  obtain ⟨ha1, ha2⟩ := ha
  obtain ⟨L, hL⟩ : ∃ L, max a 16 = L := ⟨_, rfl⟩
  have l1 : 16 ≤ L ∧ L ≤ 256 := by omega
  obtain ⟨l1, l2⟩ := l1
  have HL := Lib.hid hL
  clear hL
  go_enter Try.func68, Try.ntmps68
  go_wp2_with fail
  refine (mal_is _ _ _ (by omega) HM.out).mono ?_
  rintro e w' ⟨rfl, rfl⟩
  go_wp2_with fail
  refine (lead_yes _ _ HM.out).mono ?_
  rintro e w' ⟨rfl, rfl⟩
  rw [HL.out]
  go_wp2_with fail
  refine (parts_any _ _ _ (by omega) (by omega)).mono ?_
  rintro e w' ⟨rfl, rfl⟩
  go_wp2
  go_ret2
  exact ⟨by rw [HD.out, HL.out]; rfl, rfl⟩
theorem needI_bd {n a : Int} (h : malB a = true) (h1 : 1 ≤ n) (hn : n ≤ 16384) :
    1 ≤ needI n a ∧ needI n a ≤ 65 ∧ max a 16 + n ≤ 256 * needI n a ∧ 256 * (needI n a - 1) < max a 16 + n := by
  have hl := pow_list h
  rw [needI, partsI, if_neg (by omega)]
  omega
end Go.Proofs.Ytanmmhbnjmglhaa
