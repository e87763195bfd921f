/- MoP. -/
import Derived.Test.YtanmmhbnjmglhaaZ21
import Derived.Deep.RegionHeld3
namespace Go.Proofs.Ytanmmhbnjmglhaa
set_option maxRecDepth 100000
open Go.RowKit Go.ChangeMaps Go.MapKept
set_option linter.unusedVariables false
set_option linter.unusedSimpArgs false
/-- The document's model as a value. -/
abbrev rmv (C : Cf) (L : Option Addr) (ll lc : Nat) (R : Option Addr) (k kc : Nat) : Value := .agg #[.int .i64 C.pg, .int .i64 C.rg, .int .i64 C.lg, .int .i64 C.th, .int .i64 C.ca, .int .i64 C.ba, .int .i64 C.sh, .int .i64 C.re, .int .i64 C.mo, .int .i64 C.fi, .int .u64 C.ky, .slice L ll lc, .slice R k kc]
section
variable {C : Cf} {L R : Option Addr} {ll lc k kc : Nat} {W : World}
theorem rask (t n : Int) (full : Bool) : Calls Try.prog 47 #[rmv C L ll lc R k kc, .int .i64 t, .int .i64 n, .bool full] W fun e w' => e = .returned (rE (askE C t n full)) ∧ Below W.heap.size W w' := by
  by_cases h1 : t < 0
  · have e1 : askE C t n full = 1 := by unfold askE; rw [if_pos (.inl h1)]
    rw [e1]
    clear e1
    go_enter Try.func47, Try.ntmps47
    go_wp2_with fail
    go_ret
    exact ⟨rfl, by first | exact Below.refl _ _ | exact alc0 _ _ | exact alc (alc0 _ _) _ | exact alc (alc (alc0 _ _) _) _⟩
  by_cases h2 : t ≥ C.th
  · have e1 : askE C t n full = 1 := by unfold askE; rw [if_pos (.inr (.inl h2))]
    rw [e1]
    clear e1
    go_enter Try.func47, Try.ntmps47
    go_wp2_with fail
    go_ret
    exact ⟨rfl, by first | exact Below.refl _ _ | exact alc0 _ _ | exact alc (alc0 _ _) _ | exact alc (alc (alc0 _ _) _) _⟩
  by_cases h3 : n < 1
  · have e1 : askE C t n full = 1 := by unfold askE; rw [if_pos (.inr (.inr h3))]
    rw [e1]
    clear e1
    go_enter Try.func47, Try.ntmps47
    go_wp2_with fail
    go_ret
    exact ⟨rfl, by first | exact Below.refl _ _ | exact alc0 _ _ | exact alc (alc0 _ _) _ | exact alc (alc (alc0 _ _) _) _⟩
  by_cases h4 : n > C.mo
  · have e1 : askE C t n full = 4 := by unfold askE; rw [if_neg (by omega), if_pos (by omega)]
    rw [e1]
    clear e1
    go_enter Try.func47, Try.ntmps47
    go_wp2_with fail
    go_ret
    exact ⟨rfl, by first | exact Below.refl _ _ | exact alc0 _ _ | exact alc (alc0 _ _) _ | exact alc (alc (alc0 _ _) _) _⟩
  by_cases h5 : full = true
  · have e1 : askE C t n full = 13 := by unfold askE; rw [if_neg (by omega), if_neg (by omega), if_pos h5]
    rw [e1]
    subst h5
    clear e1
    go_enter Try.func47, Try.ntmps47
    go_wp2_with fail
    go_ret
    exact ⟨rfl, by first | exact Below.refl _ _ | exact alc0 _ _ | exact alc (alc0 _ _) _ | exact alc (alc (alc0 _ _) _) _⟩
  have h6 : full = false := by simpa using h5
  have e1 : askE C t n full = 0 := by unfold askE; rw [if_neg (by omega), if_neg (by omega), if_neg h5]
  rw [e1]
  subst h6
  clear h5
  clear e1
  go_enter Try.func47, Try.ntmps47
  go_wp2_with fail
  go_ret
  exact ⟨rfl, by first | exact Below.refl _ _ | exact alc0 _ _ | exact alc (alc0 _ _) _ | exact alc (alc (alc0 _ _) _) _⟩
theorem rgood0 : Calls Try.prog 32 #[rmv C L ll lc R k kc, z5] W fun e w' => e = .returned z5 ∧ Below W.heap.size W w' := by
  go_enter Try.func32, Try.ntmps32
  go_wp2_with fail
  refine bodyPost_ret (v := z5) (by simp [results, Try.results32, go_sem]) rfl ⟨rfl, ?_⟩
  exact alc (alc (alc0 W _) _) _
theorem ruses1 : Calls Try.prog 25 #[.int .i64 1] W fun e w' => e = .returned (.tuple #[.bool true, .bool false, .bool false]) ∧ W = w' := by
  go_enter Try.func25, Try.ntmps25
  go_wp2
  exact bodyPost_ret (v := .tuple #[.bool true, .bool false, .bool false]) (by simp [results, Try.results25, go_sem]) rfl ⟨rfl, rfl⟩
theorem ruses2 : Calls Try.prog 25 #[.int .i64 2] W fun e w' => e = .returned (.tuple #[.bool true, .bool false, .bool false]) ∧ W = w' := by
  go_enter Try.func25, Try.ntmps25
  go_wp2
  exact bodyPost_ret (v := .tuple #[.bool true, .bool false, .bool false]) (by simp [results, Try.results25, go_sem]) rfl ⟨rfl, rfl⟩
theorem ruses3 : Calls Try.prog 25 #[.int .i64 3] W fun e w' => e = .returned (.tuple #[.bool true, .bool false, .bool false]) ∧ W = w' := by
  go_enter Try.func25, Try.ntmps25
  go_wp2
  exact bodyPost_ret (v := .tuple #[.bool true, .bool false, .bool false]) (by simp [results, Try.results25, go_sem]) rfl ⟨rfl, rfl⟩
theorem ruses4 : Calls Try.prog 25 #[.int .i64 4] W fun e w' => e = .returned (.tuple #[.bool false, .bool true, .bool false]) ∧ W = w' := by
  go_enter Try.func25, Try.ntmps25
  go_wp2
  exact bodyPost_ret (v := .tuple #[.bool false, .bool true, .bool false]) (by simp [results, Try.results25, go_sem]) rfl ⟨rfl, rfl⟩
theorem ruses5 : Calls Try.prog 25 #[.int .i64 5] W fun e w' => e = .returned (.tuple #[.bool true, .bool true, .bool false]) ∧ W = w' := by
  go_enter Try.func25, Try.ntmps25
  go_wp2
  exact bodyPost_ret (v := .tuple #[.bool true, .bool true, .bool false]) (by simp [results, Try.results25, go_sem]) rfl ⟨rfl, rfl⟩
theorem ruses6 : Calls Try.prog 25 #[.int .i64 6] W fun e w' => e = .returned (.tuple #[.bool false, .bool true, .bool false]) ∧ W = w' := by
  go_enter Try.func25, Try.ntmps25
  go_wp2
  exact bodyPost_ret (v := .tuple #[.bool false, .bool true, .bool false]) (by simp [results, Try.results25, go_sem]) rfl ⟨rfl, rfl⟩
theorem ruses7 : Calls Try.prog 25 #[.int .i64 7] W fun e w' => e = .returned (.tuple #[.bool true, .bool true, .bool false]) ∧ W = w' := by
  go_enter Try.func25, Try.ntmps25
  go_wp2
  exact bodyPost_ret (v := .tuple #[.bool true, .bool true, .bool false]) (by simp [results, Try.results25, go_sem]) rfl ⟨rfl, rfl⟩
theorem ruses8 : Calls Try.prog 25 #[.int .i64 8] W fun e w' => e = .returned (.tuple #[.bool true, .bool true, .bool false]) ∧ W = w' := by
  go_enter Try.func25, Try.ntmps25
  go_wp2
  exact bodyPost_ret (v := .tuple #[.bool true, .bool true, .bool false]) (by simp [results, Try.results25, go_sem]) rfl ⟨rfl, rfl⟩
theorem ruses9 : Calls Try.prog 25 #[.int .i64 9] W fun e w' => e = .returned (.tuple #[.bool true, .bool true, .bool false]) ∧ W = w' := by
  go_enter Try.func25, Try.ntmps25
  go_wp2
  exact bodyPost_ret (v := .tuple #[.bool true, .bool true, .bool false]) (by simp [results, Try.results25, go_sem]) rfl ⟨rfl, rfl⟩
theorem ruses10 : Calls Try.prog 25 #[.int .i64 10] W fun e w' => e = .returned (.tuple #[.bool true, .bool true, .bool false]) ∧ W = w' := by
  go_enter Try.func25, Try.ntmps25
  go_wp2
  exact bodyPost_ret (v := .tuple #[.bool true, .bool true, .bool false]) (by simp [results, Try.results25, go_sem]) rfl ⟨rfl, rfl⟩
theorem ruses11 : Calls Try.prog 25 #[.int .i64 11] W fun e w' => e = .returned (.tuple #[.bool false, .bool true, .bool false]) ∧ W = w' := by
  go_enter Try.func25, Try.ntmps25
  go_wp2
  exact bodyPost_ret (v := .tuple #[.bool false, .bool true, .bool false]) (by simp [results, Try.results25, go_sem]) rfl ⟨rfl, rfl⟩
theorem ruses12 : Calls Try.prog 25 #[.int .i64 12] W fun e w' => e = .returned (.tuple #[.bool false, .bool true, .bool false]) ∧ W = w' := by
  go_enter Try.func25, Try.ntmps25
  go_wp2
  exact bodyPost_ret (v := .tuple #[.bool false, .bool true, .bool false]) (by simp [results, Try.results25, go_sem]) rfl ⟨rfl, rfl⟩
theorem ruses13 : Calls Try.prog 25 #[.int .i64 13] W fun e w' => e = .returned (.tuple #[.bool true, .bool true, .bool false]) ∧ W = w' := by
  go_enter Try.func25, Try.ntmps25
  go_wp2
  exact bodyPost_ret (v := .tuple #[.bool true, .bool true, .bool false]) (by simp [results, Try.results25, go_sem]) rfl ⟨rfl, rfl⟩
theorem ruses14 : Calls Try.prog 25 #[.int .i64 14] W fun e w' => e = .returned (.tuple #[.bool false, .bool true, .bool true]) ∧ W = w' := by
  go_enter Try.func25, Try.ntmps25
  go_wp2
  exact bodyPost_ret (v := .tuple #[.bool false, .bool true, .bool true]) (by simp [results, Try.results25, go_sem]) rfl ⟨rfl, rfl⟩
theorem ruses15 : Calls Try.prog 25 #[.int .i64 15] W fun e w' => e = .returned (.tuple #[.bool false, .bool false, .bool false]) ∧ W = w' := by
  go_enter Try.func25, Try.ntmps25
  go_wp2
  exact bodyPost_ret (v := .tuple #[.bool false, .bool false, .bool false]) (by simp [results, Try.results25, go_sem]) rfl ⟨rfl, rfl⟩
theorem ruses16 : Calls Try.prog 25 #[.int .i64 16] W fun e w' => e = .returned (.tuple #[.bool false, .bool false, .bool false]) ∧ W = w' := by
  go_enter Try.func25, Try.ntmps25
  go_wp2
  exact bodyPost_ret (v := .tuple #[.bool false, .bool false, .bool false]) (by simp [results, Try.results25, go_sem]) rfl ⟨rfl, rfl⟩
theorem ruses17 : Calls Try.prog 25 #[.int .i64 17] W fun e w' => e = .returned (.tuple #[.bool false, .bool false, .bool false]) ∧ W = w' := by
  go_enter Try.func25, Try.ntmps25
  go_wp2
  exact bodyPost_ret (v := .tuple #[.bool false, .bool false, .bool false]) (by simp [results, Try.results25, go_sem]) rfl ⟨rfl, rfl⟩
theorem ruses18 : Calls Try.prog 25 #[.int .i64 18] W fun e w' => e = .returned (.tuple #[.bool true, .bool false, .bool false]) ∧ W = w' := by
  go_enter Try.func25, Try.ntmps25
  go_wp2
  exact bodyPost_ret (v := .tuple #[.bool true, .bool false, .bool false]) (by simp [results, Try.results25, go_sem]) rfl ⟨rfl, rfl⟩
end
end Go.Proofs.Ytanmmhbnjmglhaa
