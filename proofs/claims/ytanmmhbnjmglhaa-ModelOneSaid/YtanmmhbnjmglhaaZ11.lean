/- MoE. -/
import Derived.Test.YtanmmhbnjmglhaaZ10
import Derived.Deep.RegionHeld3
namespace Go.Proofs.Ytanmmhbnjmglhaa
set_option maxRecDepth 100000
open Go.RowKit Go.ChangeMaps Go.MapKept
set_option linter.unusedVariables false
set_option linter.unusedSimpArgs false
abbrev opv (k t a b v n mm : Int) (P : Option Addr) (ln cp : Nat) : Value := .agg #[.int .i64 k, .int .i64 t, .int .i64 a, .int .i64 b, .int .i64 v, .int .i64 n, .int .i64 mm, .slice P ln cp]
theorem kreg1 (t a b v n mm : Int) (P : Option Addr) (ln cp : Nat) (W : World) : Calls Try.prog 33 #[opv 1 t a b v n mm P ln cp] W fun e w' => ∃ g, e = .returned (.tuple #[.slice (some ⟨g, 0, none⟩) 1 1, .bool true]) ∧ g < w'.heap.size ∧ w'.cell? ⟨g, 0, none⟩ = some (.int .i64 a) ∧ Below W.heap.size W w' := by
  go_enter Try.func33, Try.ntmps33
  go_wp2_with fail
  refine bodyPost_ret (v := .tuple #[.slice (some ⟨W.heap.size + 1, 0, none⟩) 1 1, .bool true]) (by simp [results, Try.results33, go_sem]) rfl ⟨_, rfl, by simp, by simp, alc (alc0 _ _) _⟩
theorem kreg2 (t a b v n mm : Int) (P : Option Addr) (ln cp : Nat) (W : World) : Calls Try.prog 33 #[opv 2 t a b v n mm P ln cp] W fun e w' => ∃ g, e = .returned (.tuple #[.slice (some ⟨g, 0, none⟩) 1 1, .bool true]) ∧ g < w'.heap.size ∧ w'.cell? ⟨g, 0, none⟩ = some (.int .i64 a) ∧ Below W.heap.size W w' := by
  go_enter Try.func33, Try.ntmps33
  go_wp2_with fail
  refine bodyPost_ret (v := .tuple #[.slice (some ⟨W.heap.size + 1, 0, none⟩) 1 1, .bool true]) (by simp [results, Try.results33, go_sem]) rfl ⟨_, rfl, by simp, by simp, alc (alc0 _ _) _⟩
theorem kreg3 (t a b v n mm : Int) (P : Option Addr) (ln cp : Nat) (W : World) : Calls Try.prog 33 #[opv 3 t a b v n mm P ln cp] W fun e w' => ∃ g, e = .returned (.tuple #[.slice (some ⟨g, 0, none⟩) 1 1, .bool true]) ∧ g < w'.heap.size ∧ w'.cell? ⟨g, 0, none⟩ = some (.int .i64 a) ∧ Below W.heap.size W w' := by
  go_enter Try.func33, Try.ntmps33
  go_wp2_with fail
  refine bodyPost_ret (v := .tuple #[.slice (some ⟨W.heap.size + 1, 0, none⟩) 1 1, .bool true]) (by simp [results, Try.results33, go_sem]) rfl ⟨_, rfl, by simp, by simp, alc (alc0 _ _) _⟩
theorem kreg4 (t a b v n mm : Int) (P : Option Addr) (ln cp : Nat) (W : World) : Calls Try.prog 33 #[opv 4 t a b v n mm P ln cp] W fun e w' => ∃ g, e = .returned (.tuple #[.slice (some ⟨g, 0, none⟩) 1 1, .bool true]) ∧ g < w'.heap.size ∧ w'.cell? ⟨g, 0, none⟩ = some (.int .i64 b) ∧ Below W.heap.size W w' := by
  go_enter Try.func33, Try.ntmps33
  go_wp2_with fail
  refine bodyPost_ret (v := .tuple #[.slice (some ⟨W.heap.size + 1, 0, none⟩) 1 1, .bool true]) (by simp [results, Try.results33, go_sem]) rfl ⟨_, rfl, by simp, by simp, alc (alc0 _ _) _⟩
theorem kreg5 (t a b v n mm : Int) (P : Option Addr) (ln cp : Nat) (W : World) : Calls Try.prog 33 #[opv 5 t a b v n mm P ln cp] W fun e w' => ∃ g, e = .returned (.tuple #[.slice (some ⟨g, 0, none⟩) 2 2, .bool true]) ∧ g < w'.heap.size ∧ w'.cell? ⟨g, 0, none⟩ = some (.int .i64 a) ∧ w'.cell? ⟨g, 1, none⟩ = some (.int .i64 b) ∧ Below W.heap.size W w' := by
  go_enter Try.func33, Try.ntmps33
  go_wp2_with fail
  refine bodyPost_ret (v := .tuple #[.slice (some ⟨W.heap.size + 1, 0, none⟩) 2 2, .bool true]) (by simp [results, Try.results33, go_sem]) rfl ⟨_, rfl, by simp, by simp, by simp, alc (alc0 _ _) _⟩
theorem kreg6 (t a b v n mm : Int) (P : Option Addr) (ln cp : Nat) (W : World) : Calls Try.prog 33 #[opv 6 t a b v n mm P ln cp] W fun e w' => ∃ g, e = .returned (.tuple #[.slice (some ⟨g, 0, none⟩) 1 1, .bool true]) ∧ g < w'.heap.size ∧ w'.cell? ⟨g, 0, none⟩ = some (.int .i64 b) ∧ Below W.heap.size W w' := by
  go_enter Try.func33, Try.ntmps33
  go_wp2_with fail
  refine bodyPost_ret (v := .tuple #[.slice (some ⟨W.heap.size + 1, 0, none⟩) 1 1, .bool true]) (by simp [results, Try.results33, go_sem]) rfl ⟨_, rfl, by simp, by simp, alc (alc0 _ _) _⟩
theorem kreg7 (t a b v n mm : Int) (P : Option Addr) (ln cp : Nat) (W : World) : Calls Try.prog 33 #[opv 7 t a b v n mm P ln cp] W fun e w' => ∃ g, e = .returned (.tuple #[.slice (some ⟨g, 0, none⟩) 2 2, .bool true]) ∧ g < w'.heap.size ∧ w'.cell? ⟨g, 0, none⟩ = some (.int .i64 a) ∧ w'.cell? ⟨g, 1, none⟩ = some (.int .i64 b) ∧ Below W.heap.size W w' := by
  go_enter Try.func33, Try.ntmps33
  go_wp2_with fail
  refine bodyPost_ret (v := .tuple #[.slice (some ⟨W.heap.size + 1, 0, none⟩) 2 2, .bool true]) (by simp [results, Try.results33, go_sem]) rfl ⟨_, rfl, by simp, by simp, by simp, alc (alc0 _ _) _⟩
theorem kreg8 (t a b v n mm : Int) (P : Option Addr) (ln cp : Nat) (W : World) : Calls Try.prog 33 #[opv 8 t a b v n mm P ln cp] W fun e w' => ∃ g, e = .returned (.tuple #[.slice (some ⟨g, 0, none⟩) 2 2, .bool true]) ∧ g < w'.heap.size ∧ w'.cell? ⟨g, 0, none⟩ = some (.int .i64 a) ∧ w'.cell? ⟨g, 1, none⟩ = some (.int .i64 b) ∧ Below W.heap.size W w' := by
  go_enter Try.func33, Try.ntmps33
  go_wp2_with fail
  refine bodyPost_ret (v := .tuple #[.slice (some ⟨W.heap.size + 1, 0, none⟩) 2 2, .bool true]) (by simp [results, Try.results33, go_sem]) rfl ⟨_, rfl, by simp, by simp, by simp, alc (alc0 _ _) _⟩
theorem kreg9 (t a b v n mm : Int) (P : Option Addr) (ln cp : Nat) (W : World) : Calls Try.prog 33 #[opv 9 t a b v n mm P ln cp] W fun e w' => ∃ g, e = .returned (.tuple #[.slice (some ⟨g, 0, none⟩) 2 2, .bool true]) ∧ g < w'.heap.size ∧ w'.cell? ⟨g, 0, none⟩ = some (.int .i64 a) ∧ w'.cell? ⟨g, 1, none⟩ = some (.int .i64 b) ∧ Below W.heap.size W w' := by
  go_enter Try.func33, Try.ntmps33
  go_wp2_with fail
  refine bodyPost_ret (v := .tuple #[.slice (some ⟨W.heap.size + 1, 0, none⟩) 2 2, .bool true]) (by simp [results, Try.results33, go_sem]) rfl ⟨_, rfl, by simp, by simp, by simp, alc (alc0 _ _) _⟩
theorem kreg10 (t a b v n mm : Int) (P : Option Addr) (ln cp : Nat) (W : World) : Calls Try.prog 33 #[opv 10 t a b v n mm P ln cp] W fun e w' => ∃ g, e = .returned (.tuple #[.slice (some ⟨g, 0, none⟩) 2 2, .bool true]) ∧ g < w'.heap.size ∧ w'.cell? ⟨g, 0, none⟩ = some (.int .i64 a) ∧ w'.cell? ⟨g, 1, none⟩ = some (.int .i64 b) ∧ Below W.heap.size W w' := by
  go_enter Try.func33, Try.ntmps33
  go_wp2_with fail
  refine bodyPost_ret (v := .tuple #[.slice (some ⟨W.heap.size + 1, 0, none⟩) 2 2, .bool true]) (by simp [results, Try.results33, go_sem]) rfl ⟨_, rfl, by simp, by simp, by simp, alc (alc0 _ _) _⟩
theorem kreg11 (t a b v n mm : Int) (P : Option Addr) (ln cp : Nat) (W : World) : Calls Try.prog 33 #[opv 11 t a b v n mm P ln cp] W fun e w' => ∃ g, e = .returned (.tuple #[.slice (some ⟨g, 0, none⟩) 1 1, .bool true]) ∧ g < w'.heap.size ∧ w'.cell? ⟨g, 0, none⟩ = some (.int .i64 b) ∧ Below W.heap.size W w' := by
  go_enter Try.func33, Try.ntmps33
  go_wp2_with fail
  refine bodyPost_ret (v := .tuple #[.slice (some ⟨W.heap.size + 1, 0, none⟩) 1 1, .bool true]) (by simp [results, Try.results33, go_sem]) rfl ⟨_, rfl, by simp, by simp, alc (alc0 _ _) _⟩
theorem kreg12 (t a b v n mm : Int) (P : Option Addr) (ln cp : Nat) (W : World) : Calls Try.prog 33 #[opv 12 t a b v n mm P ln cp] W fun e w' => ∃ g, e = .returned (.tuple #[.slice (some ⟨g, 0, none⟩) 1 1, .bool true]) ∧ g < w'.heap.size ∧ w'.cell? ⟨g, 0, none⟩ = some (.int .i64 b) ∧ Below W.heap.size W w' := by
  go_enter Try.func33, Try.ntmps33
  go_wp2_with fail
  refine bodyPost_ret (v := .tuple #[.slice (some ⟨W.heap.size + 1, 0, none⟩) 1 1, .bool true]) (by simp [results, Try.results33, go_sem]) rfl ⟨_, rfl, by simp, by simp, alc (alc0 _ _) _⟩
theorem kreg13 (t a b v n mm : Int) (P : Option Addr) (ln cp : Nat) (W : World) : Calls Try.prog 33 #[opv 13 t a b v n mm P ln cp] W fun e w' => ∃ g, e = .returned (.tuple #[.slice (some ⟨g, 0, none⟩) 2 2, .bool true]) ∧ g < w'.heap.size ∧ w'.cell? ⟨g, 0, none⟩ = some (.int .i64 a) ∧ w'.cell? ⟨g, 1, none⟩ = some (.int .i64 b) ∧ Below W.heap.size W w' := by
  go_enter Try.func33, Try.ntmps33
  go_wp2_with fail
  refine bodyPost_ret (v := .tuple #[.slice (some ⟨W.heap.size + 1, 0, none⟩) 2 2, .bool true]) (by simp [results, Try.results33, go_sem]) rfl ⟨_, rfl, by simp, by simp, by simp, alc (alc0 _ _) _⟩
theorem kreg14 (t a b v n mm : Int) (P : Option Addr) (ln cp : Nat) (W : World) : Calls Try.prog 33 #[opv 14 t a b v n mm P ln cp] W fun e w' => ∃ g, e = .returned (.tuple #[.slice (some ⟨g, 0, none⟩) 2 2, .bool true]) ∧ g < w'.heap.size ∧ w'.cell? ⟨g, 0, none⟩ = some (.int .i64 b) ∧ w'.cell? ⟨g, 1, none⟩ = some (.int .i64 v) ∧ Below W.heap.size W w' := by
  go_enter Try.func33, Try.ntmps33
  go_wp2_with fail
  refine bodyPost_ret (v := .tuple #[.slice (some ⟨W.heap.size + 1, 0, none⟩) 2 2, .bool true]) (by simp [results, Try.results33, go_sem]) rfl ⟨_, rfl, by simp, by simp, by simp, alc (alc0 _ _) _⟩
theorem kreg15 (t a b v n mm : Int) (P : Option Addr) (ln cp : Nat) (W : World) : Calls Try.prog 33 #[opv 15 t a b v n mm P ln cp] W fun e w' => e = .returned (.tuple #[.slice none 0 0, .bool true]) ∧ Below W.heap.size W w' := by
  go_enter Try.func33, Try.ntmps33
  go_wp2_with fail
  refine bodyPost_ret (v := .tuple #[.slice none 0 0, .bool true]) (by simp [results, Try.results33, go_sem]) rfl ⟨rfl, alc0 _ _⟩
theorem kreg16 (t a b v n mm : Int) (P : Option Addr) (ln cp : Nat) (W : World) : Calls Try.prog 33 #[opv 16 t a b v n mm P ln cp] W fun e w' => e = .returned (.tuple #[.slice none 0 0, .bool true]) ∧ Below W.heap.size W w' := by
  go_enter Try.func33, Try.ntmps33
  go_wp2_with fail
  refine bodyPost_ret (v := .tuple #[.slice none 0 0, .bool true]) (by simp [results, Try.results33, go_sem]) rfl ⟨rfl, alc0 _ _⟩
theorem kreg17 (t a b v n mm : Int) (P : Option Addr) (ln cp : Nat) (W : World) : Calls Try.prog 33 #[opv 17 t a b v n mm P ln cp] W fun e w' => e = .returned (.tuple #[.slice none 0 0, .bool true]) ∧ Below W.heap.size W w' := by
  go_enter Try.func33, Try.ntmps33
  go_wp2_with fail
  refine bodyPost_ret (v := .tuple #[.slice none 0 0, .bool true]) (by simp [results, Try.results33, go_sem]) rfl ⟨rfl, alc0 _ _⟩
theorem kreg18 (t a b v n mm : Int) (P : Option Addr) (ln cp : Nat) (W : World) : Calls Try.prog 33 #[opv 18 t a b v n mm P ln cp] W fun e w' => ∃ g, e = .returned (.tuple #[.slice (some ⟨g, 0, none⟩) 1 1, .bool true]) ∧ g < w'.heap.size ∧ w'.cell? ⟨g, 0, none⟩ = some (.int .i64 a) ∧ Below W.heap.size W w' := by
  go_enter Try.func33, Try.ntmps33
  go_wp2_with fail
  refine bodyPost_ret (v := .tuple #[.slice (some ⟨W.heap.size + 1, 0, none⟩) 1 1, .bool true]) (by simp [results, Try.results33, go_sem]) rfl ⟨_, rfl, by simp, by simp, alc (alc0 _ _) _⟩
theorem kreg_no (k : Int) (hk : k < 1 ∨ 18 < k) (t a b v n mm : Int) (P : Option Addr) (ln cp : Nat) (W : World) : Calls Try.prog 33 #[opv k t a b v n mm P ln cp] W fun e w' => e = .returned (.tuple #[.slice none 0 0, .bool false]) ∧ Below W.heap.size W w' := by
  have h1 : ¬ k = 1 := by omega
  have h2 : ¬ k = 2 := by omega
  have h3 : ¬ k = 3 := by omega
  have h4 : ¬ k = 4 := by omega
  have h5 : ¬ k = 5 := by omega
  have h6 : ¬ k = 6 := by omega
  have h7 : ¬ k = 7 := by omega
  have h8 : ¬ k = 8 := by omega
  have h9 : ¬ k = 9 := by omega
  have h10 : ¬ k = 10 := by omega
  have h11 : ¬ k = 11 := by omega
  have h12 : ¬ k = 12 := by omega
  have h13 : ¬ k = 13 := by omega
  have h14 : ¬ k = 14 := by omega
  have h15 : ¬ k = 15 := by omega
  have h16 : ¬ k = 16 := by omega
  have h17 : ¬ k = 17 := by omega
  have h18 : ¬ k = 18 := by omega
  clear hk
  go_enter Try.func33, Try.ntmps33
  go_wp2_with fail
  refine bodyPost_ret (v := .tuple #[.slice none 0 0, .bool false]) (by simp [results, Try.results33, go_sem]) rfl ⟨rfl, alc0 _ _⟩
theorem kquiet1 (t a b v n mm : Int) (P : Option Addr) (ln cp : Nat) (W : World) : Calls Try.prog 21 #[opv 1 t a b v n mm P ln cp] W fun e w' => e = .returned (.bool false) ∧ Below W.heap.size W w' := by
  go_enter Try.func21, Try.ntmps21
  go_wp2
  go_ret
  exact ⟨rfl, alc0 _ _⟩
theorem kcomes1 (t a b v n mm : Int) (P : Option Addr) (ln cp : Nat) (W : World) : Calls Try.prog 22 #[opv 1 t a b v n mm P ln cp] W fun e w' => e = .returned (.bool true) ∧ Below W.heap.size W w' := by
  go_enter Try.func22, Try.ntmps22
  go_wp2_with fail
  refine (kquiet1 t a b v n mm P ln cp _).mono ?_
  rintro e w1 ⟨rfl, hb⟩
  have HB := Lib.hid ((alc0 W _).trans (hb.mono (by simp)))
  clear hb
  go_wp2_with fail
  go_ret
  exact ⟨rfl, HB.out⟩
theorem kquiet2 (t a b v n mm : Int) (P : Option Addr) (ln cp : Nat) (W : World) : Calls Try.prog 21 #[opv 2 t a b v n mm P ln cp] W fun e w' => e = .returned (.bool false) ∧ Below W.heap.size W w' := by
  go_enter Try.func21, Try.ntmps21
  go_wp2
  go_ret
  exact ⟨rfl, alc0 _ _⟩
theorem kcomes2 (t a b v n mm : Int) (P : Option Addr) (ln cp : Nat) (W : World) : Calls Try.prog 22 #[opv 2 t a b v n mm P ln cp] W fun e w' => e = .returned (.bool true) ∧ Below W.heap.size W w' := by
  go_enter Try.func22, Try.ntmps22
  go_wp2_with fail
  refine (kquiet2 t a b v n mm P ln cp _).mono ?_
  rintro e w1 ⟨rfl, hb⟩
  have HB := Lib.hid ((alc0 W _).trans (hb.mono (by simp)))
  clear hb
  go_wp2_with fail
  go_ret
  exact ⟨rfl, HB.out⟩
theorem kquiet3 (t a b v n mm : Int) (P : Option Addr) (ln cp : Nat) (W : World) : Calls Try.prog 21 #[opv 3 t a b v n mm P ln cp] W fun e w' => e = .returned (.bool false) ∧ Below W.heap.size W w' := by
  go_enter Try.func21, Try.ntmps21
  go_wp2
  go_ret
  exact ⟨rfl, alc0 _ _⟩
theorem kcomes3 (t a b v n mm : Int) (P : Option Addr) (ln cp : Nat) (W : World) : Calls Try.prog 22 #[opv 3 t a b v n mm P ln cp] W fun e w' => e = .returned (.bool true) ∧ Below W.heap.size W w' := by
  go_enter Try.func22, Try.ntmps22
  go_wp2_with fail
  refine (kquiet3 t a b v n mm P ln cp _).mono ?_
  rintro e w1 ⟨rfl, hb⟩
  have HB := Lib.hid ((alc0 W _).trans (hb.mono (by simp)))
  clear hb
  go_wp2_with fail
  go_ret
  exact ⟨rfl, HB.out⟩
theorem kquiet4 (t a b v n mm : Int) (P : Option Addr) (ln cp : Nat) (W : World) : Calls Try.prog 21 #[opv 4 t a b v n mm P ln cp] W fun e w' => e = .returned (.bool false) ∧ Below W.heap.size W w' := by
  go_enter Try.func21, Try.ntmps21
  go_wp2
  go_ret
  exact ⟨rfl, alc0 _ _⟩
theorem kcomes4 (t a b v n mm : Int) (P : Option Addr) (ln cp : Nat) (W : World) : Calls Try.prog 22 #[opv 4 t a b v n mm P ln cp] W fun e w' => e = .returned (.bool false) ∧ Below W.heap.size W w' := by
  go_enter Try.func22, Try.ntmps22
  go_wp2
  go_ret
  exact ⟨rfl, alc0 _ _⟩
theorem kquiet5 (t a b v n mm : Int) (P : Option Addr) (ln cp : Nat) (W : World) : Calls Try.prog 21 #[opv 5 t a b v n mm P ln cp] W fun e w' => e = .returned (.bool false) ∧ Below W.heap.size W w' := by
  go_enter Try.func21, Try.ntmps21
  go_wp2
  go_ret
  exact ⟨rfl, alc0 _ _⟩
theorem kcomes5 (t a b v n mm : Int) (P : Option Addr) (ln cp : Nat) (W : World) : Calls Try.prog 22 #[opv 5 t a b v n mm P ln cp] W fun e w' => e = .returned (.bool true) ∧ Below W.heap.size W w' := by
  go_enter Try.func22, Try.ntmps22
  go_wp2_with fail
  refine (kquiet5 t a b v n mm P ln cp _).mono ?_
  rintro e w1 ⟨rfl, hb⟩
  have HB := Lib.hid ((alc0 W _).trans (hb.mono (by simp)))
  clear hb
  go_wp2_with fail
  go_ret
  exact ⟨rfl, HB.out⟩
theorem kquiet6 (t a b v n mm : Int) (P : Option Addr) (ln cp : Nat) (W : World) : Calls Try.prog 21 #[opv 6 t a b v n mm P ln cp] W fun e w' => e = .returned (.bool false) ∧ Below W.heap.size W w' := by
  go_enter Try.func21, Try.ntmps21
  go_wp2
  go_ret
  exact ⟨rfl, alc0 _ _⟩
theorem kcomes6 (t a b v n mm : Int) (P : Option Addr) (ln cp : Nat) (W : World) : Calls Try.prog 22 #[opv 6 t a b v n mm P ln cp] W fun e w' => e = .returned (.bool false) ∧ Below W.heap.size W w' := by
  go_enter Try.func22, Try.ntmps22
  go_wp2
  go_ret
  exact ⟨rfl, alc0 _ _⟩
theorem kquiet7 (t a b v n mm : Int) (P : Option Addr) (ln cp : Nat) (W : World) : Calls Try.prog 21 #[opv 7 t a b v n mm P ln cp] W fun e w' => e = .returned (.bool false) ∧ Below W.heap.size W w' := by
  go_enter Try.func21, Try.ntmps21
  go_wp2
  go_ret
  exact ⟨rfl, alc0 _ _⟩
theorem kcomes7 (t a b v n mm : Int) (P : Option Addr) (ln cp : Nat) (W : World) : Calls Try.prog 22 #[opv 7 t a b v n mm P ln cp] W fun e w' => e = .returned (.bool true) ∧ Below W.heap.size W w' := by
  go_enter Try.func22, Try.ntmps22
  go_wp2_with fail
  refine (kquiet7 t a b v n mm P ln cp _).mono ?_
  rintro e w1 ⟨rfl, hb⟩
  have HB := Lib.hid ((alc0 W _).trans (hb.mono (by simp)))
  clear hb
  go_wp2_with fail
  go_ret
  exact ⟨rfl, HB.out⟩
theorem kquiet8 (t a b v n mm : Int) (P : Option Addr) (ln cp : Nat) (W : World) : Calls Try.prog 21 #[opv 8 t a b v n mm P ln cp] W fun e w' => e = .returned (.bool false) ∧ Below W.heap.size W w' := by
  go_enter Try.func21, Try.ntmps21
  go_wp2
  go_ret
  exact ⟨rfl, alc0 _ _⟩
theorem kcomes8 (t a b v n mm : Int) (P : Option Addr) (ln cp : Nat) (W : World) : Calls Try.prog 22 #[opv 8 t a b v n mm P ln cp] W fun e w' => e = .returned (.bool true) ∧ Below W.heap.size W w' := by
  go_enter Try.func22, Try.ntmps22
  go_wp2_with fail
  refine (kquiet8 t a b v n mm P ln cp _).mono ?_
  rintro e w1 ⟨rfl, hb⟩
  have HB := Lib.hid ((alc0 W _).trans (hb.mono (by simp)))
  clear hb
  go_wp2_with fail
  go_ret
  exact ⟨rfl, HB.out⟩
theorem kquiet9 (t a b v n mm : Int) (P : Option Addr) (ln cp : Nat) (W : World) : Calls Try.prog 21 #[opv 9 t a b v n mm P ln cp] W fun e w' => e = .returned (.bool false) ∧ Below W.heap.size W w' := by
  go_enter Try.func21, Try.ntmps21
  go_wp2
  go_ret
  exact ⟨rfl, alc0 _ _⟩
theorem kcomes9 (t a b v n mm : Int) (P : Option Addr) (ln cp : Nat) (W : World) : Calls Try.prog 22 #[opv 9 t a b v n mm P ln cp] W fun e w' => e = .returned (.bool true) ∧ Below W.heap.size W w' := by
  go_enter Try.func22, Try.ntmps22
  go_wp2_with fail
  refine (kquiet9 t a b v n mm P ln cp _).mono ?_
  rintro e w1 ⟨rfl, hb⟩
  have HB := Lib.hid ((alc0 W _).trans (hb.mono (by simp)))
  clear hb
  go_wp2_with fail
  go_ret
  exact ⟨rfl, HB.out⟩
theorem kquiet10 (t a b v n mm : Int) (P : Option Addr) (ln cp : Nat) (W : World) : Calls Try.prog 21 #[opv 10 t a b v n mm P ln cp] W fun e w' => e = .returned (.bool false) ∧ Below W.heap.size W w' := by
  go_enter Try.func21, Try.ntmps21
  go_wp2
  go_ret
  exact ⟨rfl, alc0 _ _⟩
theorem kcomes10 (t a b v n mm : Int) (P : Option Addr) (ln cp : Nat) (W : World) : Calls Try.prog 22 #[opv 10 t a b v n mm P ln cp] W fun e w' => e = .returned (.bool true) ∧ Below W.heap.size W w' := by
  go_enter Try.func22, Try.ntmps22
  go_wp2_with fail
  refine (kquiet10 t a b v n mm P ln cp _).mono ?_
  rintro e w1 ⟨rfl, hb⟩
  have HB := Lib.hid ((alc0 W _).trans (hb.mono (by simp)))
  clear hb
  go_wp2_with fail
  go_ret
  exact ⟨rfl, HB.out⟩
theorem kquiet11 (t a b v n mm : Int) (P : Option Addr) (ln cp : Nat) (W : World) : Calls Try.prog 21 #[opv 11 t a b v n mm P ln cp] W fun e w' => e = .returned (.bool false) ∧ Below W.heap.size W w' := by
  go_enter Try.func21, Try.ntmps21
  go_wp2
  go_ret
  exact ⟨rfl, alc0 _ _⟩
theorem kcomes11 (t a b v n mm : Int) (P : Option Addr) (ln cp : Nat) (W : World) : Calls Try.prog 22 #[opv 11 t a b v n mm P ln cp] W fun e w' => e = .returned (.bool false) ∧ Below W.heap.size W w' := by
  go_enter Try.func22, Try.ntmps22
  go_wp2
  go_ret
  exact ⟨rfl, alc0 _ _⟩
theorem kquiet12 (t a b v n mm : Int) (P : Option Addr) (ln cp : Nat) (W : World) : Calls Try.prog 21 #[opv 12 t a b v n mm P ln cp] W fun e w' => e = .returned (.bool false) ∧ Below W.heap.size W w' := by
  go_enter Try.func21, Try.ntmps21
  go_wp2
  go_ret
  exact ⟨rfl, alc0 _ _⟩
theorem kcomes12 (t a b v n mm : Int) (P : Option Addr) (ln cp : Nat) (W : World) : Calls Try.prog 22 #[opv 12 t a b v n mm P ln cp] W fun e w' => e = .returned (.bool false) ∧ Below W.heap.size W w' := by
  go_enter Try.func22, Try.ntmps22
  go_wp2
  go_ret
  exact ⟨rfl, alc0 _ _⟩
theorem kquiet13 (t a b v n mm : Int) (P : Option Addr) (ln cp : Nat) (W : World) : Calls Try.prog 21 #[opv 13 t a b v n mm P ln cp] W fun e w' => e = .returned (.bool false) ∧ Below W.heap.size W w' := by
  go_enter Try.func21, Try.ntmps21
  go_wp2
  go_ret
  exact ⟨rfl, alc0 _ _⟩
theorem kcomes13 (t a b v n mm : Int) (P : Option Addr) (ln cp : Nat) (W : World) : Calls Try.prog 22 #[opv 13 t a b v n mm P ln cp] W fun e w' => e = .returned (.bool true) ∧ Below W.heap.size W w' := by
  go_enter Try.func22, Try.ntmps22
  go_wp2_with fail
  refine (kquiet13 t a b v n mm P ln cp _).mono ?_
  rintro e w1 ⟨rfl, hb⟩
  have HB := Lib.hid ((alc0 W _).trans (hb.mono (by simp)))
  clear hb
  go_wp2_with fail
  go_ret
  exact ⟨rfl, HB.out⟩
theorem kquiet14 (t a b v n mm : Int) (P : Option Addr) (ln cp : Nat) (W : World) : Calls Try.prog 21 #[opv 14 t a b v n mm P ln cp] W fun e w' => e = .returned (.bool false) ∧ Below W.heap.size W w' := by
  go_enter Try.func21, Try.ntmps21
  go_wp2
  go_ret
  exact ⟨rfl, alc0 _ _⟩
theorem kcomes14 (t a b v n mm : Int) (P : Option Addr) (ln cp : Nat) (W : World) : Calls Try.prog 22 #[opv 14 t a b v n mm P ln cp] W fun e w' => e = .returned (.bool false) ∧ Below W.heap.size W w' := by
  go_enter Try.func22, Try.ntmps22
  go_wp2
  go_ret
  exact ⟨rfl, alc0 _ _⟩
theorem kquiet15 (t a b v n mm : Int) (P : Option Addr) (ln cp : Nat) (W : World) : Calls Try.prog 21 #[opv 15 t a b v n mm P ln cp] W fun e w' => e = .returned (.bool true) ∧ Below W.heap.size W w' := by
  go_enter Try.func21, Try.ntmps21
  go_wp2
  go_ret
  exact ⟨rfl, alc0 _ _⟩
theorem kquiet16 (t a b v n mm : Int) (P : Option Addr) (ln cp : Nat) (W : World) : Calls Try.prog 21 #[opv 16 t a b v n mm P ln cp] W fun e w' => e = .returned (.bool true) ∧ Below W.heap.size W w' := by
  go_enter Try.func21, Try.ntmps21
  go_wp2
  go_ret
  exact ⟨rfl, alc0 _ _⟩
theorem kquiet17 (t a b v n mm : Int) (P : Option Addr) (ln cp : Nat) (W : World) : Calls Try.prog 21 #[opv 17 t a b v n mm P ln cp] W fun e w' => e = .returned (.bool true) ∧ Below W.heap.size W w' := by
  go_enter Try.func21, Try.ntmps21
  go_wp2
  go_ret
  exact ⟨rfl, alc0 _ _⟩
theorem kquiet18 (t a b v n mm : Int) (P : Option Addr) (ln cp : Nat) (W : World) : Calls Try.prog 21 #[opv 18 t a b v n mm P ln cp] W fun e w' => e = .returned (.bool false) ∧ Below W.heap.size W w' := by
  go_enter Try.func21, Try.ntmps21
  go_wp2
  go_ret
  exact ⟨rfl, alc0 _ _⟩
theorem kcomes18 (t a b v n mm : Int) (P : Option Addr) (ln cp : Nat) (W : World) : Calls Try.prog 22 #[opv 18 t a b v n mm P ln cp] W fun e w' => e = .returned (.bool true) ∧ Below W.heap.size W w' := by
  go_enter Try.func22, Try.ntmps22
  go_wp2_with fail
  refine (kquiet18 t a b v n mm P ln cp _).mono ?_
  rintro e w1 ⟨rfl, hb⟩
  have HB := Lib.hid ((alc0 W _).trans (hb.mono (by simp)))
  clear hb
  go_wp2_with fail
  go_ret
  exact ⟨rfl, HB.out⟩
theorem kref1_ok (t a b v n mm : Int) (P : Option Addr) (ln cp : Nat) (W : World) (rg : Int) (g0 : 0 ≤ a ∧ a < rg) : Calls Try.prog 20 #[opv 1 t a b v n mm P ln cp, .int .i64 rg] W fun e w' => e = .returned (.int .i64 0) ∧ Below W.heap.size W w' := by
  go_enter Try.func20, Try.ntmps20
  go_wp2_with fail
  refine (kreg1 t a b v n mm P ln cp _).mono ?_
  rintro e w1 ⟨g, rfl, hg, hc0, hb⟩
  have x0 := (hb.cell (p := ⟨W.heap.size, 0, none⟩) (by simp)).trans (show _ = some (Value.int .i64 1) by simp)
  have x1 := (hb.cell (p := ⟨W.heap.size, 1, none⟩) (by simp)).trans (show _ = some (Value.int .i64 t) by simp)
  have x2 := (hb.cell (p := ⟨W.heap.size, 2, none⟩) (by simp)).trans (show _ = some (Value.int .i64 a) by simp)
  have x3 := (hb.cell (p := ⟨W.heap.size, 3, none⟩) (by simp)).trans (show _ = some (Value.int .i64 b) by simp)
  have x4 := (hb.cell (p := ⟨W.heap.size, 4, none⟩) (by simp)).trans (show _ = some (Value.int .i64 v) by simp)
  have x5 := (hb.cell (p := ⟨W.heap.size, 5, none⟩) (by simp)).trans (show _ = some (Value.int .i64 n) by simp)
  have x6 := (hb.cell (p := ⟨W.heap.size, 6, none⟩) (by simp)).trans (show _ = some (Value.int .i64 mm) by simp)
  have x7 := (hb.cell (p := ⟨W.heap.size, 7, none⟩) (by simp)).trans (show _ = some (Value.slice P ln cp) by simp)
  have HB := Lib.hid ((alc0 W _).trans (hb.mono (by simp)))
  clear hb
  go_wp2_with fail
  go_loopw [18] (fun v18 wr => ∃ i : Nat, i ≤ 1 ∧ v18 = .int .i64 i ∧ w1 = wr) (fun v18 _ => 1 - (intOf v18).toNat)
  case atStart => exact ⟨0, by omega, rfl, rfl⟩
  case round =>
    obtain ⟨i, hi, rfl, rfl⟩ := hrel
    have hcs : i = 0 ∨ i = 1 := by omega
    clear hi
    rcases hcs with rfl | rfl
    · have hz : ¬ a < 0 := by omega
      have hz2 : ¬ a ≥ rg := by omega
      go_wp2_with fail
      go_roundw
      case rel => exact ⟨1, by omega, by first | rfl | go_num | trivial, by first | rfl | trivial⟩
      case measure => simp [intOf]
    · go_wp2_with fail
      go_ret
      exact ⟨rfl, HB.out⟩
theorem kref1_r0 (t a b v n mm : Int) (P : Option Addr) (ln cp : Nat) (W : World) (rg : Int) (hbad : a < 0 ∨ rg ≤ a) : Calls Try.prog 20 #[opv 1 t a b v n mm P ln cp, .int .i64 rg] W fun e w' => e = .returned (.int .i64 15) ∧ Below W.heap.size W w' := by
  go_enter Try.func20, Try.ntmps20
  go_wp2_with fail
  refine (kreg1 t a b v n mm P ln cp _).mono ?_
  rintro e w1 ⟨g, rfl, hg, hc0, hb⟩
  have x0 := (hb.cell (p := ⟨W.heap.size, 0, none⟩) (by simp)).trans (show _ = some (Value.int .i64 1) by simp)
  have x1 := (hb.cell (p := ⟨W.heap.size, 1, none⟩) (by simp)).trans (show _ = some (Value.int .i64 t) by simp)
  have x2 := (hb.cell (p := ⟨W.heap.size, 2, none⟩) (by simp)).trans (show _ = some (Value.int .i64 a) by simp)
  have x3 := (hb.cell (p := ⟨W.heap.size, 3, none⟩) (by simp)).trans (show _ = some (Value.int .i64 b) by simp)
  have x4 := (hb.cell (p := ⟨W.heap.size, 4, none⟩) (by simp)).trans (show _ = some (Value.int .i64 v) by simp)
  have x5 := (hb.cell (p := ⟨W.heap.size, 5, none⟩) (by simp)).trans (show _ = some (Value.int .i64 n) by simp)
  have x6 := (hb.cell (p := ⟨W.heap.size, 6, none⟩) (by simp)).trans (show _ = some (Value.int .i64 mm) by simp)
  have x7 := (hb.cell (p := ⟨W.heap.size, 7, none⟩) (by simp)).trans (show _ = some (Value.slice P ln cp) by simp)
  have HB := Lib.hid ((alc0 W _).trans (hb.mono (by simp)))
  clear hb
  go_wp2_with fail
  go_loopw [18] (fun v18 wr => ∃ i : Nat, i ≤ 1 ∧ v18 = .int .i64 i ∧ w1 = wr ∧ i ≤ 0) (fun v18 _ => 1 - (intOf v18).toNat)
  case atStart => exact ⟨0, by omega, rfl, rfl, by omega⟩
  case round =>
    obtain ⟨i, hi, rfl, rfl, hib⟩ := hrel
    have hcs : i = 0 := by omega
    clear hi hib
    rcases hcs with rfl
    · by_cases hz : a < 0
      · go_wp2_with fail
        go_ret
        exact ⟨rfl, HB.out⟩
      · have hz2 : a ≥ rg := by omega
        go_wp2_with fail
        go_ret
        exact ⟨rfl, HB.out⟩
theorem kref2_ok (t a b v n mm : Int) (P : Option Addr) (ln cp : Nat) (W : World) (rg : Int) (g0 : 0 ≤ a ∧ a < rg) : Calls Try.prog 20 #[opv 2 t a b v n mm P ln cp, .int .i64 rg] W fun e w' => e = .returned (.int .i64 0) ∧ Below W.heap.size W w' := by
  go_enter Try.func20, Try.ntmps20
  go_wp2_with fail
  refine (kreg2 t a b v n mm P ln cp _).mono ?_
  rintro e w1 ⟨g, rfl, hg, hc0, hb⟩
  have x0 := (hb.cell (p := ⟨W.heap.size, 0, none⟩) (by simp)).trans (show _ = some (Value.int .i64 2) by simp)
  have x1 := (hb.cell (p := ⟨W.heap.size, 1, none⟩) (by simp)).trans (show _ = some (Value.int .i64 t) by simp)
  have x2 := (hb.cell (p := ⟨W.heap.size, 2, none⟩) (by simp)).trans (show _ = some (Value.int .i64 a) by simp)
  have x3 := (hb.cell (p := ⟨W.heap.size, 3, none⟩) (by simp)).trans (show _ = some (Value.int .i64 b) by simp)
  have x4 := (hb.cell (p := ⟨W.heap.size, 4, none⟩) (by simp)).trans (show _ = some (Value.int .i64 v) by simp)
  have x5 := (hb.cell (p := ⟨W.heap.size, 5, none⟩) (by simp)).trans (show _ = some (Value.int .i64 n) by simp)
  have x6 := (hb.cell (p := ⟨W.heap.size, 6, none⟩) (by simp)).trans (show _ = some (Value.int .i64 mm) by simp)
  have x7 := (hb.cell (p := ⟨W.heap.size, 7, none⟩) (by simp)).trans (show _ = some (Value.slice P ln cp) by simp)
  have HB := Lib.hid ((alc0 W _).trans (hb.mono (by simp)))
  clear hb
  go_wp2_with fail
  go_loopw [18] (fun v18 wr => ∃ i : Nat, i ≤ 1 ∧ v18 = .int .i64 i ∧ w1 = wr) (fun v18 _ => 1 - (intOf v18).toNat)
  case atStart => exact ⟨0, by omega, rfl, rfl⟩
  case round =>
    obtain ⟨i, hi, rfl, rfl⟩ := hrel
    have hcs : i = 0 ∨ i = 1 := by omega
    clear hi
    rcases hcs with rfl | rfl
    · have hz : ¬ a < 0 := by omega
      have hz2 : ¬ a ≥ rg := by omega
      go_wp2_with fail
      go_roundw
      case rel => exact ⟨1, by omega, by first | rfl | go_num | trivial, by first | rfl | trivial⟩
      case measure => simp [intOf]
    · go_wp2_with fail
      go_ret
      exact ⟨rfl, HB.out⟩
theorem kref2_r0 (t a b v n mm : Int) (P : Option Addr) (ln cp : Nat) (W : World) (rg : Int) (hbad : a < 0 ∨ rg ≤ a) : Calls Try.prog 20 #[opv 2 t a b v n mm P ln cp, .int .i64 rg] W fun e w' => e = .returned (.int .i64 15) ∧ Below W.heap.size W w' := by
  go_enter Try.func20, Try.ntmps20
  go_wp2_with fail
  refine (kreg2 t a b v n mm P ln cp _).mono ?_
  rintro e w1 ⟨g, rfl, hg, hc0, hb⟩
  have x0 := (hb.cell (p := ⟨W.heap.size, 0, none⟩) (by simp)).trans (show _ = some (Value.int .i64 2) by simp)
  have x1 := (hb.cell (p := ⟨W.heap.size, 1, none⟩) (by simp)).trans (show _ = some (Value.int .i64 t) by simp)
  have x2 := (hb.cell (p := ⟨W.heap.size, 2, none⟩) (by simp)).trans (show _ = some (Value.int .i64 a) by simp)
  have x3 := (hb.cell (p := ⟨W.heap.size, 3, none⟩) (by simp)).trans (show _ = some (Value.int .i64 b) by simp)
  have x4 := (hb.cell (p := ⟨W.heap.size, 4, none⟩) (by simp)).trans (show _ = some (Value.int .i64 v) by simp)
  have x5 := (hb.cell (p := ⟨W.heap.size, 5, none⟩) (by simp)).trans (show _ = some (Value.int .i64 n) by simp)
  have x6 := (hb.cell (p := ⟨W.heap.size, 6, none⟩) (by simp)).trans (show _ = some (Value.int .i64 mm) by simp)
  have x7 := (hb.cell (p := ⟨W.heap.size, 7, none⟩) (by simp)).trans (show _ = some (Value.slice P ln cp) by simp)
  have HB := Lib.hid ((alc0 W _).trans (hb.mono (by simp)))
  clear hb
  go_wp2_with fail
  go_loopw [18] (fun v18 wr => ∃ i : Nat, i ≤ 1 ∧ v18 = .int .i64 i ∧ w1 = wr ∧ i ≤ 0) (fun v18 _ => 1 - (intOf v18).toNat)
  case atStart => exact ⟨0, by omega, rfl, rfl, by omega⟩
  case round =>
    obtain ⟨i, hi, rfl, rfl, hib⟩ := hrel
    have hcs : i = 0 := by omega
    clear hi hib
    rcases hcs with rfl
    · by_cases hz : a < 0
      · go_wp2_with fail
        go_ret
        exact ⟨rfl, HB.out⟩
      · have hz2 : a ≥ rg := by omega
        go_wp2_with fail
        go_ret
        exact ⟨rfl, HB.out⟩
theorem kref3_ok (t a b v n mm : Int) (P : Option Addr) (ln cp : Nat) (W : World) (rg : Int) (g0 : 0 ≤ a ∧ a < rg) : Calls Try.prog 20 #[opv 3 t a b v n mm P ln cp, .int .i64 rg] W fun e w' => e = .returned (.int .i64 0) ∧ Below W.heap.size W w' := by
  go_enter Try.func20, Try.ntmps20
  go_wp2_with fail
  refine (kreg3 t a b v n mm P ln cp _).mono ?_
  rintro e w1 ⟨g, rfl, hg, hc0, hb⟩
  have x0 := (hb.cell (p := ⟨W.heap.size, 0, none⟩) (by simp)).trans (show _ = some (Value.int .i64 3) by simp)
  have x1 := (hb.cell (p := ⟨W.heap.size, 1, none⟩) (by simp)).trans (show _ = some (Value.int .i64 t) by simp)
  have x2 := (hb.cell (p := ⟨W.heap.size, 2, none⟩) (by simp)).trans (show _ = some (Value.int .i64 a) by simp)
  have x3 := (hb.cell (p := ⟨W.heap.size, 3, none⟩) (by simp)).trans (show _ = some (Value.int .i64 b) by simp)
  have x4 := (hb.cell (p := ⟨W.heap.size, 4, none⟩) (by simp)).trans (show _ = some (Value.int .i64 v) by simp)
  have x5 := (hb.cell (p := ⟨W.heap.size, 5, none⟩) (by simp)).trans (show _ = some (Value.int .i64 n) by simp)
  have x6 := (hb.cell (p := ⟨W.heap.size, 6, none⟩) (by simp)).trans (show _ = some (Value.int .i64 mm) by simp)
  have x7 := (hb.cell (p := ⟨W.heap.size, 7, none⟩) (by simp)).trans (show _ = some (Value.slice P ln cp) by simp)
  have HB := Lib.hid ((alc0 W _).trans (hb.mono (by simp)))
  clear hb
  go_wp2_with fail
  go_loopw [18] (fun v18 wr => ∃ i : Nat, i ≤ 1 ∧ v18 = .int .i64 i ∧ w1 = wr) (fun v18 _ => 1 - (intOf v18).toNat)
  case atStart => exact ⟨0, by omega, rfl, rfl⟩
  case round =>
    obtain ⟨i, hi, rfl, rfl⟩ := hrel
    have hcs : i = 0 ∨ i = 1 := by omega
    clear hi
    rcases hcs with rfl | rfl
    · have hz : ¬ a < 0 := by omega
      have hz2 : ¬ a ≥ rg := by omega
      go_wp2_with fail
      go_roundw
      case rel => exact ⟨1, by omega, by first | rfl | go_num | trivial, by first | rfl | trivial⟩
      case measure => simp [intOf]
    · go_wp2_with fail
      go_ret
      exact ⟨rfl, HB.out⟩
theorem kref3_r0 (t a b v n mm : Int) (P : Option Addr) (ln cp : Nat) (W : World) (rg : Int) (hbad : a < 0 ∨ rg ≤ a) : Calls Try.prog 20 #[opv 3 t a b v n mm P ln cp, .int .i64 rg] W fun e w' => e = .returned (.int .i64 15) ∧ Below W.heap.size W w' := by
  go_enter Try.func20, Try.ntmps20
  go_wp2_with fail
  refine (kreg3 t a b v n mm P ln cp _).mono ?_
  rintro e w1 ⟨g, rfl, hg, hc0, hb⟩
  have x0 := (hb.cell (p := ⟨W.heap.size, 0, none⟩) (by simp)).trans (show _ = some (Value.int .i64 3) by simp)
  have x1 := (hb.cell (p := ⟨W.heap.size, 1, none⟩) (by simp)).trans (show _ = some (Value.int .i64 t) by simp)
  have x2 := (hb.cell (p := ⟨W.heap.size, 2, none⟩) (by simp)).trans (show _ = some (Value.int .i64 a) by simp)
  have x3 := (hb.cell (p := ⟨W.heap.size, 3, none⟩) (by simp)).trans (show _ = some (Value.int .i64 b) by simp)
  have x4 := (hb.cell (p := ⟨W.heap.size, 4, none⟩) (by simp)).trans (show _ = some (Value.int .i64 v) by simp)
  have x5 := (hb.cell (p := ⟨W.heap.size, 5, none⟩) (by simp)).trans (show _ = some (Value.int .i64 n) by simp)
  have x6 := (hb.cell (p := ⟨W.heap.size, 6, none⟩) (by simp)).trans (show _ = some (Value.int .i64 mm) by simp)
  have x7 := (hb.cell (p := ⟨W.heap.size, 7, none⟩) (by simp)).trans (show _ = some (Value.slice P ln cp) by simp)
  have HB := Lib.hid ((alc0 W _).trans (hb.mono (by simp)))
  clear hb
  go_wp2_with fail
  go_loopw [18] (fun v18 wr => ∃ i : Nat, i ≤ 1 ∧ v18 = .int .i64 i ∧ w1 = wr ∧ i ≤ 0) (fun v18 _ => 1 - (intOf v18).toNat)
  case atStart => exact ⟨0, by omega, rfl, rfl, by omega⟩
  case round =>
    obtain ⟨i, hi, rfl, rfl, hib⟩ := hrel
    have hcs : i = 0 := by omega
    clear hi hib
    rcases hcs with rfl
    · by_cases hz : a < 0
      · go_wp2_with fail
        go_ret
        exact ⟨rfl, HB.out⟩
      · have hz2 : a ≥ rg := by omega
        go_wp2_with fail
        go_ret
        exact ⟨rfl, HB.out⟩
theorem kref4_ok (t a b v n mm : Int) (P : Option Addr) (ln cp : Nat) (W : World) (rg : Int) (g0 : 0 ≤ b ∧ b < rg) : Calls Try.prog 20 #[opv 4 t a b v n mm P ln cp, .int .i64 rg] W fun e w' => e = .returned (.int .i64 0) ∧ Below W.heap.size W w' := by
  go_enter Try.func20, Try.ntmps20
  go_wp2_with fail
  refine (kreg4 t a b v n mm P ln cp _).mono ?_
  rintro e w1 ⟨g, rfl, hg, hc0, hb⟩
  have x0 := (hb.cell (p := ⟨W.heap.size, 0, none⟩) (by simp)).trans (show _ = some (Value.int .i64 4) by simp)
  have x1 := (hb.cell (p := ⟨W.heap.size, 1, none⟩) (by simp)).trans (show _ = some (Value.int .i64 t) by simp)
  have x2 := (hb.cell (p := ⟨W.heap.size, 2, none⟩) (by simp)).trans (show _ = some (Value.int .i64 a) by simp)
  have x3 := (hb.cell (p := ⟨W.heap.size, 3, none⟩) (by simp)).trans (show _ = some (Value.int .i64 b) by simp)
  have x4 := (hb.cell (p := ⟨W.heap.size, 4, none⟩) (by simp)).trans (show _ = some (Value.int .i64 v) by simp)
  have x5 := (hb.cell (p := ⟨W.heap.size, 5, none⟩) (by simp)).trans (show _ = some (Value.int .i64 n) by simp)
  have x6 := (hb.cell (p := ⟨W.heap.size, 6, none⟩) (by simp)).trans (show _ = some (Value.int .i64 mm) by simp)
  have x7 := (hb.cell (p := ⟨W.heap.size, 7, none⟩) (by simp)).trans (show _ = some (Value.slice P ln cp) by simp)
  have HB := Lib.hid ((alc0 W _).trans (hb.mono (by simp)))
  clear hb
  go_wp2_with fail
  go_loopw [18] (fun v18 wr => ∃ i : Nat, i ≤ 1 ∧ v18 = .int .i64 i ∧ w1 = wr) (fun v18 _ => 1 - (intOf v18).toNat)
  case atStart => exact ⟨0, by omega, rfl, rfl⟩
  case round =>
    obtain ⟨i, hi, rfl, rfl⟩ := hrel
    have hcs : i = 0 ∨ i = 1 := by omega
    clear hi
    rcases hcs with rfl | rfl
    · have hz : ¬ b < 0 := by omega
      have hz2 : ¬ b ≥ rg := by omega
      go_wp2_with fail
      go_roundw
      case rel => exact ⟨1, by omega, by first | rfl | go_num | trivial, by first | rfl | trivial⟩
      case measure => simp [intOf]
    · go_wp2_with fail
      go_ret
      exact ⟨rfl, HB.out⟩
theorem kref4_r0 (t a b v n mm : Int) (P : Option Addr) (ln cp : Nat) (W : World) (rg : Int) (hbad : b < 0 ∨ rg ≤ b) : Calls Try.prog 20 #[opv 4 t a b v n mm P ln cp, .int .i64 rg] W fun e w' => e = .returned (.int .i64 15) ∧ Below W.heap.size W w' := by
  go_enter Try.func20, Try.ntmps20
  go_wp2_with fail
  refine (kreg4 t a b v n mm P ln cp _).mono ?_
  rintro e w1 ⟨g, rfl, hg, hc0, hb⟩
  have x0 := (hb.cell (p := ⟨W.heap.size, 0, none⟩) (by simp)).trans (show _ = some (Value.int .i64 4) by simp)
  have x1 := (hb.cell (p := ⟨W.heap.size, 1, none⟩) (by simp)).trans (show _ = some (Value.int .i64 t) by simp)
  have x2 := (hb.cell (p := ⟨W.heap.size, 2, none⟩) (by simp)).trans (show _ = some (Value.int .i64 a) by simp)
  have x3 := (hb.cell (p := ⟨W.heap.size, 3, none⟩) (by simp)).trans (show _ = some (Value.int .i64 b) by simp)
  have x4 := (hb.cell (p := ⟨W.heap.size, 4, none⟩) (by simp)).trans (show _ = some (Value.int .i64 v) by simp)
  have x5 := (hb.cell (p := ⟨W.heap.size, 5, none⟩) (by simp)).trans (show _ = some (Value.int .i64 n) by simp)
  have x6 := (hb.cell (p := ⟨W.heap.size, 6, none⟩) (by simp)).trans (show _ = some (Value.int .i64 mm) by simp)
  have x7 := (hb.cell (p := ⟨W.heap.size, 7, none⟩) (by simp)).trans (show _ = some (Value.slice P ln cp) by simp)
  have HB := Lib.hid ((alc0 W _).trans (hb.mono (by simp)))
  clear hb
  go_wp2_with fail
  go_loopw [18] (fun v18 wr => ∃ i : Nat, i ≤ 1 ∧ v18 = .int .i64 i ∧ w1 = wr ∧ i ≤ 0) (fun v18 _ => 1 - (intOf v18).toNat)
  case atStart => exact ⟨0, by omega, rfl, rfl, by omega⟩
  case round =>
    obtain ⟨i, hi, rfl, rfl, hib⟩ := hrel
    have hcs : i = 0 := by omega
    clear hi hib
    rcases hcs with rfl
    · by_cases hz : b < 0
      · go_wp2_with fail
        go_ret
        exact ⟨rfl, HB.out⟩
      · have hz2 : b ≥ rg := by omega
        go_wp2_with fail
        go_ret
        exact ⟨rfl, HB.out⟩
theorem kref5_ok (t a b v n mm : Int) (P : Option Addr) (ln cp : Nat) (W : World) (rg : Int) (g0 : 0 ≤ a ∧ a < rg) (g1 : 0 ≤ b ∧ b < rg) : Calls Try.prog 20 #[opv 5 t a b v n mm P ln cp, .int .i64 rg] W fun e w' => e = .returned (.int .i64 0) ∧ Below W.heap.size W w' := by
  go_enter Try.func20, Try.ntmps20
  go_wp2_with fail
  refine (kreg5 t a b v n mm P ln cp _).mono ?_
  rintro e w1 ⟨g, rfl, hg, hc0, hc1, hb⟩
  have x0 := (hb.cell (p := ⟨W.heap.size, 0, none⟩) (by simp)).trans (show _ = some (Value.int .i64 5) by simp)
  have x1 := (hb.cell (p := ⟨W.heap.size, 1, none⟩) (by simp)).trans (show _ = some (Value.int .i64 t) by simp)
  have x2 := (hb.cell (p := ⟨W.heap.size, 2, none⟩) (by simp)).trans (show _ = some (Value.int .i64 a) by simp)
  have x3 := (hb.cell (p := ⟨W.heap.size, 3, none⟩) (by simp)).trans (show _ = some (Value.int .i64 b) by simp)
  have x4 := (hb.cell (p := ⟨W.heap.size, 4, none⟩) (by simp)).trans (show _ = some (Value.int .i64 v) by simp)
  have x5 := (hb.cell (p := ⟨W.heap.size, 5, none⟩) (by simp)).trans (show _ = some (Value.int .i64 n) by simp)
  have x6 := (hb.cell (p := ⟨W.heap.size, 6, none⟩) (by simp)).trans (show _ = some (Value.int .i64 mm) by simp)
  have x7 := (hb.cell (p := ⟨W.heap.size, 7, none⟩) (by simp)).trans (show _ = some (Value.slice P ln cp) by simp)
  have HB := Lib.hid ((alc0 W _).trans (hb.mono (by simp)))
  clear hb
  go_wp2_with fail
  go_loopw [18] (fun v18 wr => ∃ i : Nat, i ≤ 2 ∧ v18 = .int .i64 i ∧ w1 = wr) (fun v18 _ => 2 - (intOf v18).toNat)
  case atStart => exact ⟨0, by omega, rfl, rfl⟩
  case round =>
    obtain ⟨i, hi, rfl, rfl⟩ := hrel
    have hcs : i = 0 ∨ i = 1 ∨ i = 2 := by omega
    clear hi
    rcases hcs with rfl | rfl | rfl
    · have hz : ¬ a < 0 := by omega
      have hz2 : ¬ a ≥ rg := by omega
      go_wp2_with fail
      go_roundw
      case rel => exact ⟨1, by omega, by first | rfl | go_num | trivial, by first | rfl | trivial⟩
      case measure => simp [intOf]
    · have hz : ¬ b < 0 := by omega
      have hz2 : ¬ b ≥ rg := by omega
      go_wp2_with fail
      go_roundw
      case rel => exact ⟨2, by omega, by first | rfl | go_num | trivial, by first | rfl | trivial⟩
      case measure => simp [intOf]
    · go_wp2_with fail
      go_ret
      exact ⟨rfl, HB.out⟩
theorem kref5_r0 (t a b v n mm : Int) (P : Option Addr) (ln cp : Nat) (W : World) (rg : Int) (hbad : a < 0 ∨ rg ≤ a) : Calls Try.prog 20 #[opv 5 t a b v n mm P ln cp, .int .i64 rg] W fun e w' => e = .returned (.int .i64 15) ∧ Below W.heap.size W w' := by
  go_enter Try.func20, Try.ntmps20
  go_wp2_with fail
  refine (kreg5 t a b v n mm P ln cp _).mono ?_
  rintro e w1 ⟨g, rfl, hg, hc0, hc1, hb⟩
  have x0 := (hb.cell (p := ⟨W.heap.size, 0, none⟩) (by simp)).trans (show _ = some (Value.int .i64 5) by simp)
  have x1 := (hb.cell (p := ⟨W.heap.size, 1, none⟩) (by simp)).trans (show _ = some (Value.int .i64 t) by simp)
  have x2 := (hb.cell (p := ⟨W.heap.size, 2, none⟩) (by simp)).trans (show _ = some (Value.int .i64 a) by simp)
  have x3 := (hb.cell (p := ⟨W.heap.size, 3, none⟩) (by simp)).trans (show _ = some (Value.int .i64 b) by simp)
  have x4 := (hb.cell (p := ⟨W.heap.size, 4, none⟩) (by simp)).trans (show _ = some (Value.int .i64 v) by simp)
  have x5 := (hb.cell (p := ⟨W.heap.size, 5, none⟩) (by simp)).trans (show _ = some (Value.int .i64 n) by simp)
  have x6 := (hb.cell (p := ⟨W.heap.size, 6, none⟩) (by simp)).trans (show _ = some (Value.int .i64 mm) by simp)
  have x7 := (hb.cell (p := ⟨W.heap.size, 7, none⟩) (by simp)).trans (show _ = some (Value.slice P ln cp) by simp)
  have HB := Lib.hid ((alc0 W _).trans (hb.mono (by simp)))
  clear hb
  go_wp2_with fail
  go_loopw [18] (fun v18 wr => ∃ i : Nat, i ≤ 2 ∧ v18 = .int .i64 i ∧ w1 = wr ∧ i ≤ 0) (fun v18 _ => 2 - (intOf v18).toNat)
  case atStart => exact ⟨0, by omega, rfl, rfl, by omega⟩
  case round =>
    obtain ⟨i, hi, rfl, rfl, hib⟩ := hrel
    have hcs : i = 0 := by omega
    clear hi hib
    rcases hcs with rfl
    · by_cases hz : a < 0
      · go_wp2_with fail
        go_ret
        exact ⟨rfl, HB.out⟩
      · have hz2 : a ≥ rg := by omega
        go_wp2_with fail
        go_ret
        exact ⟨rfl, HB.out⟩
theorem kref5_r1 (t a b v n mm : Int) (P : Option Addr) (ln cp : Nat) (W : World) (rg : Int) (g0 : 0 ≤ a ∧ a < rg) (hbad : b < 0 ∨ rg ≤ b) : Calls Try.prog 20 #[opv 5 t a b v n mm P ln cp, .int .i64 rg] W fun e w' => e = .returned (.int .i64 15) ∧ Below W.heap.size W w' := by
  go_enter Try.func20, Try.ntmps20
  go_wp2_with fail
  refine (kreg5 t a b v n mm P ln cp _).mono ?_
  rintro e w1 ⟨g, rfl, hg, hc0, hc1, hb⟩
  have x0 := (hb.cell (p := ⟨W.heap.size, 0, none⟩) (by simp)).trans (show _ = some (Value.int .i64 5) by simp)
  have x1 := (hb.cell (p := ⟨W.heap.size, 1, none⟩) (by simp)).trans (show _ = some (Value.int .i64 t) by simp)
  have x2 := (hb.cell (p := ⟨W.heap.size, 2, none⟩) (by simp)).trans (show _ = some (Value.int .i64 a) by simp)
  have x3 := (hb.cell (p := ⟨W.heap.size, 3, none⟩) (by simp)).trans (show _ = some (Value.int .i64 b) by simp)
  have x4 := (hb.cell (p := ⟨W.heap.size, 4, none⟩) (by simp)).trans (show _ = some (Value.int .i64 v) by simp)
  have x5 := (hb.cell (p := ⟨W.heap.size, 5, none⟩) (by simp)).trans (show _ = some (Value.int .i64 n) by simp)
  have x6 := (hb.cell (p := ⟨W.heap.size, 6, none⟩) (by simp)).trans (show _ = some (Value.int .i64 mm) by simp)
  have x7 := (hb.cell (p := ⟨W.heap.size, 7, none⟩) (by simp)).trans (show _ = some (Value.slice P ln cp) by simp)
  have HB := Lib.hid ((alc0 W _).trans (hb.mono (by simp)))
  clear hb
  go_wp2_with fail
  go_loopw [18] (fun v18 wr => ∃ i : Nat, i ≤ 2 ∧ v18 = .int .i64 i ∧ w1 = wr ∧ i ≤ 1) (fun v18 _ => 2 - (intOf v18).toNat)
  case atStart => exact ⟨0, by omega, rfl, rfl, by omega⟩
  case round =>
    obtain ⟨i, hi, rfl, rfl, hib⟩ := hrel
    have hcs : i = 0 ∨ i = 1 := by omega
    clear hi hib
    rcases hcs with rfl | rfl
    · have hz : ¬ a < 0 := by omega
      have hz2 : ¬ a ≥ rg := by omega
      go_wp2_with fail
      go_roundw
      case rel => exact ⟨1, by omega, by first | rfl | go_num | trivial, by first | rfl | trivial, by omega⟩
      case measure => simp [intOf]
    · by_cases hz : b < 0
      · go_wp2_with fail
        go_ret
        exact ⟨rfl, HB.out⟩
      · have hz2 : b ≥ rg := by omega
        go_wp2_with fail
        go_ret
        exact ⟨rfl, HB.out⟩
theorem kref6_ok (t a b v n mm : Int) (P : Option Addr) (ln cp : Nat) (W : World) (rg : Int) (g0 : 0 ≤ b ∧ b < rg) : Calls Try.prog 20 #[opv 6 t a b v n mm P ln cp, .int .i64 rg] W fun e w' => e = .returned (.int .i64 0) ∧ Below W.heap.size W w' := by
  go_enter Try.func20, Try.ntmps20
  go_wp2_with fail
  refine (kreg6 t a b v n mm P ln cp _).mono ?_
  rintro e w1 ⟨g, rfl, hg, hc0, hb⟩
  have x0 := (hb.cell (p := ⟨W.heap.size, 0, none⟩) (by simp)).trans (show _ = some (Value.int .i64 6) by simp)
  have x1 := (hb.cell (p := ⟨W.heap.size, 1, none⟩) (by simp)).trans (show _ = some (Value.int .i64 t) by simp)
  have x2 := (hb.cell (p := ⟨W.heap.size, 2, none⟩) (by simp)).trans (show _ = some (Value.int .i64 a) by simp)
  have x3 := (hb.cell (p := ⟨W.heap.size, 3, none⟩) (by simp)).trans (show _ = some (Value.int .i64 b) by simp)
  have x4 := (hb.cell (p := ⟨W.heap.size, 4, none⟩) (by simp)).trans (show _ = some (Value.int .i64 v) by simp)
  have x5 := (hb.cell (p := ⟨W.heap.size, 5, none⟩) (by simp)).trans (show _ = some (Value.int .i64 n) by simp)
  have x6 := (hb.cell (p := ⟨W.heap.size, 6, none⟩) (by simp)).trans (show _ = some (Value.int .i64 mm) by simp)
  have x7 := (hb.cell (p := ⟨W.heap.size, 7, none⟩) (by simp)).trans (show _ = some (Value.slice P ln cp) by simp)
  have HB := Lib.hid ((alc0 W _).trans (hb.mono (by simp)))
  clear hb
  go_wp2_with fail
  go_loopw [18] (fun v18 wr => ∃ i : Nat, i ≤ 1 ∧ v18 = .int .i64 i ∧ w1 = wr) (fun v18 _ => 1 - (intOf v18).toNat)
  case atStart => exact ⟨0, by omega, rfl, rfl⟩
  case round =>
    obtain ⟨i, hi, rfl, rfl⟩ := hrel
    have hcs : i = 0 ∨ i = 1 := by omega
    clear hi
    rcases hcs with rfl | rfl
    · have hz : ¬ b < 0 := by omega
      have hz2 : ¬ b ≥ rg := by omega
      go_wp2_with fail
      go_roundw
      case rel => exact ⟨1, by omega, by first | rfl | go_num | trivial, by first | rfl | trivial⟩
      case measure => simp [intOf]
    · go_wp2_with fail
      go_ret
      exact ⟨rfl, HB.out⟩
theorem kref6_r0 (t a b v n mm : Int) (P : Option Addr) (ln cp : Nat) (W : World) (rg : Int) (hbad : b < 0 ∨ rg ≤ b) : Calls Try.prog 20 #[opv 6 t a b v n mm P ln cp, .int .i64 rg] W fun e w' => e = .returned (.int .i64 15) ∧ Below W.heap.size W w' := by
  go_enter Try.func20, Try.ntmps20
  go_wp2_with fail
  refine (kreg6 t a b v n mm P ln cp _).mono ?_
  rintro e w1 ⟨g, rfl, hg, hc0, hb⟩
  have x0 := (hb.cell (p := ⟨W.heap.size, 0, none⟩) (by simp)).trans (show _ = some (Value.int .i64 6) by simp)
  have x1 := (hb.cell (p := ⟨W.heap.size, 1, none⟩) (by simp)).trans (show _ = some (Value.int .i64 t) by simp)
  have x2 := (hb.cell (p := ⟨W.heap.size, 2, none⟩) (by simp)).trans (show _ = some (Value.int .i64 a) by simp)
  have x3 := (hb.cell (p := ⟨W.heap.size, 3, none⟩) (by simp)).trans (show _ = some (Value.int .i64 b) by simp)
  have x4 := (hb.cell (p := ⟨W.heap.size, 4, none⟩) (by simp)).trans (show _ = some (Value.int .i64 v) by simp)
  have x5 := (hb.cell (p := ⟨W.heap.size, 5, none⟩) (by simp)).trans (show _ = some (Value.int .i64 n) by simp)
  have x6 := (hb.cell (p := ⟨W.heap.size, 6, none⟩) (by simp)).trans (show _ = some (Value.int .i64 mm) by simp)
  have x7 := (hb.cell (p := ⟨W.heap.size, 7, none⟩) (by simp)).trans (show _ = some (Value.slice P ln cp) by simp)
  have HB := Lib.hid ((alc0 W _).trans (hb.mono (by simp)))
  clear hb
  go_wp2_with fail
  go_loopw [18] (fun v18 wr => ∃ i : Nat, i ≤ 1 ∧ v18 = .int .i64 i ∧ w1 = wr ∧ i ≤ 0) (fun v18 _ => 1 - (intOf v18).toNat)
  case atStart => exact ⟨0, by omega, rfl, rfl, by omega⟩
  case round =>
    obtain ⟨i, hi, rfl, rfl, hib⟩ := hrel
    have hcs : i = 0 := by omega
    clear hi hib
    rcases hcs with rfl
    · by_cases hz : b < 0
      · go_wp2_with fail
        go_ret
        exact ⟨rfl, HB.out⟩
      · have hz2 : b ≥ rg := by omega
        go_wp2_with fail
        go_ret
        exact ⟨rfl, HB.out⟩
theorem kref7_ok (t a b v n mm : Int) (P : Option Addr) (ln cp : Nat) (W : World) (rg : Int) (g0 : 0 ≤ a ∧ a < rg) (g1 : 0 ≤ b ∧ b < rg) : Calls Try.prog 20 #[opv 7 t a b v n mm P ln cp, .int .i64 rg] W fun e w' => e = .returned (.int .i64 0) ∧ Below W.heap.size W w' := by
  go_enter Try.func20, Try.ntmps20
  go_wp2_with fail
  refine (kreg7 t a b v n mm P ln cp _).mono ?_
  rintro e w1 ⟨g, rfl, hg, hc0, hc1, hb⟩
  have x0 := (hb.cell (p := ⟨W.heap.size, 0, none⟩) (by simp)).trans (show _ = some (Value.int .i64 7) by simp)
  have x1 := (hb.cell (p := ⟨W.heap.size, 1, none⟩) (by simp)).trans (show _ = some (Value.int .i64 t) by simp)
  have x2 := (hb.cell (p := ⟨W.heap.size, 2, none⟩) (by simp)).trans (show _ = some (Value.int .i64 a) by simp)
  have x3 := (hb.cell (p := ⟨W.heap.size, 3, none⟩) (by simp)).trans (show _ = some (Value.int .i64 b) by simp)
  have x4 := (hb.cell (p := ⟨W.heap.size, 4, none⟩) (by simp)).trans (show _ = some (Value.int .i64 v) by simp)
  have x5 := (hb.cell (p := ⟨W.heap.size, 5, none⟩) (by simp)).trans (show _ = some (Value.int .i64 n) by simp)
  have x6 := (hb.cell (p := ⟨W.heap.size, 6, none⟩) (by simp)).trans (show _ = some (Value.int .i64 mm) by simp)
  have x7 := (hb.cell (p := ⟨W.heap.size, 7, none⟩) (by simp)).trans (show _ = some (Value.slice P ln cp) by simp)
  have HB := Lib.hid ((alc0 W _).trans (hb.mono (by simp)))
  clear hb
  go_wp2_with fail
  go_loopw [18] (fun v18 wr => ∃ i : Nat, i ≤ 2 ∧ v18 = .int .i64 i ∧ w1 = wr) (fun v18 _ => 2 - (intOf v18).toNat)
  case atStart => exact ⟨0, by omega, rfl, rfl⟩
  case round =>
    obtain ⟨i, hi, rfl, rfl⟩ := hrel
    have hcs : i = 0 ∨ i = 1 ∨ i = 2 := by omega
    clear hi
    rcases hcs with rfl | rfl | rfl
    · have hz : ¬ a < 0 := by omega
      have hz2 : ¬ a ≥ rg := by omega
      go_wp2_with fail
      go_roundw
      case rel => exact ⟨1, by omega, by first | rfl | go_num | trivial, by first | rfl | trivial⟩
      case measure => simp [intOf]
    · have hz : ¬ b < 0 := by omega
      have hz2 : ¬ b ≥ rg := by omega
      go_wp2_with fail
      go_roundw
      case rel => exact ⟨2, by omega, by first | rfl | go_num | trivial, by first | rfl | trivial⟩
      case measure => simp [intOf]
    · go_wp2_with fail
      go_ret
      exact ⟨rfl, HB.out⟩
theorem kref7_r0 (t a b v n mm : Int) (P : Option Addr) (ln cp : Nat) (W : World) (rg : Int) (hbad : a < 0 ∨ rg ≤ a) : Calls Try.prog 20 #[opv 7 t a b v n mm P ln cp, .int .i64 rg] W fun e w' => e = .returned (.int .i64 15) ∧ Below W.heap.size W w' := by
  go_enter Try.func20, Try.ntmps20
  go_wp2_with fail
  refine (kreg7 t a b v n mm P ln cp _).mono ?_
  rintro e w1 ⟨g, rfl, hg, hc0, hc1, hb⟩
  have x0 := (hb.cell (p := ⟨W.heap.size, 0, none⟩) (by simp)).trans (show _ = some (Value.int .i64 7) by simp)
  have x1 := (hb.cell (p := ⟨W.heap.size, 1, none⟩) (by simp)).trans (show _ = some (Value.int .i64 t) by simp)
  have x2 := (hb.cell (p := ⟨W.heap.size, 2, none⟩) (by simp)).trans (show _ = some (Value.int .i64 a) by simp)
  have x3 := (hb.cell (p := ⟨W.heap.size, 3, none⟩) (by simp)).trans (show _ = some (Value.int .i64 b) by simp)
  have x4 := (hb.cell (p := ⟨W.heap.size, 4, none⟩) (by simp)).trans (show _ = some (Value.int .i64 v) by simp)
  have x5 := (hb.cell (p := ⟨W.heap.size, 5, none⟩) (by simp)).trans (show _ = some (Value.int .i64 n) by simp)
  have x6 := (hb.cell (p := ⟨W.heap.size, 6, none⟩) (by simp)).trans (show _ = some (Value.int .i64 mm) by simp)
  have x7 := (hb.cell (p := ⟨W.heap.size, 7, none⟩) (by simp)).trans (show _ = some (Value.slice P ln cp) by simp)
  have HB := Lib.hid ((alc0 W _).trans (hb.mono (by simp)))
  clear hb
  go_wp2_with fail
  go_loopw [18] (fun v18 wr => ∃ i : Nat, i ≤ 2 ∧ v18 = .int .i64 i ∧ w1 = wr ∧ i ≤ 0) (fun v18 _ => 2 - (intOf v18).toNat)
  case atStart => exact ⟨0, by omega, rfl, rfl, by omega⟩
  case round =>
    obtain ⟨i, hi, rfl, rfl, hib⟩ := hrel
    have hcs : i = 0 := by omega
    clear hi hib
    rcases hcs with rfl
    · by_cases hz : a < 0
      · go_wp2_with fail
        go_ret
        exact ⟨rfl, HB.out⟩
      · have hz2 : a ≥ rg := by omega
        go_wp2_with fail
        go_ret
        exact ⟨rfl, HB.out⟩
theorem kref7_r1 (t a b v n mm : Int) (P : Option Addr) (ln cp : Nat) (W : World) (rg : Int) (g0 : 0 ≤ a ∧ a < rg) (hbad : b < 0 ∨ rg ≤ b) : Calls Try.prog 20 #[opv 7 t a b v n mm P ln cp, .int .i64 rg] W fun e w' => e = .returned (.int .i64 15) ∧ Below W.heap.size W w' := by
  go_enter Try.func20, Try.ntmps20
  go_wp2_with fail
  refine (kreg7 t a b v n mm P ln cp _).mono ?_
  rintro e w1 ⟨g, rfl, hg, hc0, hc1, hb⟩
  have x0 := (hb.cell (p := ⟨W.heap.size, 0, none⟩) (by simp)).trans (show _ = some (Value.int .i64 7) by simp)
  have x1 := (hb.cell (p := ⟨W.heap.size, 1, none⟩) (by simp)).trans (show _ = some (Value.int .i64 t) by simp)
  have x2 := (hb.cell (p := ⟨W.heap.size, 2, none⟩) (by simp)).trans (show _ = some (Value.int .i64 a) by simp)
  have x3 := (hb.cell (p := ⟨W.heap.size, 3, none⟩) (by simp)).trans (show _ = some (Value.int .i64 b) by simp)
  have x4 := (hb.cell (p := ⟨W.heap.size, 4, none⟩) (by simp)).trans (show _ = some (Value.int .i64 v) by simp)
  have x5 := (hb.cell (p := ⟨W.heap.size, 5, none⟩) (by simp)).trans (show _ = some (Value.int .i64 n) by simp)
  have x6 := (hb.cell (p := ⟨W.heap.size, 6, none⟩) (by simp)).trans (show _ = some (Value.int .i64 mm) by simp)
  have x7 := (hb.cell (p := ⟨W.heap.size, 7, none⟩) (by simp)).trans (show _ = some (Value.slice P ln cp) by simp)
  have HB := Lib.hid ((alc0 W _).trans (hb.mono (by simp)))
  clear hb
  go_wp2_with fail
  go_loopw [18] (fun v18 wr => ∃ i : Nat, i ≤ 2 ∧ v18 = .int .i64 i ∧ w1 = wr ∧ i ≤ 1) (fun v18 _ => 2 - (intOf v18).toNat)
  case atStart => exact ⟨0, by omega, rfl, rfl, by omega⟩
  case round =>
    obtain ⟨i, hi, rfl, rfl, hib⟩ := hrel
    have hcs : i = 0 ∨ i = 1 := by omega
    clear hi hib
    rcases hcs with rfl | rfl
    · have hz : ¬ a < 0 := by omega
      have hz2 : ¬ a ≥ rg := by omega
      go_wp2_with fail
      go_roundw
      case rel => exact ⟨1, by omega, by first | rfl | go_num | trivial, by first | rfl | trivial, by omega⟩
      case measure => simp [intOf]
    · by_cases hz : b < 0
      · go_wp2_with fail
        go_ret
        exact ⟨rfl, HB.out⟩
      · have hz2 : b ≥ rg := by omega
        go_wp2_with fail
        go_ret
        exact ⟨rfl, HB.out⟩
theorem kref8_ok (t a b v n mm : Int) (P : Option Addr) (ln cp : Nat) (W : World) (rg : Int) (g0 : 0 ≤ a ∧ a < rg) (g1 : 0 ≤ b ∧ b < rg) : Calls Try.prog 20 #[opv 8 t a b v n mm P ln cp, .int .i64 rg] W fun e w' => e = .returned (.int .i64 0) ∧ Below W.heap.size W w' := by
  go_enter Try.func20, Try.ntmps20
  go_wp2_with fail
  refine (kreg8 t a b v n mm P ln cp _).mono ?_
  rintro e w1 ⟨g, rfl, hg, hc0, hc1, hb⟩
  have x0 := (hb.cell (p := ⟨W.heap.size, 0, none⟩) (by simp)).trans (show _ = some (Value.int .i64 8) by simp)
  have x1 := (hb.cell (p := ⟨W.heap.size, 1, none⟩) (by simp)).trans (show _ = some (Value.int .i64 t) by simp)
  have x2 := (hb.cell (p := ⟨W.heap.size, 2, none⟩) (by simp)).trans (show _ = some (Value.int .i64 a) by simp)
  have x3 := (hb.cell (p := ⟨W.heap.size, 3, none⟩) (by simp)).trans (show _ = some (Value.int .i64 b) by simp)
  have x4 := (hb.cell (p := ⟨W.heap.size, 4, none⟩) (by simp)).trans (show _ = some (Value.int .i64 v) by simp)
  have x5 := (hb.cell (p := ⟨W.heap.size, 5, none⟩) (by simp)).trans (show _ = some (Value.int .i64 n) by simp)
  have x6 := (hb.cell (p := ⟨W.heap.size, 6, none⟩) (by simp)).trans (show _ = some (Value.int .i64 mm) by simp)
  have x7 := (hb.cell (p := ⟨W.heap.size, 7, none⟩) (by simp)).trans (show _ = some (Value.slice P ln cp) by simp)
  have HB := Lib.hid ((alc0 W _).trans (hb.mono (by simp)))
  clear hb
  go_wp2_with fail
  go_loopw [18] (fun v18 wr => ∃ i : Nat, i ≤ 2 ∧ v18 = .int .i64 i ∧ w1 = wr) (fun v18 _ => 2 - (intOf v18).toNat)
  case atStart => exact ⟨0, by omega, rfl, rfl⟩
  case round =>
    obtain ⟨i, hi, rfl, rfl⟩ := hrel
    have hcs : i = 0 ∨ i = 1 ∨ i = 2 := by omega
    clear hi
    rcases hcs with rfl | rfl | rfl
    · have hz : ¬ a < 0 := by omega
      have hz2 : ¬ a ≥ rg := by omega
      go_wp2_with fail
      go_roundw
      case rel => exact ⟨1, by omega, by first | rfl | go_num | trivial, by first | rfl | trivial⟩
      case measure => simp [intOf]
    · have hz : ¬ b < 0 := by omega
      have hz2 : ¬ b ≥ rg := by omega
      go_wp2_with fail
      go_roundw
      case rel => exact ⟨2, by omega, by first | rfl | go_num | trivial, by first | rfl | trivial⟩
      case measure => simp [intOf]
    · go_wp2_with fail
      go_ret
      exact ⟨rfl, HB.out⟩
theorem kref8_r0 (t a b v n mm : Int) (P : Option Addr) (ln cp : Nat) (W : World) (rg : Int) (hbad : a < 0 ∨ rg ≤ a) : Calls Try.prog 20 #[opv 8 t a b v n mm P ln cp, .int .i64 rg] W fun e w' => e = .returned (.int .i64 15) ∧ Below W.heap.size W w' := by
  go_enter Try.func20, Try.ntmps20
  go_wp2_with fail
  refine (kreg8 t a b v n mm P ln cp _).mono ?_
  rintro e w1 ⟨g, rfl, hg, hc0, hc1, hb⟩
  have x0 := (hb.cell (p := ⟨W.heap.size, 0, none⟩) (by simp)).trans (show _ = some (Value.int .i64 8) by simp)
  have x1 := (hb.cell (p := ⟨W.heap.size, 1, none⟩) (by simp)).trans (show _ = some (Value.int .i64 t) by simp)
  have x2 := (hb.cell (p := ⟨W.heap.size, 2, none⟩) (by simp)).trans (show _ = some (Value.int .i64 a) by simp)
  have x3 := (hb.cell (p := ⟨W.heap.size, 3, none⟩) (by simp)).trans (show _ = some (Value.int .i64 b) by simp)
  have x4 := (hb.cell (p := ⟨W.heap.size, 4, none⟩) (by simp)).trans (show _ = some (Value.int .i64 v) by simp)
  have x5 := (hb.cell (p := ⟨W.heap.size, 5, none⟩) (by simp)).trans (show _ = some (Value.int .i64 n) by simp)
  have x6 := (hb.cell (p := ⟨W.heap.size, 6, none⟩) (by simp)).trans (show _ = some (Value.int .i64 mm) by simp)
  have x7 := (hb.cell (p := ⟨W.heap.size, 7, none⟩) (by simp)).trans (show _ = some (Value.slice P ln cp) by simp)
  have HB := Lib.hid ((alc0 W _).trans (hb.mono (by simp)))
  clear hb
  go_wp2_with fail
  go_loopw [18] (fun v18 wr => ∃ i : Nat, i ≤ 2 ∧ v18 = .int .i64 i ∧ w1 = wr ∧ i ≤ 0) (fun v18 _ => 2 - (intOf v18).toNat)
  case atStart => exact ⟨0, by omega, rfl, rfl, by omega⟩
  case round =>
    obtain ⟨i, hi, rfl, rfl, hib⟩ := hrel
    have hcs : i = 0 := by omega
    clear hi hib
    rcases hcs with rfl
    · by_cases hz : a < 0
      · go_wp2_with fail
        go_ret
        exact ⟨rfl, HB.out⟩
      · have hz2 : a ≥ rg := by omega
        go_wp2_with fail
        go_ret
        exact ⟨rfl, HB.out⟩
theorem kref8_r1 (t a b v n mm : Int) (P : Option Addr) (ln cp : Nat) (W : World) (rg : Int) (g0 : 0 ≤ a ∧ a < rg) (hbad : b < 0 ∨ rg ≤ b) : Calls Try.prog 20 #[opv 8 t a b v n mm P ln cp, .int .i64 rg] W fun e w' => e = .returned (.int .i64 15) ∧ Below W.heap.size W w' := by
  go_enter Try.func20, Try.ntmps20
  go_wp2_with fail
  refine (kreg8 t a b v n mm P ln cp _).mono ?_
  rintro e w1 ⟨g, rfl, hg, hc0, hc1, hb⟩
  have x0 := (hb.cell (p := ⟨W.heap.size, 0, none⟩) (by simp)).trans (show _ = some (Value.int .i64 8) by simp)
  have x1 := (hb.cell (p := ⟨W.heap.size, 1, none⟩) (by simp)).trans (show _ = some (Value.int .i64 t) by simp)
  have x2 := (hb.cell (p := ⟨W.heap.size, 2, none⟩) (by simp)).trans (show _ = some (Value.int .i64 a) by simp)
  have x3 := (hb.cell (p := ⟨W.heap.size, 3, none⟩) (by simp)).trans (show _ = some (Value.int .i64 b) by simp)
  have x4 := (hb.cell (p := ⟨W.heap.size, 4, none⟩) (by simp)).trans (show _ = some (Value.int .i64 v) by simp)
  have x5 := (hb.cell (p := ⟨W.heap.size, 5, none⟩) (by simp)).trans (show _ = some (Value.int .i64 n) by simp)
  have x6 := (hb.cell (p := ⟨W.heap.size, 6, none⟩) (by simp)).trans (show _ = some (Value.int .i64 mm) by simp)
  have x7 := (hb.cell (p := ⟨W.heap.size, 7, none⟩) (by simp)).trans (show _ = some (Value.slice P ln cp) by simp)
  have HB := Lib.hid ((alc0 W _).trans (hb.mono (by simp)))
  clear hb
  go_wp2_with fail
  go_loopw [18] (fun v18 wr => ∃ i : Nat, i ≤ 2 ∧ v18 = .int .i64 i ∧ w1 = wr ∧ i ≤ 1) (fun v18 _ => 2 - (intOf v18).toNat)
  case atStart => exact ⟨0, by omega, rfl, rfl, by omega⟩
  case round =>
    obtain ⟨i, hi, rfl, rfl, hib⟩ := hrel
    have hcs : i = 0 ∨ i = 1 := by omega
    clear hi hib
    rcases hcs with rfl | rfl
    · have hz : ¬ a < 0 := by omega
      have hz2 : ¬ a ≥ rg := by omega
      go_wp2_with fail
      go_roundw
      case rel => exact ⟨1, by omega, by first | rfl | go_num | trivial, by first | rfl | trivial, by omega⟩
      case measure => simp [intOf]
    · by_cases hz : b < 0
      · go_wp2_with fail
        go_ret
        exact ⟨rfl, HB.out⟩
      · have hz2 : b ≥ rg := by omega
        go_wp2_with fail
        go_ret
        exact ⟨rfl, HB.out⟩
theorem kref9_ok (t a b v n mm : Int) (P : Option Addr) (ln cp : Nat) (W : World) (rg : Int) (g0 : 0 ≤ a ∧ a < rg) (g1 : 0 ≤ b ∧ b < rg) : Calls Try.prog 20 #[opv 9 t a b v n mm P ln cp, .int .i64 rg] W fun e w' => e = .returned (.int .i64 0) ∧ Below W.heap.size W w' := by
  go_enter Try.func20, Try.ntmps20
  go_wp2_with fail
  refine (kreg9 t a b v n mm P ln cp _).mono ?_
  rintro e w1 ⟨g, rfl, hg, hc0, hc1, hb⟩
  have x0 := (hb.cell (p := ⟨W.heap.size, 0, none⟩) (by simp)).trans (show _ = some (Value.int .i64 9) by simp)
  have x1 := (hb.cell (p := ⟨W.heap.size, 1, none⟩) (by simp)).trans (show _ = some (Value.int .i64 t) by simp)
  have x2 := (hb.cell (p := ⟨W.heap.size, 2, none⟩) (by simp)).trans (show _ = some (Value.int .i64 a) by simp)
  have x3 := (hb.cell (p := ⟨W.heap.size, 3, none⟩) (by simp)).trans (show _ = some (Value.int .i64 b) by simp)
  have x4 := (hb.cell (p := ⟨W.heap.size, 4, none⟩) (by simp)).trans (show _ = some (Value.int .i64 v) by simp)
  have x5 := (hb.cell (p := ⟨W.heap.size, 5, none⟩) (by simp)).trans (show _ = some (Value.int .i64 n) by simp)
  have x6 := (hb.cell (p := ⟨W.heap.size, 6, none⟩) (by simp)).trans (show _ = some (Value.int .i64 mm) by simp)
  have x7 := (hb.cell (p := ⟨W.heap.size, 7, none⟩) (by simp)).trans (show _ = some (Value.slice P ln cp) by simp)
  have HB := Lib.hid ((alc0 W _).trans (hb.mono (by simp)))
  clear hb
  go_wp2_with fail
  go_loopw [18] (fun v18 wr => ∃ i : Nat, i ≤ 2 ∧ v18 = .int .i64 i ∧ w1 = wr) (fun v18 _ => 2 - (intOf v18).toNat)
  case atStart => exact ⟨0, by omega, rfl, rfl⟩
  case round =>
    obtain ⟨i, hi, rfl, rfl⟩ := hrel
    have hcs : i = 0 ∨ i = 1 ∨ i = 2 := by omega
    clear hi
    rcases hcs with rfl | rfl | rfl
    · have hz : ¬ a < 0 := by omega
      have hz2 : ¬ a ≥ rg := by omega
      go_wp2_with fail
      go_roundw
      case rel => exact ⟨1, by omega, by first | rfl | go_num | trivial, by first | rfl | trivial⟩
      case measure => simp [intOf]
    · have hz : ¬ b < 0 := by omega
      have hz2 : ¬ b ≥ rg := by omega
      go_wp2_with fail
      go_roundw
      case rel => exact ⟨2, by omega, by first | rfl | go_num | trivial, by first | rfl | trivial⟩
      case measure => simp [intOf]
    · go_wp2_with fail
      go_ret
      exact ⟨rfl, HB.out⟩
theorem kref9_r0 (t a b v n mm : Int) (P : Option Addr) (ln cp : Nat) (W : World) (rg : Int) (hbad : a < 0 ∨ rg ≤ a) : Calls Try.prog 20 #[opv 9 t a b v n mm P ln cp, .int .i64 rg] W fun e w' => e = .returned (.int .i64 15) ∧ Below W.heap.size W w' := by
  go_enter Try.func20, Try.ntmps20
  go_wp2_with fail
  refine (kreg9 t a b v n mm P ln cp _).mono ?_
  rintro e w1 ⟨g, rfl, hg, hc0, hc1, hb⟩
  have x0 := (hb.cell (p := ⟨W.heap.size, 0, none⟩) (by simp)).trans (show _ = some (Value.int .i64 9) by simp)
  have x1 := (hb.cell (p := ⟨W.heap.size, 1, none⟩) (by simp)).trans (show _ = some (Value.int .i64 t) by simp)
  have x2 := (hb.cell (p := ⟨W.heap.size, 2, none⟩) (by simp)).trans (show _ = some (Value.int .i64 a) by simp)
  have x3 := (hb.cell (p := ⟨W.heap.size, 3, none⟩) (by simp)).trans (show _ = some (Value.int .i64 b) by simp)
  have x4 := (hb.cell (p := ⟨W.heap.size, 4, none⟩) (by simp)).trans (show _ = some (Value.int .i64 v) by simp)
  have x5 := (hb.cell (p := ⟨W.heap.size, 5, none⟩) (by simp)).trans (show _ = some (Value.int .i64 n) by simp)
  have x6 := (hb.cell (p := ⟨W.heap.size, 6, none⟩) (by simp)).trans (show _ = some (Value.int .i64 mm) by simp)
  have x7 := (hb.cell (p := ⟨W.heap.size, 7, none⟩) (by simp)).trans (show _ = some (Value.slice P ln cp) by simp)
  have HB := Lib.hid ((alc0 W _).trans (hb.mono (by simp)))
  clear hb
  go_wp2_with fail
  go_loopw [18] (fun v18 wr => ∃ i : Nat, i ≤ 2 ∧ v18 = .int .i64 i ∧ w1 = wr ∧ i ≤ 0) (fun v18 _ => 2 - (intOf v18).toNat)
  case atStart => exact ⟨0, by omega, rfl, rfl, by omega⟩
  case round =>
    obtain ⟨i, hi, rfl, rfl, hib⟩ := hrel
    have hcs : i = 0 := by omega
    clear hi hib
    rcases hcs with rfl
    · by_cases hz : a < 0
      · go_wp2_with fail
        go_ret
        exact ⟨rfl, HB.out⟩
      · have hz2 : a ≥ rg := by omega
        go_wp2_with fail
        go_ret
        exact ⟨rfl, HB.out⟩
theorem kref9_r1 (t a b v n mm : Int) (P : Option Addr) (ln cp : Nat) (W : World) (rg : Int) (g0 : 0 ≤ a ∧ a < rg) (hbad : b < 0 ∨ rg ≤ b) : Calls Try.prog 20 #[opv 9 t a b v n mm P ln cp, .int .i64 rg] W fun e w' => e = .returned (.int .i64 15) ∧ Below W.heap.size W w' := by
  go_enter Try.func20, Try.ntmps20
  go_wp2_with fail
  refine (kreg9 t a b v n mm P ln cp _).mono ?_
  rintro e w1 ⟨g, rfl, hg, hc0, hc1, hb⟩
  have x0 := (hb.cell (p := ⟨W.heap.size, 0, none⟩) (by simp)).trans (show _ = some (Value.int .i64 9) by simp)
  have x1 := (hb.cell (p := ⟨W.heap.size, 1, none⟩) (by simp)).trans (show _ = some (Value.int .i64 t) by simp)
  have x2 := (hb.cell (p := ⟨W.heap.size, 2, none⟩) (by simp)).trans (show _ = some (Value.int .i64 a) by simp)
  have x3 := (hb.cell (p := ⟨W.heap.size, 3, none⟩) (by simp)).trans (show _ = some (Value.int .i64 b) by simp)
  have x4 := (hb.cell (p := ⟨W.heap.size, 4, none⟩) (by simp)).trans (show _ = some (Value.int .i64 v) by simp)
  have x5 := (hb.cell (p := ⟨W.heap.size, 5, none⟩) (by simp)).trans (show _ = some (Value.int .i64 n) by simp)
  have x6 := (hb.cell (p := ⟨W.heap.size, 6, none⟩) (by simp)).trans (show _ = some (Value.int .i64 mm) by simp)
  have x7 := (hb.cell (p := ⟨W.heap.size, 7, none⟩) (by simp)).trans (show _ = some (Value.slice P ln cp) by simp)
  have HB := Lib.hid ((alc0 W _).trans (hb.mono (by simp)))
  clear hb
  go_wp2_with fail
  go_loopw [18] (fun v18 wr => ∃ i : Nat, i ≤ 2 ∧ v18 = .int .i64 i ∧ w1 = wr ∧ i ≤ 1) (fun v18 _ => 2 - (intOf v18).toNat)
  case atStart => exact ⟨0, by omega, rfl, rfl, by omega⟩
  case round =>
    obtain ⟨i, hi, rfl, rfl, hib⟩ := hrel
    have hcs : i = 0 ∨ i = 1 := by omega
    clear hi hib
    rcases hcs with rfl | rfl
    · have hz : ¬ a < 0 := by omega
      have hz2 : ¬ a ≥ rg := by omega
      go_wp2_with fail
      go_roundw
      case rel => exact ⟨1, by omega, by first | rfl | go_num | trivial, by first | rfl | trivial, by omega⟩
      case measure => simp [intOf]
    · by_cases hz : b < 0
      · go_wp2_with fail
        go_ret
        exact ⟨rfl, HB.out⟩
      · have hz2 : b ≥ rg := by omega
        go_wp2_with fail
        go_ret
        exact ⟨rfl, HB.out⟩
theorem kref10_ok (t a b v n mm : Int) (P : Option Addr) (ln cp : Nat) (W : World) (rg : Int) (g0 : 0 ≤ a ∧ a < rg) (g1 : 0 ≤ b ∧ b < rg) : Calls Try.prog 20 #[opv 10 t a b v n mm P ln cp, .int .i64 rg] W fun e w' => e = .returned (.int .i64 0) ∧ Below W.heap.size W w' := by
  go_enter Try.func20, Try.ntmps20
  go_wp2_with fail
  refine (kreg10 t a b v n mm P ln cp _).mono ?_
  rintro e w1 ⟨g, rfl, hg, hc0, hc1, hb⟩
  have x0 := (hb.cell (p := ⟨W.heap.size, 0, none⟩) (by simp)).trans (show _ = some (Value.int .i64 10) by simp)
  have x1 := (hb.cell (p := ⟨W.heap.size, 1, none⟩) (by simp)).trans (show _ = some (Value.int .i64 t) by simp)
  have x2 := (hb.cell (p := ⟨W.heap.size, 2, none⟩) (by simp)).trans (show _ = some (Value.int .i64 a) by simp)
  have x3 := (hb.cell (p := ⟨W.heap.size, 3, none⟩) (by simp)).trans (show _ = some (Value.int .i64 b) by simp)
  have x4 := (hb.cell (p := ⟨W.heap.size, 4, none⟩) (by simp)).trans (show _ = some (Value.int .i64 v) by simp)
  have x5 := (hb.cell (p := ⟨W.heap.size, 5, none⟩) (by simp)).trans (show _ = some (Value.int .i64 n) by simp)
  have x6 := (hb.cell (p := ⟨W.heap.size, 6, none⟩) (by simp)).trans (show _ = some (Value.int .i64 mm) by simp)
  have x7 := (hb.cell (p := ⟨W.heap.size, 7, none⟩) (by simp)).trans (show _ = some (Value.slice P ln cp) by simp)
  have HB := Lib.hid ((alc0 W _).trans (hb.mono (by simp)))
  clear hb
  go_wp2_with fail
  go_loopw [18] (fun v18 wr => ∃ i : Nat, i ≤ 2 ∧ v18 = .int .i64 i ∧ w1 = wr) (fun v18 _ => 2 - (intOf v18).toNat)
  case atStart => exact ⟨0, by omega, rfl, rfl⟩
  case round =>
    obtain ⟨i, hi, rfl, rfl⟩ := hrel
    have hcs : i = 0 ∨ i = 1 ∨ i = 2 := by omega
    clear hi
    rcases hcs with rfl | rfl | rfl
    · have hz : ¬ a < 0 := by omega
      have hz2 : ¬ a ≥ rg := by omega
      go_wp2_with fail
      go_roundw
      case rel => exact ⟨1, by omega, by first | rfl | go_num | trivial, by first | rfl | trivial⟩
      case measure => simp [intOf]
    · have hz : ¬ b < 0 := by omega
      have hz2 : ¬ b ≥ rg := by omega
      go_wp2_with fail
      go_roundw
      case rel => exact ⟨2, by omega, by first | rfl | go_num | trivial, by first | rfl | trivial⟩
      case measure => simp [intOf]
    · go_wp2_with fail
      go_ret
      exact ⟨rfl, HB.out⟩
theorem kref10_r0 (t a b v n mm : Int) (P : Option Addr) (ln cp : Nat) (W : World) (rg : Int) (hbad : a < 0 ∨ rg ≤ a) : Calls Try.prog 20 #[opv 10 t a b v n mm P ln cp, .int .i64 rg] W fun e w' => e = .returned (.int .i64 15) ∧ Below W.heap.size W w' := by
  go_enter Try.func20, Try.ntmps20
  go_wp2_with fail
  refine (kreg10 t a b v n mm P ln cp _).mono ?_
  rintro e w1 ⟨g, rfl, hg, hc0, hc1, hb⟩
  have x0 := (hb.cell (p := ⟨W.heap.size, 0, none⟩) (by simp)).trans (show _ = some (Value.int .i64 10) by simp)
  have x1 := (hb.cell (p := ⟨W.heap.size, 1, none⟩) (by simp)).trans (show _ = some (Value.int .i64 t) by simp)
  have x2 := (hb.cell (p := ⟨W.heap.size, 2, none⟩) (by simp)).trans (show _ = some (Value.int .i64 a) by simp)
  have x3 := (hb.cell (p := ⟨W.heap.size, 3, none⟩) (by simp)).trans (show _ = some (Value.int .i64 b) by simp)
  have x4 := (hb.cell (p := ⟨W.heap.size, 4, none⟩) (by simp)).trans (show _ = some (Value.int .i64 v) by simp)
  have x5 := (hb.cell (p := ⟨W.heap.size, 5, none⟩) (by simp)).trans (show _ = some (Value.int .i64 n) by simp)
  have x6 := (hb.cell (p := ⟨W.heap.size, 6, none⟩) (by simp)).trans (show _ = some (Value.int .i64 mm) by simp)
  have x7 := (hb.cell (p := ⟨W.heap.size, 7, none⟩) (by simp)).trans (show _ = some (Value.slice P ln cp) by simp)
  have HB := Lib.hid ((alc0 W _).trans (hb.mono (by simp)))
  clear hb
  go_wp2_with fail
  go_loopw [18] (fun v18 wr => ∃ i : Nat, i ≤ 2 ∧ v18 = .int .i64 i ∧ w1 = wr ∧ i ≤ 0) (fun v18 _ => 2 - (intOf v18).toNat)
  case atStart => exact ⟨0, by omega, rfl, rfl, by omega⟩
  case round =>
    obtain ⟨i, hi, rfl, rfl, hib⟩ := hrel
    have hcs : i = 0 := by omega
    clear hi hib
    rcases hcs with rfl
    · by_cases hz : a < 0
      · go_wp2_with fail
        go_ret
        exact ⟨rfl, HB.out⟩
      · have hz2 : a ≥ rg := by omega
        go_wp2_with fail
        go_ret
        exact ⟨rfl, HB.out⟩
theorem kref10_r1 (t a b v n mm : Int) (P : Option Addr) (ln cp : Nat) (W : World) (rg : Int) (g0 : 0 ≤ a ∧ a < rg) (hbad : b < 0 ∨ rg ≤ b) : Calls Try.prog 20 #[opv 10 t a b v n mm P ln cp, .int .i64 rg] W fun e w' => e = .returned (.int .i64 15) ∧ Below W.heap.size W w' := by
  go_enter Try.func20, Try.ntmps20
  go_wp2_with fail
  refine (kreg10 t a b v n mm P ln cp _).mono ?_
  rintro e w1 ⟨g, rfl, hg, hc0, hc1, hb⟩
  have x0 := (hb.cell (p := ⟨W.heap.size, 0, none⟩) (by simp)).trans (show _ = some (Value.int .i64 10) by simp)
  have x1 := (hb.cell (p := ⟨W.heap.size, 1, none⟩) (by simp)).trans (show _ = some (Value.int .i64 t) by simp)
  have x2 := (hb.cell (p := ⟨W.heap.size, 2, none⟩) (by simp)).trans (show _ = some (Value.int .i64 a) by simp)
  have x3 := (hb.cell (p := ⟨W.heap.size, 3, none⟩) (by simp)).trans (show _ = some (Value.int .i64 b) by simp)
  have x4 := (hb.cell (p := ⟨W.heap.size, 4, none⟩) (by simp)).trans (show _ = some (Value.int .i64 v) by simp)
  have x5 := (hb.cell (p := ⟨W.heap.size, 5, none⟩) (by simp)).trans (show _ = some (Value.int .i64 n) by simp)
  have x6 := (hb.cell (p := ⟨W.heap.size, 6, none⟩) (by simp)).trans (show _ = some (Value.int .i64 mm) by simp)
  have x7 := (hb.cell (p := ⟨W.heap.size, 7, none⟩) (by simp)).trans (show _ = some (Value.slice P ln cp) by simp)
  have HB := Lib.hid ((alc0 W _).trans (hb.mono (by simp)))
  clear hb
  go_wp2_with fail
  go_loopw [18] (fun v18 wr => ∃ i : Nat, i ≤ 2 ∧ v18 = .int .i64 i ∧ w1 = wr ∧ i ≤ 1) (fun v18 _ => 2 - (intOf v18).toNat)
  case atStart => exact ⟨0, by omega, rfl, rfl, by omega⟩
  case round =>
    obtain ⟨i, hi, rfl, rfl, hib⟩ := hrel
    have hcs : i = 0 ∨ i = 1 := by omega
    clear hi hib
    rcases hcs with rfl | rfl
    · have hz : ¬ a < 0 := by omega
      have hz2 : ¬ a ≥ rg := by omega
      go_wp2_with fail
      go_roundw
      case rel => exact ⟨1, by omega, by first | rfl | go_num | trivial, by first | rfl | trivial, by omega⟩
      case measure => simp [intOf]
    · by_cases hz : b < 0
      · go_wp2_with fail
        go_ret
        exact ⟨rfl, HB.out⟩
      · have hz2 : b ≥ rg := by omega
        go_wp2_with fail
        go_ret
        exact ⟨rfl, HB.out⟩
theorem kref11_ok (t a b v n mm : Int) (P : Option Addr) (ln cp : Nat) (W : World) (rg : Int) (g0 : 0 ≤ b ∧ b < rg) (hbig : ¬ n > 4096) : Calls Try.prog 20 #[opv 11 t a b v n mm P ln cp, .int .i64 rg] W fun e w' => e = .returned (.int .i64 0) ∧ Below W.heap.size W w' := by
  go_enter Try.func20, Try.ntmps20
  go_wp2_with fail
  refine (kreg11 t a b v n mm P ln cp _).mono ?_
  rintro e w1 ⟨g, rfl, hg, hc0, hb⟩
  have x0 := (hb.cell (p := ⟨W.heap.size, 0, none⟩) (by simp)).trans (show _ = some (Value.int .i64 11) by simp)
  have x1 := (hb.cell (p := ⟨W.heap.size, 1, none⟩) (by simp)).trans (show _ = some (Value.int .i64 t) by simp)
  have x2 := (hb.cell (p := ⟨W.heap.size, 2, none⟩) (by simp)).trans (show _ = some (Value.int .i64 a) by simp)
  have x3 := (hb.cell (p := ⟨W.heap.size, 3, none⟩) (by simp)).trans (show _ = some (Value.int .i64 b) by simp)
  have x4 := (hb.cell (p := ⟨W.heap.size, 4, none⟩) (by simp)).trans (show _ = some (Value.int .i64 v) by simp)
  have x5 := (hb.cell (p := ⟨W.heap.size, 5, none⟩) (by simp)).trans (show _ = some (Value.int .i64 n) by simp)
  have x6 := (hb.cell (p := ⟨W.heap.size, 6, none⟩) (by simp)).trans (show _ = some (Value.int .i64 mm) by simp)
  have x7 := (hb.cell (p := ⟨W.heap.size, 7, none⟩) (by simp)).trans (show _ = some (Value.slice P ln cp) by simp)
  have HB := Lib.hid ((alc0 W _).trans (hb.mono (by simp)))
  clear hb
  go_wp2_with fail
  go_loopw [18] (fun v18 wr => ∃ i : Nat, i ≤ 1 ∧ v18 = .int .i64 i ∧ w1 = wr) (fun v18 _ => 1 - (intOf v18).toNat)
  case atStart => exact ⟨0, by omega, rfl, rfl⟩
  case round =>
    obtain ⟨i, hi, rfl, rfl⟩ := hrel
    have hcs : i = 0 ∨ i = 1 := by omega
    clear hi
    rcases hcs with rfl | rfl
    · have hz : ¬ b < 0 := by omega
      have hz2 : ¬ b ≥ rg := by omega
      go_wp2_with fail
      go_roundw
      case rel => exact ⟨1, by omega, by first | rfl | go_num | trivial, by first | rfl | trivial⟩
      case measure => simp [intOf]
    · go_wp2_with fail
      go_ret
      exact ⟨rfl, HB.out⟩
theorem kref11_big (t a b v n mm : Int) (P : Option Addr) (ln cp : Nat) (W : World) (rg : Int) (g0 : 0 ≤ b ∧ b < rg) (hbig : n > 4096) : Calls Try.prog 20 #[opv 11 t a b v n mm P ln cp, .int .i64 rg] W fun e w' => e = .returned (.int .i64 4) ∧ Below W.heap.size W w' := by
  go_enter Try.func20, Try.ntmps20
  go_wp2_with fail
  refine (kreg11 t a b v n mm P ln cp _).mono ?_
  rintro e w1 ⟨g, rfl, hg, hc0, hb⟩
  have x0 := (hb.cell (p := ⟨W.heap.size, 0, none⟩) (by simp)).trans (show _ = some (Value.int .i64 11) by simp)
  have x1 := (hb.cell (p := ⟨W.heap.size, 1, none⟩) (by simp)).trans (show _ = some (Value.int .i64 t) by simp)
  have x2 := (hb.cell (p := ⟨W.heap.size, 2, none⟩) (by simp)).trans (show _ = some (Value.int .i64 a) by simp)
  have x3 := (hb.cell (p := ⟨W.heap.size, 3, none⟩) (by simp)).trans (show _ = some (Value.int .i64 b) by simp)
  have x4 := (hb.cell (p := ⟨W.heap.size, 4, none⟩) (by simp)).trans (show _ = some (Value.int .i64 v) by simp)
  have x5 := (hb.cell (p := ⟨W.heap.size, 5, none⟩) (by simp)).trans (show _ = some (Value.int .i64 n) by simp)
  have x6 := (hb.cell (p := ⟨W.heap.size, 6, none⟩) (by simp)).trans (show _ = some (Value.int .i64 mm) by simp)
  have x7 := (hb.cell (p := ⟨W.heap.size, 7, none⟩) (by simp)).trans (show _ = some (Value.slice P ln cp) by simp)
  have HB := Lib.hid ((alc0 W _).trans (hb.mono (by simp)))
  clear hb
  go_wp2_with fail
  go_loopw [18] (fun v18 wr => ∃ i : Nat, i ≤ 1 ∧ v18 = .int .i64 i ∧ w1 = wr) (fun v18 _ => 1 - (intOf v18).toNat)
  case atStart => exact ⟨0, by omega, rfl, rfl⟩
  case round =>
    obtain ⟨i, hi, rfl, rfl⟩ := hrel
    have hcs : i = 0 ∨ i = 1 := by omega
    clear hi
    rcases hcs with rfl | rfl
    · have hz : ¬ b < 0 := by omega
      have hz2 : ¬ b ≥ rg := by omega
      go_wp2_with fail
      go_roundw
      case rel => exact ⟨1, by omega, by first | rfl | go_num | trivial, by first | rfl | trivial⟩
      case measure => simp [intOf]
    · go_wp2_with fail
      go_ret
      exact ⟨rfl, HB.out⟩
theorem kref11_r0 (t a b v n mm : Int) (P : Option Addr) (ln cp : Nat) (W : World) (rg : Int) (hbad : b < 0 ∨ rg ≤ b) : Calls Try.prog 20 #[opv 11 t a b v n mm P ln cp, .int .i64 rg] W fun e w' => e = .returned (.int .i64 15) ∧ Below W.heap.size W w' := by
  go_enter Try.func20, Try.ntmps20
  go_wp2_with fail
  refine (kreg11 t a b v n mm P ln cp _).mono ?_
  rintro e w1 ⟨g, rfl, hg, hc0, hb⟩
  have x0 := (hb.cell (p := ⟨W.heap.size, 0, none⟩) (by simp)).trans (show _ = some (Value.int .i64 11) by simp)
  have x1 := (hb.cell (p := ⟨W.heap.size, 1, none⟩) (by simp)).trans (show _ = some (Value.int .i64 t) by simp)
  have x2 := (hb.cell (p := ⟨W.heap.size, 2, none⟩) (by simp)).trans (show _ = some (Value.int .i64 a) by simp)
  have x3 := (hb.cell (p := ⟨W.heap.size, 3, none⟩) (by simp)).trans (show _ = some (Value.int .i64 b) by simp)
  have x4 := (hb.cell (p := ⟨W.heap.size, 4, none⟩) (by simp)).trans (show _ = some (Value.int .i64 v) by simp)
  have x5 := (hb.cell (p := ⟨W.heap.size, 5, none⟩) (by simp)).trans (show _ = some (Value.int .i64 n) by simp)
  have x6 := (hb.cell (p := ⟨W.heap.size, 6, none⟩) (by simp)).trans (show _ = some (Value.int .i64 mm) by simp)
  have x7 := (hb.cell (p := ⟨W.heap.size, 7, none⟩) (by simp)).trans (show _ = some (Value.slice P ln cp) by simp)
  have HB := Lib.hid ((alc0 W _).trans (hb.mono (by simp)))
  clear hb
  go_wp2_with fail
  go_loopw [18] (fun v18 wr => ∃ i : Nat, i ≤ 1 ∧ v18 = .int .i64 i ∧ w1 = wr ∧ i ≤ 0) (fun v18 _ => 1 - (intOf v18).toNat)
  case atStart => exact ⟨0, by omega, rfl, rfl, by omega⟩
  case round =>
    obtain ⟨i, hi, rfl, rfl, hib⟩ := hrel
    have hcs : i = 0 := by omega
    clear hi hib
    rcases hcs with rfl
    · by_cases hz : b < 0
      · go_wp2_with fail
        go_ret
        exact ⟨rfl, HB.out⟩
      · have hz2 : b ≥ rg := by omega
        go_wp2_with fail
        go_ret
        exact ⟨rfl, HB.out⟩
theorem kref12_ok (t a b v n mm : Int) (P : Option Addr) (ln cp : Nat) (W : World) (rg : Int) (g0 : 0 ≤ b ∧ b < rg) (hbig : ¬ (ln : Int) > 4096) : Calls Try.prog 20 #[opv 12 t a b v n mm P ln cp, .int .i64 rg] W fun e w' => e = .returned (.int .i64 0) ∧ Below W.heap.size W w' := by
  go_enter Try.func20, Try.ntmps20
  go_wp2_with fail
  refine (kreg12 t a b v n mm P ln cp _).mono ?_
  rintro e w1 ⟨g, rfl, hg, hc0, hb⟩
  have x0 := (hb.cell (p := ⟨W.heap.size, 0, none⟩) (by simp)).trans (show _ = some (Value.int .i64 12) by simp)
  have x1 := (hb.cell (p := ⟨W.heap.size, 1, none⟩) (by simp)).trans (show _ = some (Value.int .i64 t) by simp)
  have x2 := (hb.cell (p := ⟨W.heap.size, 2, none⟩) (by simp)).trans (show _ = some (Value.int .i64 a) by simp)
  have x3 := (hb.cell (p := ⟨W.heap.size, 3, none⟩) (by simp)).trans (show _ = some (Value.int .i64 b) by simp)
  have x4 := (hb.cell (p := ⟨W.heap.size, 4, none⟩) (by simp)).trans (show _ = some (Value.int .i64 v) by simp)
  have x5 := (hb.cell (p := ⟨W.heap.size, 5, none⟩) (by simp)).trans (show _ = some (Value.int .i64 n) by simp)
  have x6 := (hb.cell (p := ⟨W.heap.size, 6, none⟩) (by simp)).trans (show _ = some (Value.int .i64 mm) by simp)
  have x7 := (hb.cell (p := ⟨W.heap.size, 7, none⟩) (by simp)).trans (show _ = some (Value.slice P ln cp) by simp)
  have HB := Lib.hid ((alc0 W _).trans (hb.mono (by simp)))
  clear hb
  go_wp2_with fail
  go_loopw [18] (fun v18 wr => ∃ i : Nat, i ≤ 1 ∧ v18 = .int .i64 i ∧ w1 = wr) (fun v18 _ => 1 - (intOf v18).toNat)
  case atStart => exact ⟨0, by omega, rfl, rfl⟩
  case round =>
    obtain ⟨i, hi, rfl, rfl⟩ := hrel
    have hcs : i = 0 ∨ i = 1 := by omega
    clear hi
    rcases hcs with rfl | rfl
    · have hz : ¬ b < 0 := by omega
      have hz2 : ¬ b ≥ rg := by omega
      go_wp2_with fail
      go_roundw
      case rel => exact ⟨1, by omega, by first | rfl | go_num | trivial, by first | rfl | trivial⟩
      case measure => simp [intOf]
    · go_wp2_with fail
      go_ret
      exact ⟨rfl, HB.out⟩
theorem kref12_big (t a b v n mm : Int) (P : Option Addr) (ln cp : Nat) (W : World) (rg : Int) (g0 : 0 ≤ b ∧ b < rg) (hbig : (ln : Int) > 4096) : Calls Try.prog 20 #[opv 12 t a b v n mm P ln cp, .int .i64 rg] W fun e w' => e = .returned (.int .i64 4) ∧ Below W.heap.size W w' := by
  go_enter Try.func20, Try.ntmps20
  go_wp2_with fail
  refine (kreg12 t a b v n mm P ln cp _).mono ?_
  rintro e w1 ⟨g, rfl, hg, hc0, hb⟩
  have x0 := (hb.cell (p := ⟨W.heap.size, 0, none⟩) (by simp)).trans (show _ = some (Value.int .i64 12) by simp)
  have x1 := (hb.cell (p := ⟨W.heap.size, 1, none⟩) (by simp)).trans (show _ = some (Value.int .i64 t) by simp)
  have x2 := (hb.cell (p := ⟨W.heap.size, 2, none⟩) (by simp)).trans (show _ = some (Value.int .i64 a) by simp)
  have x3 := (hb.cell (p := ⟨W.heap.size, 3, none⟩) (by simp)).trans (show _ = some (Value.int .i64 b) by simp)
  have x4 := (hb.cell (p := ⟨W.heap.size, 4, none⟩) (by simp)).trans (show _ = some (Value.int .i64 v) by simp)
  have x5 := (hb.cell (p := ⟨W.heap.size, 5, none⟩) (by simp)).trans (show _ = some (Value.int .i64 n) by simp)
  have x6 := (hb.cell (p := ⟨W.heap.size, 6, none⟩) (by simp)).trans (show _ = some (Value.int .i64 mm) by simp)
  have x7 := (hb.cell (p := ⟨W.heap.size, 7, none⟩) (by simp)).trans (show _ = some (Value.slice P ln cp) by simp)
  have HB := Lib.hid ((alc0 W _).trans (hb.mono (by simp)))
  clear hb
  go_wp2_with fail
  go_loopw [18] (fun v18 wr => ∃ i : Nat, i ≤ 1 ∧ v18 = .int .i64 i ∧ w1 = wr) (fun v18 _ => 1 - (intOf v18).toNat)
  case atStart => exact ⟨0, by omega, rfl, rfl⟩
  case round =>
    obtain ⟨i, hi, rfl, rfl⟩ := hrel
    have hcs : i = 0 ∨ i = 1 := by omega
    clear hi
    rcases hcs with rfl | rfl
    · have hz : ¬ b < 0 := by omega
      have hz2 : ¬ b ≥ rg := by omega
      go_wp2_with fail
      go_roundw
      case rel => exact ⟨1, by omega, by first | rfl | go_num | trivial, by first | rfl | trivial⟩
      case measure => simp [intOf]
    · go_wp2_with fail
      go_ret
      exact ⟨rfl, HB.out⟩
theorem kref12_r0 (t a b v n mm : Int) (P : Option Addr) (ln cp : Nat) (W : World) (rg : Int) (hbad : b < 0 ∨ rg ≤ b) : Calls Try.prog 20 #[opv 12 t a b v n mm P ln cp, .int .i64 rg] W fun e w' => e = .returned (.int .i64 15) ∧ Below W.heap.size W w' := by
  go_enter Try.func20, Try.ntmps20
  go_wp2_with fail
  refine (kreg12 t a b v n mm P ln cp _).mono ?_
  rintro e w1 ⟨g, rfl, hg, hc0, hb⟩
  have x0 := (hb.cell (p := ⟨W.heap.size, 0, none⟩) (by simp)).trans (show _ = some (Value.int .i64 12) by simp)
  have x1 := (hb.cell (p := ⟨W.heap.size, 1, none⟩) (by simp)).trans (show _ = some (Value.int .i64 t) by simp)
  have x2 := (hb.cell (p := ⟨W.heap.size, 2, none⟩) (by simp)).trans (show _ = some (Value.int .i64 a) by simp)
  have x3 := (hb.cell (p := ⟨W.heap.size, 3, none⟩) (by simp)).trans (show _ = some (Value.int .i64 b) by simp)
  have x4 := (hb.cell (p := ⟨W.heap.size, 4, none⟩) (by simp)).trans (show _ = some (Value.int .i64 v) by simp)
  have x5 := (hb.cell (p := ⟨W.heap.size, 5, none⟩) (by simp)).trans (show _ = some (Value.int .i64 n) by simp)
  have x6 := (hb.cell (p := ⟨W.heap.size, 6, none⟩) (by simp)).trans (show _ = some (Value.int .i64 mm) by simp)
  have x7 := (hb.cell (p := ⟨W.heap.size, 7, none⟩) (by simp)).trans (show _ = some (Value.slice P ln cp) by simp)
  have HB := Lib.hid ((alc0 W _).trans (hb.mono (by simp)))
  clear hb
  go_wp2_with fail
  go_loopw [18] (fun v18 wr => ∃ i : Nat, i ≤ 1 ∧ v18 = .int .i64 i ∧ w1 = wr ∧ i ≤ 0) (fun v18 _ => 1 - (intOf v18).toNat)
  case atStart => exact ⟨0, by omega, rfl, rfl, by omega⟩
  case round =>
    obtain ⟨i, hi, rfl, rfl, hib⟩ := hrel
    have hcs : i = 0 := by omega
    clear hi hib
    rcases hcs with rfl
    · by_cases hz : b < 0
      · go_wp2_with fail
        go_ret
        exact ⟨rfl, HB.out⟩
      · have hz2 : b ≥ rg := by omega
        go_wp2_with fail
        go_ret
        exact ⟨rfl, HB.out⟩
theorem kref13_ok (t a b v n mm : Int) (P : Option Addr) (ln cp : Nat) (W : World) (rg : Int) (g0 : 0 ≤ a ∧ a < rg) (g1 : 0 ≤ b ∧ b < rg) : Calls Try.prog 20 #[opv 13 t a b v n mm P ln cp, .int .i64 rg] W fun e w' => e = .returned (.int .i64 0) ∧ Below W.heap.size W w' := by
  go_enter Try.func20, Try.ntmps20
  go_wp2_with fail
  refine (kreg13 t a b v n mm P ln cp _).mono ?_
  rintro e w1 ⟨g, rfl, hg, hc0, hc1, hb⟩
  have x0 := (hb.cell (p := ⟨W.heap.size, 0, none⟩) (by simp)).trans (show _ = some (Value.int .i64 13) by simp)
  have x1 := (hb.cell (p := ⟨W.heap.size, 1, none⟩) (by simp)).trans (show _ = some (Value.int .i64 t) by simp)
  have x2 := (hb.cell (p := ⟨W.heap.size, 2, none⟩) (by simp)).trans (show _ = some (Value.int .i64 a) by simp)
  have x3 := (hb.cell (p := ⟨W.heap.size, 3, none⟩) (by simp)).trans (show _ = some (Value.int .i64 b) by simp)
  have x4 := (hb.cell (p := ⟨W.heap.size, 4, none⟩) (by simp)).trans (show _ = some (Value.int .i64 v) by simp)
  have x5 := (hb.cell (p := ⟨W.heap.size, 5, none⟩) (by simp)).trans (show _ = some (Value.int .i64 n) by simp)
  have x6 := (hb.cell (p := ⟨W.heap.size, 6, none⟩) (by simp)).trans (show _ = some (Value.int .i64 mm) by simp)
  have x7 := (hb.cell (p := ⟨W.heap.size, 7, none⟩) (by simp)).trans (show _ = some (Value.slice P ln cp) by simp)
  have HB := Lib.hid ((alc0 W _).trans (hb.mono (by simp)))
  clear hb
  go_wp2_with fail
  go_loopw [18] (fun v18 wr => ∃ i : Nat, i ≤ 2 ∧ v18 = .int .i64 i ∧ w1 = wr) (fun v18 _ => 2 - (intOf v18).toNat)
  case atStart => exact ⟨0, by omega, rfl, rfl⟩
  case round =>
    obtain ⟨i, hi, rfl, rfl⟩ := hrel
    have hcs : i = 0 ∨ i = 1 ∨ i = 2 := by omega
    clear hi
    rcases hcs with rfl | rfl | rfl
    · have hz : ¬ a < 0 := by omega
      have hz2 : ¬ a ≥ rg := by omega
      go_wp2_with fail
      go_roundw
      case rel => exact ⟨1, by omega, by first | rfl | go_num | trivial, by first | rfl | trivial⟩
      case measure => simp [intOf]
    · have hz : ¬ b < 0 := by omega
      have hz2 : ¬ b ≥ rg := by omega
      go_wp2_with fail
      go_roundw
      case rel => exact ⟨2, by omega, by first | rfl | go_num | trivial, by first | rfl | trivial⟩
      case measure => simp [intOf]
    · go_wp2_with fail
      go_ret
      exact ⟨rfl, HB.out⟩
theorem kref13_r0 (t a b v n mm : Int) (P : Option Addr) (ln cp : Nat) (W : World) (rg : Int) (hbad : a < 0 ∨ rg ≤ a) : Calls Try.prog 20 #[opv 13 t a b v n mm P ln cp, .int .i64 rg] W fun e w' => e = .returned (.int .i64 15) ∧ Below W.heap.size W w' := by
  go_enter Try.func20, Try.ntmps20
  go_wp2_with fail
  refine (kreg13 t a b v n mm P ln cp _).mono ?_
  rintro e w1 ⟨g, rfl, hg, hc0, hc1, hb⟩
  have x0 := (hb.cell (p := ⟨W.heap.size, 0, none⟩) (by simp)).trans (show _ = some (Value.int .i64 13) by simp)
  have x1 := (hb.cell (p := ⟨W.heap.size, 1, none⟩) (by simp)).trans (show _ = some (Value.int .i64 t) by simp)
  have x2 := (hb.cell (p := ⟨W.heap.size, 2, none⟩) (by simp)).trans (show _ = some (Value.int .i64 a) by simp)
  have x3 := (hb.cell (p := ⟨W.heap.size, 3, none⟩) (by simp)).trans (show _ = some (Value.int .i64 b) by simp)
  have x4 := (hb.cell (p := ⟨W.heap.size, 4, none⟩) (by simp)).trans (show _ = some (Value.int .i64 v) by simp)
  have x5 := (hb.cell (p := ⟨W.heap.size, 5, none⟩) (by simp)).trans (show _ = some (Value.int .i64 n) by simp)
  have x6 := (hb.cell (p := ⟨W.heap.size, 6, none⟩) (by simp)).trans (show _ = some (Value.int .i64 mm) by simp)
  have x7 := (hb.cell (p := ⟨W.heap.size, 7, none⟩) (by simp)).trans (show _ = some (Value.slice P ln cp) by simp)
  have HB := Lib.hid ((alc0 W _).trans (hb.mono (by simp)))
  clear hb
  go_wp2_with fail
  go_loopw [18] (fun v18 wr => ∃ i : Nat, i ≤ 2 ∧ v18 = .int .i64 i ∧ w1 = wr ∧ i ≤ 0) (fun v18 _ => 2 - (intOf v18).toNat)
  case atStart => exact ⟨0, by omega, rfl, rfl, by omega⟩
  case round =>
    obtain ⟨i, hi, rfl, rfl, hib⟩ := hrel
    have hcs : i = 0 := by omega
    clear hi hib
    rcases hcs with rfl
    · by_cases hz : a < 0
      · go_wp2_with fail
        go_ret
        exact ⟨rfl, HB.out⟩
      · have hz2 : a ≥ rg := by omega
        go_wp2_with fail
        go_ret
        exact ⟨rfl, HB.out⟩
theorem kref13_r1 (t a b v n mm : Int) (P : Option Addr) (ln cp : Nat) (W : World) (rg : Int) (g0 : 0 ≤ a ∧ a < rg) (hbad : b < 0 ∨ rg ≤ b) : Calls Try.prog 20 #[opv 13 t a b v n mm P ln cp, .int .i64 rg] W fun e w' => e = .returned (.int .i64 15) ∧ Below W.heap.size W w' := by
  go_enter Try.func20, Try.ntmps20
  go_wp2_with fail
  refine (kreg13 t a b v n mm P ln cp _).mono ?_
  rintro e w1 ⟨g, rfl, hg, hc0, hc1, hb⟩
  have x0 := (hb.cell (p := ⟨W.heap.size, 0, none⟩) (by simp)).trans (show _ = some (Value.int .i64 13) by simp)
  have x1 := (hb.cell (p := ⟨W.heap.size, 1, none⟩) (by simp)).trans (show _ = some (Value.int .i64 t) by simp)
  have x2 := (hb.cell (p := ⟨W.heap.size, 2, none⟩) (by simp)).trans (show _ = some (Value.int .i64 a) by simp)
  have x3 := (hb.cell (p := ⟨W.heap.size, 3, none⟩) (by simp)).trans (show _ = some (Value.int .i64 b) by simp)
  have x4 := (hb.cell (p := ⟨W.heap.size, 4, none⟩) (by simp)).trans (show _ = some (Value.int .i64 v) by simp)
  have x5 := (hb.cell (p := ⟨W.heap.size, 5, none⟩) (by simp)).trans (show _ = some (Value.int .i64 n) by simp)
  have x6 := (hb.cell (p := ⟨W.heap.size, 6, none⟩) (by simp)).trans (show _ = some (Value.int .i64 mm) by simp)
  have x7 := (hb.cell (p := ⟨W.heap.size, 7, none⟩) (by simp)).trans (show _ = some (Value.slice P ln cp) by simp)
  have HB := Lib.hid ((alc0 W _).trans (hb.mono (by simp)))
  clear hb
  go_wp2_with fail
  go_loopw [18] (fun v18 wr => ∃ i : Nat, i ≤ 2 ∧ v18 = .int .i64 i ∧ w1 = wr ∧ i ≤ 1) (fun v18 _ => 2 - (intOf v18).toNat)
  case atStart => exact ⟨0, by omega, rfl, rfl, by omega⟩
  case round =>
    obtain ⟨i, hi, rfl, rfl, hib⟩ := hrel
    have hcs : i = 0 ∨ i = 1 := by omega
    clear hi hib
    rcases hcs with rfl | rfl
    · have hz : ¬ a < 0 := by omega
      have hz2 : ¬ a ≥ rg := by omega
      go_wp2_with fail
      go_roundw
      case rel => exact ⟨1, by omega, by first | rfl | go_num | trivial, by first | rfl | trivial, by omega⟩
      case measure => simp [intOf]
    · by_cases hz : b < 0
      · go_wp2_with fail
        go_ret
        exact ⟨rfl, HB.out⟩
      · have hz2 : b ≥ rg := by omega
        go_wp2_with fail
        go_ret
        exact ⟨rfl, HB.out⟩
theorem kref14_ok (t a b v n mm : Int) (P : Option Addr) (ln cp : Nat) (W : World) (rg : Int) (g0 : 0 ≤ b ∧ b < rg) (g1 : 0 ≤ v ∧ v < rg) : Calls Try.prog 20 #[opv 14 t a b v n mm P ln cp, .int .i64 rg] W fun e w' => e = .returned (.int .i64 0) ∧ Below W.heap.size W w' := by
  go_enter Try.func20, Try.ntmps20
  go_wp2_with fail
  refine (kreg14 t a b v n mm P ln cp _).mono ?_
  rintro e w1 ⟨g, rfl, hg, hc0, hc1, hb⟩
  have x0 := (hb.cell (p := ⟨W.heap.size, 0, none⟩) (by simp)).trans (show _ = some (Value.int .i64 14) by simp)
  have x1 := (hb.cell (p := ⟨W.heap.size, 1, none⟩) (by simp)).trans (show _ = some (Value.int .i64 t) by simp)
  have x2 := (hb.cell (p := ⟨W.heap.size, 2, none⟩) (by simp)).trans (show _ = some (Value.int .i64 a) by simp)
  have x3 := (hb.cell (p := ⟨W.heap.size, 3, none⟩) (by simp)).trans (show _ = some (Value.int .i64 b) by simp)
  have x4 := (hb.cell (p := ⟨W.heap.size, 4, none⟩) (by simp)).trans (show _ = some (Value.int .i64 v) by simp)
  have x5 := (hb.cell (p := ⟨W.heap.size, 5, none⟩) (by simp)).trans (show _ = some (Value.int .i64 n) by simp)
  have x6 := (hb.cell (p := ⟨W.heap.size, 6, none⟩) (by simp)).trans (show _ = some (Value.int .i64 mm) by simp)
  have x7 := (hb.cell (p := ⟨W.heap.size, 7, none⟩) (by simp)).trans (show _ = some (Value.slice P ln cp) by simp)
  have HB := Lib.hid ((alc0 W _).trans (hb.mono (by simp)))
  clear hb
  go_wp2_with fail
  go_loopw [18] (fun v18 wr => ∃ i : Nat, i ≤ 2 ∧ v18 = .int .i64 i ∧ w1 = wr) (fun v18 _ => 2 - (intOf v18).toNat)
  case atStart => exact ⟨0, by omega, rfl, rfl⟩
  case round =>
    obtain ⟨i, hi, rfl, rfl⟩ := hrel
    have hcs : i = 0 ∨ i = 1 ∨ i = 2 := by omega
    clear hi
    rcases hcs with rfl | rfl | rfl
    · have hz : ¬ b < 0 := by omega
      have hz2 : ¬ b ≥ rg := by omega
      go_wp2_with fail
      go_roundw
      case rel => exact ⟨1, by omega, by first | rfl | go_num | trivial, by first | rfl | trivial⟩
      case measure => simp [intOf]
    · have hz : ¬ v < 0 := by omega
      have hz2 : ¬ v ≥ rg := by omega
      go_wp2_with fail
      go_roundw
      case rel => exact ⟨2, by omega, by first | rfl | go_num | trivial, by first | rfl | trivial⟩
      case measure => simp [intOf]
    · go_wp2_with fail
      go_ret
      exact ⟨rfl, HB.out⟩
theorem kref14_r0 (t a b v n mm : Int) (P : Option Addr) (ln cp : Nat) (W : World) (rg : Int) (hbad : b < 0 ∨ rg ≤ b) : Calls Try.prog 20 #[opv 14 t a b v n mm P ln cp, .int .i64 rg] W fun e w' => e = .returned (.int .i64 15) ∧ Below W.heap.size W w' := by
  go_enter Try.func20, Try.ntmps20
  go_wp2_with fail
  refine (kreg14 t a b v n mm P ln cp _).mono ?_
  rintro e w1 ⟨g, rfl, hg, hc0, hc1, hb⟩
  have x0 := (hb.cell (p := ⟨W.heap.size, 0, none⟩) (by simp)).trans (show _ = some (Value.int .i64 14) by simp)
  have x1 := (hb.cell (p := ⟨W.heap.size, 1, none⟩) (by simp)).trans (show _ = some (Value.int .i64 t) by simp)
  have x2 := (hb.cell (p := ⟨W.heap.size, 2, none⟩) (by simp)).trans (show _ = some (Value.int .i64 a) by simp)
  have x3 := (hb.cell (p := ⟨W.heap.size, 3, none⟩) (by simp)).trans (show _ = some (Value.int .i64 b) by simp)
  have x4 := (hb.cell (p := ⟨W.heap.size, 4, none⟩) (by simp)).trans (show _ = some (Value.int .i64 v) by simp)
  have x5 := (hb.cell (p := ⟨W.heap.size, 5, none⟩) (by simp)).trans (show _ = some (Value.int .i64 n) by simp)
  have x6 := (hb.cell (p := ⟨W.heap.size, 6, none⟩) (by simp)).trans (show _ = some (Value.int .i64 mm) by simp)
  have x7 := (hb.cell (p := ⟨W.heap.size, 7, none⟩) (by simp)).trans (show _ = some (Value.slice P ln cp) by simp)
  have HB := Lib.hid ((alc0 W _).trans (hb.mono (by simp)))
  clear hb
  go_wp2_with fail
  go_loopw [18] (fun v18 wr => ∃ i : Nat, i ≤ 2 ∧ v18 = .int .i64 i ∧ w1 = wr ∧ i ≤ 0) (fun v18 _ => 2 - (intOf v18).toNat)
  case atStart => exact ⟨0, by omega, rfl, rfl, by omega⟩
  case round =>
    obtain ⟨i, hi, rfl, rfl, hib⟩ := hrel
    have hcs : i = 0 := by omega
    clear hi hib
    rcases hcs with rfl
    · by_cases hz : b < 0
      · go_wp2_with fail
        go_ret
        exact ⟨rfl, HB.out⟩
      · have hz2 : b ≥ rg := by omega
        go_wp2_with fail
        go_ret
        exact ⟨rfl, HB.out⟩
theorem kref14_r1 (t a b v n mm : Int) (P : Option Addr) (ln cp : Nat) (W : World) (rg : Int) (g0 : 0 ≤ b ∧ b < rg) (hbad : v < 0 ∨ rg ≤ v) : Calls Try.prog 20 #[opv 14 t a b v n mm P ln cp, .int .i64 rg] W fun e w' => e = .returned (.int .i64 15) ∧ Below W.heap.size W w' := by
  go_enter Try.func20, Try.ntmps20
  go_wp2_with fail
  refine (kreg14 t a b v n mm P ln cp _).mono ?_
  rintro e w1 ⟨g, rfl, hg, hc0, hc1, hb⟩
  have x0 := (hb.cell (p := ⟨W.heap.size, 0, none⟩) (by simp)).trans (show _ = some (Value.int .i64 14) by simp)
  have x1 := (hb.cell (p := ⟨W.heap.size, 1, none⟩) (by simp)).trans (show _ = some (Value.int .i64 t) by simp)
  have x2 := (hb.cell (p := ⟨W.heap.size, 2, none⟩) (by simp)).trans (show _ = some (Value.int .i64 a) by simp)
  have x3 := (hb.cell (p := ⟨W.heap.size, 3, none⟩) (by simp)).trans (show _ = some (Value.int .i64 b) by simp)
  have x4 := (hb.cell (p := ⟨W.heap.size, 4, none⟩) (by simp)).trans (show _ = some (Value.int .i64 v) by simp)
  have x5 := (hb.cell (p := ⟨W.heap.size, 5, none⟩) (by simp)).trans (show _ = some (Value.int .i64 n) by simp)
  have x6 := (hb.cell (p := ⟨W.heap.size, 6, none⟩) (by simp)).trans (show _ = some (Value.int .i64 mm) by simp)
  have x7 := (hb.cell (p := ⟨W.heap.size, 7, none⟩) (by simp)).trans (show _ = some (Value.slice P ln cp) by simp)
  have HB := Lib.hid ((alc0 W _).trans (hb.mono (by simp)))
  clear hb
  go_wp2_with fail
  go_loopw [18] (fun v18 wr => ∃ i : Nat, i ≤ 2 ∧ v18 = .int .i64 i ∧ w1 = wr ∧ i ≤ 1) (fun v18 _ => 2 - (intOf v18).toNat)
  case atStart => exact ⟨0, by omega, rfl, rfl, by omega⟩
  case round =>
    obtain ⟨i, hi, rfl, rfl, hib⟩ := hrel
    have hcs : i = 0 ∨ i = 1 := by omega
    clear hi hib
    rcases hcs with rfl | rfl
    · have hz : ¬ b < 0 := by omega
      have hz2 : ¬ b ≥ rg := by omega
      go_wp2_with fail
      go_roundw
      case rel => exact ⟨1, by omega, by first | rfl | go_num | trivial, by first | rfl | trivial, by omega⟩
      case measure => simp [intOf]
    · by_cases hz : v < 0
      · go_wp2_with fail
        go_ret
        exact ⟨rfl, HB.out⟩
      · have hz2 : v ≥ rg := by omega
        go_wp2_with fail
        go_ret
        exact ⟨rfl, HB.out⟩
theorem kref15_ok (t a b v n mm : Int) (P : Option Addr) (ln cp : Nat) (W : World) (rg : Int) : Calls Try.prog 20 #[opv 15 t a b v n mm P ln cp, .int .i64 rg] W fun e w' => e = .returned (.int .i64 0) ∧ Below W.heap.size W w' := by
  go_enter Try.func20, Try.ntmps20
  go_wp2_with fail
  refine (kreg15 t a b v n mm P ln cp _).mono ?_
  rintro e w1 ⟨rfl, hb⟩
  have x0 := (hb.cell (p := ⟨W.heap.size, 0, none⟩) (by simp)).trans (show _ = some (Value.int .i64 15) by simp)
  have x1 := (hb.cell (p := ⟨W.heap.size, 1, none⟩) (by simp)).trans (show _ = some (Value.int .i64 t) by simp)
  have x2 := (hb.cell (p := ⟨W.heap.size, 2, none⟩) (by simp)).trans (show _ = some (Value.int .i64 a) by simp)
  have x3 := (hb.cell (p := ⟨W.heap.size, 3, none⟩) (by simp)).trans (show _ = some (Value.int .i64 b) by simp)
  have x4 := (hb.cell (p := ⟨W.heap.size, 4, none⟩) (by simp)).trans (show _ = some (Value.int .i64 v) by simp)
  have x5 := (hb.cell (p := ⟨W.heap.size, 5, none⟩) (by simp)).trans (show _ = some (Value.int .i64 n) by simp)
  have x6 := (hb.cell (p := ⟨W.heap.size, 6, none⟩) (by simp)).trans (show _ = some (Value.int .i64 mm) by simp)
  have x7 := (hb.cell (p := ⟨W.heap.size, 7, none⟩) (by simp)).trans (show _ = some (Value.slice P ln cp) by simp)
  have HB := Lib.hid ((alc0 W _).trans (hb.mono (by simp)))
  clear hb
  go_wp2_with fail
  go_loopw [18] (fun v18 wr => v18 = .int .i64 0 ∧ w1 = wr) (fun _ _ => 0)
  case atStart => exact ⟨rfl, rfl⟩
  case round =>
    obtain ⟨rfl, rfl⟩ := hrel
    go_wp2_with fail
    go_ret
    exact ⟨rfl, HB.out⟩
theorem kref16_ok (t a b v n mm : Int) (P : Option Addr) (ln cp : Nat) (W : World) (rg : Int) : Calls Try.prog 20 #[opv 16 t a b v n mm P ln cp, .int .i64 rg] W fun e w' => e = .returned (.int .i64 0) ∧ Below W.heap.size W w' := by
  go_enter Try.func20, Try.ntmps20
  go_wp2_with fail
  refine (kreg16 t a b v n mm P ln cp _).mono ?_
  rintro e w1 ⟨rfl, hb⟩
  have x0 := (hb.cell (p := ⟨W.heap.size, 0, none⟩) (by simp)).trans (show _ = some (Value.int .i64 16) by simp)
  have x1 := (hb.cell (p := ⟨W.heap.size, 1, none⟩) (by simp)).trans (show _ = some (Value.int .i64 t) by simp)
  have x2 := (hb.cell (p := ⟨W.heap.size, 2, none⟩) (by simp)).trans (show _ = some (Value.int .i64 a) by simp)
  have x3 := (hb.cell (p := ⟨W.heap.size, 3, none⟩) (by simp)).trans (show _ = some (Value.int .i64 b) by simp)
  have x4 := (hb.cell (p := ⟨W.heap.size, 4, none⟩) (by simp)).trans (show _ = some (Value.int .i64 v) by simp)
  have x5 := (hb.cell (p := ⟨W.heap.size, 5, none⟩) (by simp)).trans (show _ = some (Value.int .i64 n) by simp)
  have x6 := (hb.cell (p := ⟨W.heap.size, 6, none⟩) (by simp)).trans (show _ = some (Value.int .i64 mm) by simp)
  have x7 := (hb.cell (p := ⟨W.heap.size, 7, none⟩) (by simp)).trans (show _ = some (Value.slice P ln cp) by simp)
  have HB := Lib.hid ((alc0 W _).trans (hb.mono (by simp)))
  clear hb
  go_wp2_with fail
  go_loopw [18] (fun v18 wr => v18 = .int .i64 0 ∧ w1 = wr) (fun _ _ => 0)
  case atStart => exact ⟨rfl, rfl⟩
  case round =>
    obtain ⟨rfl, rfl⟩ := hrel
    go_wp2_with fail
    go_ret
    exact ⟨rfl, HB.out⟩
theorem kref17_ok (t a b v n mm : Int) (P : Option Addr) (ln cp : Nat) (W : World) (rg : Int) : Calls Try.prog 20 #[opv 17 t a b v n mm P ln cp, .int .i64 rg] W fun e w' => e = .returned (.int .i64 0) ∧ Below W.heap.size W w' := by
  go_enter Try.func20, Try.ntmps20
  go_wp2_with fail
  refine (kreg17 t a b v n mm P ln cp _).mono ?_
  rintro e w1 ⟨rfl, hb⟩
  have x0 := (hb.cell (p := ⟨W.heap.size, 0, none⟩) (by simp)).trans (show _ = some (Value.int .i64 17) by simp)
  have x1 := (hb.cell (p := ⟨W.heap.size, 1, none⟩) (by simp)).trans (show _ = some (Value.int .i64 t) by simp)
  have x2 := (hb.cell (p := ⟨W.heap.size, 2, none⟩) (by simp)).trans (show _ = some (Value.int .i64 a) by simp)
  have x3 := (hb.cell (p := ⟨W.heap.size, 3, none⟩) (by simp)).trans (show _ = some (Value.int .i64 b) by simp)
  have x4 := (hb.cell (p := ⟨W.heap.size, 4, none⟩) (by simp)).trans (show _ = some (Value.int .i64 v) by simp)
  have x5 := (hb.cell (p := ⟨W.heap.size, 5, none⟩) (by simp)).trans (show _ = some (Value.int .i64 n) by simp)
  have x6 := (hb.cell (p := ⟨W.heap.size, 6, none⟩) (by simp)).trans (show _ = some (Value.int .i64 mm) by simp)
  have x7 := (hb.cell (p := ⟨W.heap.size, 7, none⟩) (by simp)).trans (show _ = some (Value.slice P ln cp) by simp)
  have HB := Lib.hid ((alc0 W _).trans (hb.mono (by simp)))
  clear hb
  go_wp2_with fail
  go_loopw [18] (fun v18 wr => v18 = .int .i64 0 ∧ w1 = wr) (fun _ _ => 0)
  case atStart => exact ⟨rfl, rfl⟩
  case round =>
    obtain ⟨rfl, rfl⟩ := hrel
    go_wp2_with fail
    go_ret
    exact ⟨rfl, HB.out⟩
theorem kref18_ok (t a b v n mm : Int) (P : Option Addr) (ln cp : Nat) (W : World) (rg : Int) (g0 : 0 ≤ a ∧ a < rg) : Calls Try.prog 20 #[opv 18 t a b v n mm P ln cp, .int .i64 rg] W fun e w' => e = .returned (.int .i64 0) ∧ Below W.heap.size W w' := by
  go_enter Try.func20, Try.ntmps20
  go_wp2_with fail
  refine (kreg18 t a b v n mm P ln cp _).mono ?_
  rintro e w1 ⟨g, rfl, hg, hc0, hb⟩
  have x0 := (hb.cell (p := ⟨W.heap.size, 0, none⟩) (by simp)).trans (show _ = some (Value.int .i64 18) by simp)
  have x1 := (hb.cell (p := ⟨W.heap.size, 1, none⟩) (by simp)).trans (show _ = some (Value.int .i64 t) by simp)
  have x2 := (hb.cell (p := ⟨W.heap.size, 2, none⟩) (by simp)).trans (show _ = some (Value.int .i64 a) by simp)
  have x3 := (hb.cell (p := ⟨W.heap.size, 3, none⟩) (by simp)).trans (show _ = some (Value.int .i64 b) by simp)
  have x4 := (hb.cell (p := ⟨W.heap.size, 4, none⟩) (by simp)).trans (show _ = some (Value.int .i64 v) by simp)
  have x5 := (hb.cell (p := ⟨W.heap.size, 5, none⟩) (by simp)).trans (show _ = some (Value.int .i64 n) by simp)
  have x6 := (hb.cell (p := ⟨W.heap.size, 6, none⟩) (by simp)).trans (show _ = some (Value.int .i64 mm) by simp)
  have x7 := (hb.cell (p := ⟨W.heap.size, 7, none⟩) (by simp)).trans (show _ = some (Value.slice P ln cp) by simp)
  have HB := Lib.hid ((alc0 W _).trans (hb.mono (by simp)))
  clear hb
  go_wp2_with fail
  go_loopw [18] (fun v18 wr => ∃ i : Nat, i ≤ 1 ∧ v18 = .int .i64 i ∧ w1 = wr) (fun v18 _ => 1 - (intOf v18).toNat)
  case atStart => exact ⟨0, by omega, rfl, rfl⟩
  case round =>
    obtain ⟨i, hi, rfl, rfl⟩ := hrel
    have hcs : i = 0 ∨ i = 1 := by omega
    clear hi
    rcases hcs with rfl | rfl
    · have hz : ¬ a < 0 := by omega
      have hz2 : ¬ a ≥ rg := by omega
      go_wp2_with fail
      go_roundw
      case rel => exact ⟨1, by omega, by first | rfl | go_num | trivial, by first | rfl | trivial⟩
      case measure => simp [intOf]
    · go_wp2_with fail
      go_ret
      exact ⟨rfl, HB.out⟩
theorem kref18_r0 (t a b v n mm : Int) (P : Option Addr) (ln cp : Nat) (W : World) (rg : Int) (hbad : a < 0 ∨ rg ≤ a) : Calls Try.prog 20 #[opv 18 t a b v n mm P ln cp, .int .i64 rg] W fun e w' => e = .returned (.int .i64 15) ∧ Below W.heap.size W w' := by
  go_enter Try.func20, Try.ntmps20
  go_wp2_with fail
  refine (kreg18 t a b v n mm P ln cp _).mono ?_
  rintro e w1 ⟨g, rfl, hg, hc0, hb⟩
  have x0 := (hb.cell (p := ⟨W.heap.size, 0, none⟩) (by simp)).trans (show _ = some (Value.int .i64 18) by simp)
  have x1 := (hb.cell (p := ⟨W.heap.size, 1, none⟩) (by simp)).trans (show _ = some (Value.int .i64 t) by simp)
  have x2 := (hb.cell (p := ⟨W.heap.size, 2, none⟩) (by simp)).trans (show _ = some (Value.int .i64 a) by simp)
  have x3 := (hb.cell (p := ⟨W.heap.size, 3, none⟩) (by simp)).trans (show _ = some (Value.int .i64 b) by simp)
  have x4 := (hb.cell (p := ⟨W.heap.size, 4, none⟩) (by simp)).trans (show _ = some (Value.int .i64 v) by simp)
  have x5 := (hb.cell (p := ⟨W.heap.size, 5, none⟩) (by simp)).trans (show _ = some (Value.int .i64 n) by simp)
  have x6 := (hb.cell (p := ⟨W.heap.size, 6, none⟩) (by simp)).trans (show _ = some (Value.int .i64 mm) by simp)
  have x7 := (hb.cell (p := ⟨W.heap.size, 7, none⟩) (by simp)).trans (show _ = some (Value.slice P ln cp) by simp)
  have HB := Lib.hid ((alc0 W _).trans (hb.mono (by simp)))
  clear hb
  go_wp2_with fail
  go_loopw [18] (fun v18 wr => ∃ i : Nat, i ≤ 1 ∧ v18 = .int .i64 i ∧ w1 = wr ∧ i ≤ 0) (fun v18 _ => 1 - (intOf v18).toNat)
  case atStart => exact ⟨0, by omega, rfl, rfl, by omega⟩
  case round =>
    obtain ⟨i, hi, rfl, rfl, hib⟩ := hrel
    have hcs : i = 0 := by omega
    clear hi hib
    rcases hcs with rfl
    · by_cases hz : a < 0
      · go_wp2_with fail
        go_ret
        exact ⟨rfl, HB.out⟩
      · have hz2 : a ≥ rg := by omega
        go_wp2_with fail
        go_ret
        exact ⟨rfl, HB.out⟩
theorem kref_no (k : Int) (hk : k < 1 ∨ 18 < k) (t a b v n mm : Int) (P : Option Addr) (ln cp : Nat) (W : World) (rg : Int) : Calls Try.prog 20 #[opv k t a b v n mm P ln cp, .int .i64 rg] W fun e w' => e = .returned (.int .i64 1) ∧ Below W.heap.size W w' := by
  go_enter Try.func20, Try.ntmps20
  go_wp2_with fail
  refine (kreg_no k hk t a b v n mm P ln cp _).mono ?_
  rintro e w1 ⟨rfl, hb⟩
  have HB := Lib.hid ((alc0 W _).trans (hb.mono (by simp)))
  clear hb
  go_wp2_with fail
  go_ret
  exact ⟨rfl, HB.out⟩
end Go.Proofs.Ytanmmhbnjmglhaa
