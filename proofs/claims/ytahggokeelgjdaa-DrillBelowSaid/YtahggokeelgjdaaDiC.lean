/- Dice: kinds. -/
import Derived.Test.YtahggokeelgjdaaDiB
namespace Go.Proofs.Ytahggokeelgjdaa
open Go.RowKit
set_option linter.unusedVariables false
set_option linter.unusedSimpArgs false

theorem run_index_agg2 {P : Program} (w : World) (t e : TypeId) (n : Nat) (cs : Array Value) (k : IntKind) (i : Int) (h : P.underlying t = some (.array n e)) (ha : ∀ w, (isAgg e).run P w = .ok true w) (hs : ∀ w, (sizeOf e).run P w = .ok 2 w)
    (h0 : 0 ≤ i) (h1 : i < (n : Int)) : (Instr.index t (.agg cs) (.int k i)).run P w = .ok (.agg (cs.extract (i.toNat * 2) (i.toNat * 2 + 2))) w := by
  have hn : 0 ≤ i ∧ i < (n : Int) := ⟨h0, h1⟩
  simp [Instr.index, run_underlying h, asIntOf, hn, go_sem, part, ha, hs]
theorem wpList_index_agg {P : Program} {ops : Array Oper} {rest : List Oper} {op : Oper} {a : Act} {w : World} {Q : Exit → Act → World → Prop} (hgd : op.guard = none) (t : TypeId) (x y : Operand) (ho : op.op = .index t x y)
    (cs : Array Value) (k : IntKind) (i : Int) (v : Value) (hx : a.eval x = .agg cs) (hy : a.eval y = .int k i) (hr : (Instr.index t (.agg cs) (.int k i)).run P w = .ok v w)
    (h : wpList P ops Q rest (a.put op.dst v) w) : wpList P ops Q (op :: rest) a w :=
  wpList_plain hgd fun _ hK => by
    unfold Oper.wp execOp
    simp only [ho, hx, hy, Sem.run_bind, Sem.run_pure, Result.andThen_ok, hr]
    exact hK _ _ h
def KCS : Array Value := #[.int .i64 1, .int .i64 16, .int .i64 2, .int .i64 5, .int .i64 3, .int .i64 4, .int .i64 4, .int .i64 12, .int .i64 5, .int .i64 6, .int .i64 6, .int .i64 3, .int .i64 7, .int .i64 5, .int .i64 8, .int .i64 3, .int .i64 9, .int .i64 8, .int .i64 10, .int .i64 4, .int .i64 11, .int .i64 7, .int .i64 12, .int .i64 6, .int .i64 13, .int .i64 5, .int .i64 14, .int .i64 5, .int .i64 15, .int .i64 2, .int .i64 16, .int .i64 4, .int .i64 17, .int .i64 2]
theorem kcs_at (i : Nat) (hi : i < 17) : ∃ a b : Int, KCS.extract (i * 2) (i * 2 + 2) = #[.int .i64 a, .int .i64 b] := by
  have hc : i = 0 ∨ i = 1 ∨ i = 2 ∨ i = 3 ∨ i = 4 ∨ i = 5 ∨ i = 6 ∨ i = 7 ∨ i = 8 ∨ i = 9 ∨ i = 10 ∨ i = 11 ∨ i = 12 ∨ i = 13 ∨ i = 14 ∨ i = 15 ∨ i = 16 := by omega
  rcases hc with rfl | rfl | rfl | rfl | rfl | rfl | rfl | rfl | rfl | rfl | rfl | rfl | rfl | rfl | rfl | rfl | rfl
  all_goals exact ⟨_, _, rfl⟩
theorem infoK2 : (Try.prog.info? 75).map (fun i => i.size) = some 2 := by kernel_rfl
theorem kidx (i : Nat) (hi : i < 17) : ∃ a b : Int, ∀ w, (Instr.index 76 (.agg KCS) (.int .i64 (i : Int))).run Try.prog w = .ok (.agg #[.int .i64 a, .int .i64 b]) w := by
  obtain ⟨a, b, h⟩ := kcs_at i hi
  refine ⟨a, b, fun w => ?_⟩
  have hs : ∀ w, (sizeOf 75).run Try.prog w = .ok 2 w := fun w => by kernel_rfl
  have ha : ∀ w, (isAgg 75).run Try.prog w = .ok true w := fun w => by kernel_rfl
  rw [run_index_agg2 w _ 75 17 KCS .i64 i Try.underlying76 ha hs (by omega) (by omega), Int.toNat_natCast, h]
set_option maxRecDepth 100000 in
set_option maxHeartbeats 16000000 in
theorem dkinds (n : Int) (W : World) :
    Calls Try.prog 42 #[.int .i64 n] W fun e w' => ∃ k : Int, e = .returned (.int .i64 k) ∧ Below W.heap.size W w' := by
  go_enter Try.func42, Try.ntmps42
  go_wp2_with fail
  go_loopw [0, 23] (fun v0 v23 wr => ∃ (i : Nat) (p : Int), i ≤ 17 ∧ v23 = .int .i64 i ∧ v0 = .int .i64 p ∧ Hid (Below W.heap.size W wr)) (fun _ v23 _ => 17 - (intOf v23).toNat)
  case atStart => exact ⟨0, n, by omega, rfl, rfl, Lib.hid (Below.refl _ _)⟩
  case round =>
    obtain ⟨i, p, hi, rfl, rfl, HB⟩ := hrel
    by_cases h17 : i < 17
    · have h17I : (i : Int) < 17 := by omega
      obtain ⟨a, b, hix⟩ := kidx i h17
      have HIX := Lib.hid hix
      clear hix
      go_wp2_with (refine wpList_index_agg rfl 76 (.tmp 22) (.tmp 23) rfl KCS _ _ _ rfl rfl (HIX.out _) ?_)
      all_goals
        first
        | (go_ret; exact ⟨_, rfl, by first | exact alc HB.out _ | exact HB.out⟩)
        | (go_roundw
           case rel => exact ⟨i + 1, _, by omega, by go_num, rfl, Lib.hid (alc HB.out _)⟩
           case measure => simp [intOf] <;> omega)
    · obtain rfl : i = 17 := by omega
      go_wp2
      go_ret
      exact ⟨_, rfl, HB.out⟩
end Go.Proofs.Ytahggokeelgjdaa
