/- StorePlays' array. -/
import Derived.Test.YtodekehpaoahnaaSoS
import Derived.Deep.WholeRow
namespace Go.Proofs.Ytodekehpaoahnaa
open Go.RowKit Go.ChangeShapes Go.WideShapes Go.Deep
set_option linter.unusedVariables false
set_option linter.unusedSimpArgs false

def Z9 : Array Value := Array.replicate 1024 (.int .u8 0)
theorem infoA : (Try.prog.info? 25).map (fun i => (i.zero, i.size)) = some (some (.agg Z9), 1024) := by kernel_rfl
theorem zeroA (W : World) : (zeroValue 25).run Try.prog W = .ok (.agg Z9) W := by
  cases hi : Try.prog.info? 25 with
  | none => have := infoA; rw [hi] at this; cases this
  | some i0 =>
    have h := infoA
    rw [hi] at h
    injection h with h
    injection h with hz0 h
    simp [zeroValue, typeInfo, hi, hz0]
theorem Z9_cell (W : World) (t : TypeId) (j : Nat) (hj : j < 1024) : (W.alloc (.cells Z9 t)).cell? ⟨W.heap.size, j, none⟩ = some (.int .u8 0) := by
  rw [World.cell?_alloc_mark, Z9, Array.getElem?_replicate, if_pos hj]
theorem sizeA : (Try.prog.info? 25).map (·.size) = some Z9.size := by
  have h := infoA
  cases hi : Try.prog.info? 25 with
  | none => rw [hi] at h; cases h
  | some i0 =>
    rw [hi] at h
    injection h with h
    injection h with _ h
    simp [Z9, h]
theorem storeA (W : World) : (storeCells ⟨W.heap.size, 0, none⟩ Z9.toList 0).run Try.prog (W.alloc (.cells Z9 25)) = .ok () (W.alloc (.cells Z9 25)) :=
  run_storeCells_new (P := Try.prog) W 25 Z9 Z9 sizeA rfl (by rw [Array.all_eq_true]; intro i hi; rw [show Z9[i] = .int .u8 0 from by simp [Z9]]; rfl)
end Go.Proofs.Ytodekehpaoahnaa
