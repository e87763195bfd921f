/- The map of changes: its keys, what an insertion and a look at it do. -/
import Derived.Test.YtbmcgoodilomlaaRows
import Derived.Test.YtbmcgoodilomlaaInt
import Derived.Maps.Own
import Derived.DeepKeys4
import Derived.WalkKit
import Derived.ProofKit
import Derived.WalkLawsBesides
import Derived.WalkSpells
import Derived.Lib.Hide
namespace Go.Proofs.Ytbmcgoodilomlaa
open Go.RowKit Go.ChangeMaps Go.MapKept
open Go.Maps (Keyed)
set_option linter.unusedVariables false
set_option linter.unusedSimpArgs false

theorem laidOutS : laidOutB Try.prog = true := by kernel_rfl
theorem kC : Keyed Try.prog 57 := Keyed.of_law (Go.deep_law_laid laidOutS (m := 3) (by omega) (by decide +kernel) (by kernel_rfl) (by kernel_rfl))
theorem keyC (a b : Int) (ha : (Lit.int .i64 a).wf = true) (hb : (Lit.int .i64 b).wf = true) : ∃ l, keyOf Try.prog 57 (.agg #[.int .i64 a, .int .i64 b]) = some l := by
  obtain ⟨m, hm⟩ : ∃ m, Try.prog.types.size = m + 1 := ⟨Try.prog.types.size - 1, by have h : 0 < Try.prog.types.size := (by decide +kernel); omega⟩
  have hkt : Try.prog.keyType 57 = true := by kernel_rfl
  have hc : Try.prog.cellsOf 57 = 2 := by kernel_rfl
  have hi : Try.prog.cellsOf 3 = 1 := by kernel_rfl
  unfold keyOf
  simp only [Try.underlying57]
  rw [if_pos (by simp [hkt, Value.formed, Try.underlying57, hc]), hm]
  unfold Program.keyLits
  simp only [Try.underlying57, Value.cells]
  rw [if_pos (by simp [hc])]
  simp [hi, Program.keyLits, Try.underlying3, ha, hb, List.mapM_cons]
end Go.Proofs.Ytbmcgoodilomlaa
