/- The walk of NumTexts. -/
import Derived.Test.YtmcmlplbdepooaaDoorNumL
import Derived.Test.YtmcmlplbdepooaaDoorNumP
import Derived.Deep.RegionHeld3
import Derived.Deep.QuietTactic
import Derived.BigQuiet
namespace Go.Proofs.YtmcmlplbdepooaaDoor
open Go.RowKit
set_option linter.unusedVariables false
set_option linter.unusedSimpArgs false

theorem and32 (x : Int) : bits .and .i64 x 4294967295 = x % 4294967296 := i64_mask x 32 (by decide)
theorem parse_is (s : ByteArray) (most v : Int) (ok : Bool) (w : World) (hs : s.size ≤ maxLen) (h : parseF s most = if ok then some v else none) (hv : ok = false → v = 0) :
    Calls Tryd.prog 18 #[.string s, .int .i64 most] w fun e w' => e = .returned (.tuple #[.int .i64 v, .bool ok]) ∧ Below w.heap.size w w' := by
  refine (parse_any s most w hs).mono ?_
  rintro e w' ⟨rfl, hb⟩
  refine ⟨?_, hb⟩
  rw [h]
  cases ok
  · rw [hv rfl]; rfl
  · rfl

end Go.Proofs.YtmcmlplbdepooaaDoor
