/- Contracts of package set: List. -/
import Derived.Test.YtnfcpohbdkionaaDoorSetK
import Derived.Test.YtnfcpohbdkionaaDoorSetB
import Derived.Test.YtnfcpohbdkionaaDoorInts0
namespace Go.Proofs.YtnfcpohbdkionaaDoor
set_option maxRecDepth 100000
open Go.RowKit
set_option linter.unusedVariables false
set_option linter.unusedSimpArgs false

theorem infoInt : (Tryd.prog.info? 3).map (fun i => (i.zero, i.size, i.bytes)) = some (some (.int .i64 0), 1, 8) := by kernel_rfl
theorem ints_of_row {w : World} {B E : Nat} {v : Value} {n : Nat} {l : List Int} (h : w.ownsRow B E 1 v n (l.map (Value.int .i64))) :
    ∃ a cap, v = .slice a n cap ∧ Ints .i64 w a n l := by
  have hl : l.length = n := by simpa using h.1
  rcases h.2 with ⟨rfl, rfl⟩ | ⟨g, cap, cur, hv, _, _, hc, hm, _⟩
  · exact ⟨none, 0, rfl, hl, .inl rfl⟩
  · refine ⟨_, cap, hv, hl, ?_⟩
    by_cases h0 : n = 0
    · exact .inl h0
    · have hb := h.lt g (by rw [hv]; rfl)
      refine .inr ⟨g, 0, rfl, hb.2, by unfold maxLen at hm; omega, fun i hi => ?_⟩
      have := h.cells (g := g) (by rw [hv]; rfl) i (.int .i64 (l.getD i 0)) (by simp [List.getD, List.getElem?_eq_getElem (show i < l.length by omega)])
      have hadd : (⟨g, 0, none⟩ : Addr).add i = ⟨g, i, none⟩ := by unfold Addr.add; split <;> simp_all
      rw [hadd] at this
      simpa using this
def ListPost (l : List Int) (w : World) (e : Ending) (w' : World) : Prop :=
  ∃ a cap, e = .returned (.slice a l.length cap) ∧ Ints .i64 w' a l.length l ∧ Below w.heap.size w w'

/-- Where the loop of List stands: x is the next number that is in the set; those below it are collected. -/
def LsAt (ws : List Nat) (N M : Nat) (x : Int) : Prop := (x = -1 ∧ listB ws N = listB ws M) ∨ (x = M ∧ M < N ∧ bitB ws M = true)
theorem LsAt.of {ws : List Nat} {N F : Nat} {r : Int} (hz : ∀ y, N ≤ y → bitB ws y = false) (hF : F ≤ N) (hN : N ≤ 64 * ws.length) (h1 : N ≤ F → r = -1) (h2 : F < N → FirstOf ws F r) : ∃ M, LsAt ws N M r ∧ listB ws M = listB ws F ∧ M ≤ N := by
  by_cases h : F < N
  · rcases h2 h with ⟨e, q⟩ | ⟨y, e, y1, y2, y3, y4⟩
    · exact ⟨F, .inl ⟨e, listB_skip hF (fun y a b => q y a (by omega))⟩, rfl, hF⟩
    · by_cases hy : y < N
      · exact ⟨y, .inr ⟨e, hy, y3⟩, listB_skip y1 y4, by omega⟩
      · rw [hz y (by omega)] at y3; cases y3
  · obtain rfl : F = N := by omega
    exact ⟨F, .inl ⟨h1 (by omega), rfl⟩, rfl, hF⟩

def lsM (N : Nat) (x : Int) : Nat := if x < 0 then 0 else (N - x).toNat + 1
theorem lsM_lt {N M : Nat} {r : Int} (h : M < N) (hr : r = -1 ∨ (M : Int) < r) : lsM N r < lsM N M := by
  unfold lsM
  rw [if_neg (show ¬ ((M : Int) < 0) by omega)]
  by_cases h2 : r < 0
  · rw [if_pos h2]; omega
  · rw [if_neg h2]; omega
end Go.Proofs.YtnfcpohbdkionaaDoor

