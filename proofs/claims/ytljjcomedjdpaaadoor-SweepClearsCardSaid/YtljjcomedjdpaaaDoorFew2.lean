/- Few14, Few2 in one text: a claim holds at most 60 files. -/
import Derived.Test.YtljjcomedjdpaaaDoorCapaI
import Derived.Test.YtljjcomedjdpaaaDoorCapAt
import Derived.Deep.RegionHeld3
namespace Go.Proofs.YtljjcomedjdpaaaDoor
set_option maxRecDepth 100000
open Go.RowKit
set_option linter.unusedVariables false
set_option linter.unusedSimpArgs false

def RCap9 (w : World) (e : Ending) (w' : World) : Prop :=
  ∃ (b l c p t : Int), e = .returned (.agg #[.int .i64 b, .int .i64 l, .int .i64 c, .int .i64 p, .int .i64 t, .bool true]) ∧ (0 ≤ b ∧ b ≤ 2047 ∧ 1 ≤ l ∧ l ≤ 256 ∧ l ≤ 2048 - b ∧ b - 16 ≤ c ∧ c ≤ b + 256 ∧ 0 ≤ p ∧ p ≤ 31 ∧ 0 ≤ t ∧ t ≤ 15) ∧ Below w.heap.size w w'
set_option maxHeartbeats 1600000 in
theorem rcap9 (b l c p t : Int) (v : Bool) (w : World) :
    Calls Tryd.prog 25 #[.agg #[.int .i64 b, .int .i64 l, .int .i64 c, .int .i64 p, .int .i64 t, .bool v], .int .i64 9] w (RCap9 w) := by
  have e1 := and2047 b
  have e2 := and255 l
  have e3 := and255 c
  have e4 := and31 p
  have e5 := and15 t
  have q1 : 0 ≤ b % 2048 := Int.emod_nonneg _ (by decide)
  have q2 : b % 2048 < 2048 := Int.emod_lt_of_pos _ (by decide)
  have q3 : 0 ≤ l % 256 := Int.emod_nonneg _ (by decide)
  have q4 : l % 256 < 256 := Int.emod_lt_of_pos _ (by decide)
  have q5 : 0 ≤ c % 256 := Int.emod_nonneg _ (by decide)
  have q6 : c % 256 < 256 := Int.emod_lt_of_pos _ (by decide)
  have q7 : 0 ≤ p % 32 := Int.emod_nonneg _ (by decide)
  have q8 : p % 32 < 32 := Int.emod_lt_of_pos _ (by decide)
  have q9 : 0 ≤ t % 16 := Int.emod_nonneg _ (by decide)
  have q10 : t % 16 < 16 := Int.emod_lt_of_pos _ (by decide)
  generalize b % 2048 = B at *
  generalize l % 256 = L at *
  generalize c % 256 = C at *
  generalize p % 32 = P at *
  generalize t % 16 = T at *
  have hb9 : bits .and .i64 9 31 = 9 := by decide
  go_enter Tryd.func25, Tryd.ntmps25
  go_wp2
  all_goals
    first
    | (refine bodyPost_ret (v := .agg #[.int .i64 B, .int .i64 (L + 1), .int .i64 (B + C - 16), .int .i64 P, .int .i64 T, .bool true]) ?_ rfl ?_
       · (simp [results, Tryd.results25, go_sem]; done)
       · exact ⟨_, _, _, _, _, rfl, (by omega), (by repeat (first | assumption | exact alc0 _ _ | refine alc ?_ _ | (refine Below.setCell ?_ (by first | omega | (simp <;> omega)) _)))⟩)
    | (refine bodyPost_ret (v := .agg #[.int .i64 B, .int .i64 (2048 - B), .int .i64 (B + C - 16), .int .i64 P, .int .i64 T, .bool true]) ?_ rfl ?_
       · (simp [results, Tryd.results25, go_sem]; done)
       · exact ⟨_, _, _, _, _, rfl, (by omega), (by repeat (first | assumption | exact alc0 _ _ | refine alc ?_ _ | (refine Below.setCell ?_ (by first | omega | (simp <;> omega)) _)))⟩)
/-- What the statement makes of a capability: one for the first four pages, of the tags 1 and 2. -/
def Few14 (w : World) (e : Ending) (w' : World) : Prop :=
  ∃ (b l c p t : Int), e = .returned (.agg #[.int .i64 b, .int .i64 l, .int .i64 c, .int .i64 p, .int .i64 t, .bool true]) ∧ (0 ≤ b ∧ b ≤ 1023 ∧ 1 ≤ l ∧ l ≤ 1024 - b ∧ b - 16 ≤ c ∧ c ≤ b + 64 ∧ 0 ≤ c ∧ 0 ≤ p ∧ p ≤ 31 ∧ 1 ≤ t ∧ t ≤ 2) ∧ Below w.heap.size w w'
end Go.Proofs.YtljjcomedjdpaaaDoor
namespace Go.Proofs.YtljjcomedjdpaaaDoor
set_option maxRecDepth 100000
open Go.RowKit
set_option linter.unusedVariables false
set_option linter.unusedSimpArgs false
theorem CapAt.new2'' (W : World) (o : Obj) (b l c p t : Int) (v : Bool) (T : TypeId) : CapAt (W.heap.size + 1) ((W.alloc o).alloc (.cells #[.int .i64 b, .int .i64 l, .int .i64 c, .int .i64 p, .int .i64 t, .bool v] T)) b l c p t v := by
  have := CapAt.new (W.alloc o) b l c p t v T
  rwa [show (W.alloc o).heap.size = W.heap.size + 1 by simp] at this
theorem CapAt.fz' {x : Nat} {W : World} {b l c p t : Int} {v : Bool} (h : CapAt x W b l c p t v) : W.frozen? ⟨x, 0, none⟩ = false ∧ W.frozen? ⟨x, 1, none⟩ = false ∧ W.frozen? ⟨x, 2, none⟩ = false ∧ W.frozen? ⟨x, 3, none⟩ = false ∧ W.frozen? ⟨x, 4, none⟩ = false ∧ W.frozen? ⟨x, 5, none⟩ = false :=
  ⟨h.2.2.2.2.2.2.2 0 (by decide), h.2.2.2.2.2.2.2 1 (by decide), h.2.2.2.2.2.2.2 2 (by decide), h.2.2.2.2.2.2.2 3 (by decide), h.2.2.2.2.2.2.2 4 (by decide), h.2.2.2.2.2.2.2 5 (by decide)⟩
theorem below_set6' {n x : Nat} {W w1 : World} (h : Below n W w1) (hx : n ≤ x) (a b c d e f : Value) : Below n W ((((((w1.setCell ⟨x, 0, none⟩ a).setCell ⟨x, 1, none⟩ b).setCell ⟨x, 2, none⟩ c).setCell ⟨x, 3, none⟩ d).setCell ⟨x, 4, none⟩ e).setCell ⟨x, 5, none⟩ f) :=
  (((((h.setCell hx _).setCell hx _).setCell hx _).setCell hx _).setCell hx _).setCell hx _
end Go.Proofs.YtljjcomedjdpaaaDoor

