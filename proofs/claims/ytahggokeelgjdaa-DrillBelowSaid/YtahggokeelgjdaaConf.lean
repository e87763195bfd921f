/- Contracts of package conf. -/
import Derived.Test.YtahggokeelgjdaaRows
import Derived.Test.YtahggokeelgjdaaInt
import Derived.WalkKit
import Derived.ProofKit
import Derived.OpenShut
import Derived.WalkLawsBesides
import Derived.WalkSpells
import Derived.Deep.QuietTactic
import Derived.BigQuiet
import Derived.Lib.Hide
import Derived.Laws.StructEq
import Derived.Deep.RegionHeld3
import Derived.Deep.DeepCutAuto
import Derived.Deep.CutBlock
import Derived.WalkSmall
namespace Go.Proofs.Ytahggokeelgjdaa
open Go.RowKit
set_option linter.unusedVariables false
set_option linter.unusedSimpArgs false

/-- A struct in block x. -/
def ConfAt (x : Nat) (W : World) (pg : Int) (rg : Int) (lg : Int) (th : Int) (ca : Int) (ba : Int) (sh : Int) (re : Int) (mo : Int) (fi : Int) (key : Int) : Prop :=
  x < W.heap.size ∧ W.cell? ⟨x, 0, none⟩ = some (.int .i64 pg) ∧ W.cell? ⟨x, 1, none⟩ = some (.int .i64 rg) ∧ W.cell? ⟨x, 2, none⟩ = some (.int .i64 lg) ∧ W.cell? ⟨x, 3, none⟩ = some (.int .i64 th) ∧ W.cell? ⟨x, 4, none⟩ = some (.int .i64 ca) ∧ W.cell? ⟨x, 5, none⟩ = some (.int .i64 ba) ∧ W.cell? ⟨x, 6, none⟩ = some (.int .i64 sh) ∧ W.cell? ⟨x, 7, none⟩ = some (.int .i64 re) ∧ W.cell? ⟨x, 8, none⟩ = some (.int .i64 mo) ∧ W.cell? ⟨x, 9, none⟩ = some (.int .i64 fi) ∧ W.cell? ⟨x, 10, none⟩ = some (.int .u64 key) ∧ ∀ o, o < 11 → W.frozen? ⟨x, o, none⟩ = false
theorem ConfAt.keep {x : Nat} {W W' : World} {pg : Int} {rg : Int} {lg : Int} {th : Int} {ca : Int} {ba : Int} {sh : Int} {re : Int} {mo : Int} {fi : Int} {key : Int} (h : ConfAt x W pg rg lg th ca ba sh re mo fi key) (hs : W.heap.size ≤ W'.heap.size) (hk : W'.heap[x]? = W.heap[x]?) : ConfAt x W' pg rg lg th ca ba sh re mo fi key := by
  obtain ⟨h0, h1, h2, h3, h4, h5, h6, h7, h8, h9, h10, h11, hf⟩ := h
  have e : ∀ o, W'.cell? ⟨x, o, none⟩ = W.cell? ⟨x, o, none⟩ := fun o => World.cell?_of_block hk
  exact ⟨Nat.lt_of_lt_of_le h0 hs, (e 0).trans h1, (e 1).trans h2, (e 2).trans h3, (e 3).trans h4, (e 4).trans h5, (e 5).trans h6, (e 6).trans h7, (e 7).trans h8, (e 8).trans h9, (e 9).trans h10, (e 10).trans h11, fun o ho => (World.frozen?_of_block hk).trans (hf o ho)⟩
theorem ConfAt.below {x : Nat} {W W' : World} {pg : Int} {rg : Int} {lg : Int} {th : Int} {ca : Int} {ba : Int} {sh : Int} {re : Int} {mo : Int} {fi : Int} {key : Int} (h : ConfAt x W pg rg lg th ca ba sh re mo fi key) (hb : Below W.heap.size W W') : ConfAt x W' pg rg lg th ca ba sh re mo fi key := h.keep hb.size (hb.block x h.1)
theorem ConfAt.far {x y o : Nat} {W : World} {pg : Int} {rg : Int} {lg : Int} {th : Int} {ca : Int} {ba : Int} {sh : Int} {re : Int} {mo : Int} {fi : Int} {key : Int} {z : Value} (h : ConfAt x W pg rg lg th ca ba sh re mo fi key) (hn : x ≠ y) : ConfAt x (W.setCell ⟨y, o, none⟩ z) pg rg lg th ca ba sh re mo fi key :=
  h.keep (by simp [World.setCell]) (Below.heap_setCell _ _ _ _ (by simpa using hn))
theorem ConfAt.new (W : World) (pg : Int) (rg : Int) (lg : Int) (th : Int) (ca : Int) (ba : Int) (sh : Int) (re : Int) (mo : Int) (fi : Int) (key : Int) (T : TypeId) : ConfAt W.heap.size (W.alloc (.cells #[.int .i64 pg, .int .i64 rg, .int .i64 lg, .int .i64 th, .int .i64 ca, .int .i64 ba, .int .i64 sh, .int .i64 re, .int .i64 mo, .int .i64 fi, .int .u64 key] T)) pg rg lg th ca ba sh re mo fi key := by
  refine ⟨by simp, by simp, by simp, by simp, by simp, by simp, by simp, by simp, by simp, by simp, by simp, by simp, fun o ho => ?_⟩
  simp
theorem ConfAt.s0 {x : Nat} {W : World} {pg : Int} {rg : Int} {lg : Int} {th : Int} {ca : Int} {ba : Int} {sh : Int} {re : Int} {mo : Int} {fi : Int} {key : Int} (h : ConfAt x W pg rg lg th ca ba sh re mo fi key) (pg' : Int) : ConfAt x (W.setCell ⟨x, 0, none⟩ (.int .i64 pg')) pg' rg lg th ca ba sh re mo fi key := by
  obtain ⟨h0, h1, h2, h3, h4, h5, h6, h7, h8, h9, h10, h11, hf⟩ := h
  exact ⟨by simp [World.setCell]; exact h0, (World.cell?_setCell_same _ _ _ h1), (World.cell?_setCell_other _ _ _ _ (by simp)).trans h2, (World.cell?_setCell_other _ _ _ _ (by simp)).trans h3, (World.cell?_setCell_other _ _ _ _ (by simp)).trans h4, (World.cell?_setCell_other _ _ _ _ (by simp)).trans h5, (World.cell?_setCell_other _ _ _ _ (by simp)).trans h6, (World.cell?_setCell_other _ _ _ _ (by simp)).trans h7, (World.cell?_setCell_other _ _ _ _ (by simp)).trans h8, (World.cell?_setCell_other _ _ _ _ (by simp)).trans h9, (World.cell?_setCell_other _ _ _ _ (by simp)).trans h10, (World.cell?_setCell_other _ _ _ _ (by simp)).trans h11, fun o ho => by simp [hf o ho]⟩
theorem ConfAt.s1 {x : Nat} {W : World} {pg : Int} {rg : Int} {lg : Int} {th : Int} {ca : Int} {ba : Int} {sh : Int} {re : Int} {mo : Int} {fi : Int} {key : Int} (h : ConfAt x W pg rg lg th ca ba sh re mo fi key) (rg' : Int) : ConfAt x (W.setCell ⟨x, 1, none⟩ (.int .i64 rg')) pg rg' lg th ca ba sh re mo fi key := by
  obtain ⟨h0, h1, h2, h3, h4, h5, h6, h7, h8, h9, h10, h11, hf⟩ := h
  exact ⟨by simp [World.setCell]; exact h0, (World.cell?_setCell_other _ _ _ _ (by simp)).trans h1, (World.cell?_setCell_same _ _ _ h2), (World.cell?_setCell_other _ _ _ _ (by simp)).trans h3, (World.cell?_setCell_other _ _ _ _ (by simp)).trans h4, (World.cell?_setCell_other _ _ _ _ (by simp)).trans h5, (World.cell?_setCell_other _ _ _ _ (by simp)).trans h6, (World.cell?_setCell_other _ _ _ _ (by simp)).trans h7, (World.cell?_setCell_other _ _ _ _ (by simp)).trans h8, (World.cell?_setCell_other _ _ _ _ (by simp)).trans h9, (World.cell?_setCell_other _ _ _ _ (by simp)).trans h10, (World.cell?_setCell_other _ _ _ _ (by simp)).trans h11, fun o ho => by simp [hf o ho]⟩
theorem ConfAt.s2 {x : Nat} {W : World} {pg : Int} {rg : Int} {lg : Int} {th : Int} {ca : Int} {ba : Int} {sh : Int} {re : Int} {mo : Int} {fi : Int} {key : Int} (h : ConfAt x W pg rg lg th ca ba sh re mo fi key) (lg' : Int) : ConfAt x (W.setCell ⟨x, 2, none⟩ (.int .i64 lg')) pg rg lg' th ca ba sh re mo fi key := by
  obtain ⟨h0, h1, h2, h3, h4, h5, h6, h7, h8, h9, h10, h11, hf⟩ := h
  exact ⟨by simp [World.setCell]; exact h0, (World.cell?_setCell_other _ _ _ _ (by simp)).trans h1, (World.cell?_setCell_other _ _ _ _ (by simp)).trans h2, (World.cell?_setCell_same _ _ _ h3), (World.cell?_setCell_other _ _ _ _ (by simp)).trans h4, (World.cell?_setCell_other _ _ _ _ (by simp)).trans h5, (World.cell?_setCell_other _ _ _ _ (by simp)).trans h6, (World.cell?_setCell_other _ _ _ _ (by simp)).trans h7, (World.cell?_setCell_other _ _ _ _ (by simp)).trans h8, (World.cell?_setCell_other _ _ _ _ (by simp)).trans h9, (World.cell?_setCell_other _ _ _ _ (by simp)).trans h10, (World.cell?_setCell_other _ _ _ _ (by simp)).trans h11, fun o ho => by simp [hf o ho]⟩
theorem ConfAt.s3 {x : Nat} {W : World} {pg : Int} {rg : Int} {lg : Int} {th : Int} {ca : Int} {ba : Int} {sh : Int} {re : Int} {mo : Int} {fi : Int} {key : Int} (h : ConfAt x W pg rg lg th ca ba sh re mo fi key) (th' : Int) : ConfAt x (W.setCell ⟨x, 3, none⟩ (.int .i64 th')) pg rg lg th' ca ba sh re mo fi key := by
  obtain ⟨h0, h1, h2, h3, h4, h5, h6, h7, h8, h9, h10, h11, hf⟩ := h
  exact ⟨by simp [World.setCell]; exact h0, (World.cell?_setCell_other _ _ _ _ (by simp)).trans h1, (World.cell?_setCell_other _ _ _ _ (by simp)).trans h2, (World.cell?_setCell_other _ _ _ _ (by simp)).trans h3, (World.cell?_setCell_same _ _ _ h4), (World.cell?_setCell_other _ _ _ _ (by simp)).trans h5, (World.cell?_setCell_other _ _ _ _ (by simp)).trans h6, (World.cell?_setCell_other _ _ _ _ (by simp)).trans h7, (World.cell?_setCell_other _ _ _ _ (by simp)).trans h8, (World.cell?_setCell_other _ _ _ _ (by simp)).trans h9, (World.cell?_setCell_other _ _ _ _ (by simp)).trans h10, (World.cell?_setCell_other _ _ _ _ (by simp)).trans h11, fun o ho => by simp [hf o ho]⟩
theorem ConfAt.s4 {x : Nat} {W : World} {pg : Int} {rg : Int} {lg : Int} {th : Int} {ca : Int} {ba : Int} {sh : Int} {re : Int} {mo : Int} {fi : Int} {key : Int} (h : ConfAt x W pg rg lg th ca ba sh re mo fi key) (ca' : Int) : ConfAt x (W.setCell ⟨x, 4, none⟩ (.int .i64 ca')) pg rg lg th ca' ba sh re mo fi key := by
  obtain ⟨h0, h1, h2, h3, h4, h5, h6, h7, h8, h9, h10, h11, hf⟩ := h
  exact ⟨by simp [World.setCell]; exact h0, (World.cell?_setCell_other _ _ _ _ (by simp)).trans h1, (World.cell?_setCell_other _ _ _ _ (by simp)).trans h2, (World.cell?_setCell_other _ _ _ _ (by simp)).trans h3, (World.cell?_setCell_other _ _ _ _ (by simp)).trans h4, (World.cell?_setCell_same _ _ _ h5), (World.cell?_setCell_other _ _ _ _ (by simp)).trans h6, (World.cell?_setCell_other _ _ _ _ (by simp)).trans h7, (World.cell?_setCell_other _ _ _ _ (by simp)).trans h8, (World.cell?_setCell_other _ _ _ _ (by simp)).trans h9, (World.cell?_setCell_other _ _ _ _ (by simp)).trans h10, (World.cell?_setCell_other _ _ _ _ (by simp)).trans h11, fun o ho => by simp [hf o ho]⟩
theorem ConfAt.s5 {x : Nat} {W : World} {pg : Int} {rg : Int} {lg : Int} {th : Int} {ca : Int} {ba : Int} {sh : Int} {re : Int} {mo : Int} {fi : Int} {key : Int} (h : ConfAt x W pg rg lg th ca ba sh re mo fi key) (ba' : Int) : ConfAt x (W.setCell ⟨x, 5, none⟩ (.int .i64 ba')) pg rg lg th ca ba' sh re mo fi key := by
  obtain ⟨h0, h1, h2, h3, h4, h5, h6, h7, h8, h9, h10, h11, hf⟩ := h
  exact ⟨by simp [World.setCell]; exact h0, (World.cell?_setCell_other _ _ _ _ (by simp)).trans h1, (World.cell?_setCell_other _ _ _ _ (by simp)).trans h2, (World.cell?_setCell_other _ _ _ _ (by simp)).trans h3, (World.cell?_setCell_other _ _ _ _ (by simp)).trans h4, (World.cell?_setCell_other _ _ _ _ (by simp)).trans h5, (World.cell?_setCell_same _ _ _ h6), (World.cell?_setCell_other _ _ _ _ (by simp)).trans h7, (World.cell?_setCell_other _ _ _ _ (by simp)).trans h8, (World.cell?_setCell_other _ _ _ _ (by simp)).trans h9, (World.cell?_setCell_other _ _ _ _ (by simp)).trans h10, (World.cell?_setCell_other _ _ _ _ (by simp)).trans h11, fun o ho => by simp [hf o ho]⟩
theorem ConfAt.s6 {x : Nat} {W : World} {pg : Int} {rg : Int} {lg : Int} {th : Int} {ca : Int} {ba : Int} {sh : Int} {re : Int} {mo : Int} {fi : Int} {key : Int} (h : ConfAt x W pg rg lg th ca ba sh re mo fi key) (sh' : Int) : ConfAt x (W.setCell ⟨x, 6, none⟩ (.int .i64 sh')) pg rg lg th ca ba sh' re mo fi key := by
  obtain ⟨h0, h1, h2, h3, h4, h5, h6, h7, h8, h9, h10, h11, hf⟩ := h
  exact ⟨by simp [World.setCell]; exact h0, (World.cell?_setCell_other _ _ _ _ (by simp)).trans h1, (World.cell?_setCell_other _ _ _ _ (by simp)).trans h2, (World.cell?_setCell_other _ _ _ _ (by simp)).trans h3, (World.cell?_setCell_other _ _ _ _ (by simp)).trans h4, (World.cell?_setCell_other _ _ _ _ (by simp)).trans h5, (World.cell?_setCell_other _ _ _ _ (by simp)).trans h6, (World.cell?_setCell_same _ _ _ h7), (World.cell?_setCell_other _ _ _ _ (by simp)).trans h8, (World.cell?_setCell_other _ _ _ _ (by simp)).trans h9, (World.cell?_setCell_other _ _ _ _ (by simp)).trans h10, (World.cell?_setCell_other _ _ _ _ (by simp)).trans h11, fun o ho => by simp [hf o ho]⟩
theorem ConfAt.s7 {x : Nat} {W : World} {pg : Int} {rg : Int} {lg : Int} {th : Int} {ca : Int} {ba : Int} {sh : Int} {re : Int} {mo : Int} {fi : Int} {key : Int} (h : ConfAt x W pg rg lg th ca ba sh re mo fi key) (re' : Int) : ConfAt x (W.setCell ⟨x, 7, none⟩ (.int .i64 re')) pg rg lg th ca ba sh re' mo fi key := by
  obtain ⟨h0, h1, h2, h3, h4, h5, h6, h7, h8, h9, h10, h11, hf⟩ := h
  exact ⟨by simp [World.setCell]; exact h0, (World.cell?_setCell_other _ _ _ _ (by simp)).trans h1, (World.cell?_setCell_other _ _ _ _ (by simp)).trans h2, (World.cell?_setCell_other _ _ _ _ (by simp)).trans h3, (World.cell?_setCell_other _ _ _ _ (by simp)).trans h4, (World.cell?_setCell_other _ _ _ _ (by simp)).trans h5, (World.cell?_setCell_other _ _ _ _ (by simp)).trans h6, (World.cell?_setCell_other _ _ _ _ (by simp)).trans h7, (World.cell?_setCell_same _ _ _ h8), (World.cell?_setCell_other _ _ _ _ (by simp)).trans h9, (World.cell?_setCell_other _ _ _ _ (by simp)).trans h10, (World.cell?_setCell_other _ _ _ _ (by simp)).trans h11, fun o ho => by simp [hf o ho]⟩
theorem ConfAt.s8 {x : Nat} {W : World} {pg : Int} {rg : Int} {lg : Int} {th : Int} {ca : Int} {ba : Int} {sh : Int} {re : Int} {mo : Int} {fi : Int} {key : Int} (h : ConfAt x W pg rg lg th ca ba sh re mo fi key) (mo' : Int) : ConfAt x (W.setCell ⟨x, 8, none⟩ (.int .i64 mo')) pg rg lg th ca ba sh re mo' fi key := by
  obtain ⟨h0, h1, h2, h3, h4, h5, h6, h7, h8, h9, h10, h11, hf⟩ := h
  exact ⟨by simp [World.setCell]; exact h0, (World.cell?_setCell_other _ _ _ _ (by simp)).trans h1, (World.cell?_setCell_other _ _ _ _ (by simp)).trans h2, (World.cell?_setCell_other _ _ _ _ (by simp)).trans h3, (World.cell?_setCell_other _ _ _ _ (by simp)).trans h4, (World.cell?_setCell_other _ _ _ _ (by simp)).trans h5, (World.cell?_setCell_other _ _ _ _ (by simp)).trans h6, (World.cell?_setCell_other _ _ _ _ (by simp)).trans h7, (World.cell?_setCell_other _ _ _ _ (by simp)).trans h8, (World.cell?_setCell_same _ _ _ h9), (World.cell?_setCell_other _ _ _ _ (by simp)).trans h10, (World.cell?_setCell_other _ _ _ _ (by simp)).trans h11, fun o ho => by simp [hf o ho]⟩
theorem ConfAt.s9 {x : Nat} {W : World} {pg : Int} {rg : Int} {lg : Int} {th : Int} {ca : Int} {ba : Int} {sh : Int} {re : Int} {mo : Int} {fi : Int} {key : Int} (h : ConfAt x W pg rg lg th ca ba sh re mo fi key) (fi' : Int) : ConfAt x (W.setCell ⟨x, 9, none⟩ (.int .i64 fi')) pg rg lg th ca ba sh re mo fi' key := by
  obtain ⟨h0, h1, h2, h3, h4, h5, h6, h7, h8, h9, h10, h11, hf⟩ := h
  exact ⟨by simp [World.setCell]; exact h0, (World.cell?_setCell_other _ _ _ _ (by simp)).trans h1, (World.cell?_setCell_other _ _ _ _ (by simp)).trans h2, (World.cell?_setCell_other _ _ _ _ (by simp)).trans h3, (World.cell?_setCell_other _ _ _ _ (by simp)).trans h4, (World.cell?_setCell_other _ _ _ _ (by simp)).trans h5, (World.cell?_setCell_other _ _ _ _ (by simp)).trans h6, (World.cell?_setCell_other _ _ _ _ (by simp)).trans h7, (World.cell?_setCell_other _ _ _ _ (by simp)).trans h8, (World.cell?_setCell_other _ _ _ _ (by simp)).trans h9, (World.cell?_setCell_same _ _ _ h10), (World.cell?_setCell_other _ _ _ _ (by simp)).trans h11, fun o ho => by simp [hf o ho]⟩
theorem ConfAt.s10 {x : Nat} {W : World} {pg : Int} {rg : Int} {lg : Int} {th : Int} {ca : Int} {ba : Int} {sh : Int} {re : Int} {mo : Int} {fi : Int} {key : Int} (h : ConfAt x W pg rg lg th ca ba sh re mo fi key) (key' : Int) : ConfAt x (W.setCell ⟨x, 10, none⟩ (.int .u64 key')) pg rg lg th ca ba sh re mo fi key' := by
  obtain ⟨h0, h1, h2, h3, h4, h5, h6, h7, h8, h9, h10, h11, hf⟩ := h
  exact ⟨by simp [World.setCell]; exact h0, (World.cell?_setCell_other _ _ _ _ (by simp)).trans h1, (World.cell?_setCell_other _ _ _ _ (by simp)).trans h2, (World.cell?_setCell_other _ _ _ _ (by simp)).trans h3, (World.cell?_setCell_other _ _ _ _ (by simp)).trans h4, (World.cell?_setCell_other _ _ _ _ (by simp)).trans h5, (World.cell?_setCell_other _ _ _ _ (by simp)).trans h6, (World.cell?_setCell_other _ _ _ _ (by simp)).trans h7, (World.cell?_setCell_other _ _ _ _ (by simp)).trans h8, (World.cell?_setCell_other _ _ _ _ (by simp)).trans h9, (World.cell?_setCell_other _ _ _ _ (by simp)).trans h10, (World.cell?_setCell_same _ _ _ h11), fun o ho => by simp [hf o ho]⟩

def CfOk (pg rg lg th ca ba sh re mo fi : Int) : Prop := (1 ≤ pg ∧ pg ≤ 1024) ∧ (5 ≤ rg ∧ rg ≤ 16) ∧ (0 ≤ lg ∧ lg ≤ 1024) ∧ (1 ≤ th ∧ th ≤ 8) ∧ (1 ≤ ba ∧ ba ≤ 16) ∧ (ba ≤ ca ∧ ca ≤ 32) ∧ (0 ≤ sh ∧ sh ≤ 16) ∧ (1 ≤ re ∧ re ≤ 64) ∧ (1 ≤ mo ∧ mo ≤ 16384) ∧ (0 ≤ fi ∧ fi ≤ 255)
instance (pg rg lg th ca ba sh re mo fi : Int) : Decidable (CfOk pg rg lg th ca ba sh re mo fi) := by unfold CfOk; infer_instance
def cfI (pg rg lg th ca ba sh re mo fi : Int) : Int := if CfOk pg rg lg th ca ba sh re mo fi then (if rg * 20 + lg > 1024 then 4 else 0) else 1
theorem btw_is (r : Bool) (n a b : Int) (w : World) (h : decide (a ≤ n ∧ n ≤ b) = r) :
    Calls Try.prog 37 #[.int .i64 n, .int .i64 a, .int .i64 b] w fun e w' => e = .returned (.bool r) ∧ w = w' := by
  subst h
  by_cases h1 : a ≤ n
  all_goals
    go_enter Try.func37, Try.ntmps37
    go_wp2
    all_goals
      go_ret
      exact ⟨ret_bool (by first | (simp [h1]; done) | (rw [Bool.eq_iff_iff]; simp <;> omega)), rfl⟩
theorem call_is (pg rg lg th ca ba sh re mo fi key : Int) (w : World) (h1 : 5 ≤ rg ∧ rg ≤ 16) (h2 : 0 ≤ lg ∧ lg ≤ 1024) :
    Calls Try.prog 38 #[.agg #[.int .i64 pg, .int .i64 rg, .int .i64 lg, .int .i64 th, .int .i64 ca, .int .i64 ba, .int .i64 sh, .int .i64 re, .int .i64 mo, .int .i64 fi, .int .u64 key]] w fun e w' => e = .returned (.int .i64 (rg * 20 + lg)) ∧ Below w.heap.size w w' := by
  obtain ⟨h3, h4⟩ := h1
  obtain ⟨h5, h6⟩ := h2
  go_enter Try.func38, Try.ntmps38
  go_wp2
  go_ret
  exact ⟨rfl, alc0 _ _⟩
set_option maxHeartbeats 800000 in
theorem cchk_0 (pg rg lg th ca ba sh re mo fi key : Int) (w : World) (h0 : Hid (decide (1 ≤ pg ∧ pg ≤ 1024) = false)) :
    Calls Try.prog 31 #[.agg #[.int .i64 pg, .int .i64 rg, .int .i64 lg, .int .i64 th, .int .i64 ca, .int .i64 ba, .int .i64 sh, .int .i64 re, .int .i64 mo, .int .i64 fi, .int .u64 key]] w fun e w' => e = .returned (.int .i64 1) ∧ Below w.heap.size w w' := by
  go_enter Try.func31, Try.ntmps31
  go_wp2_with (first | (go_at_call 37; refine (btw_is _ _ _ _ _ (by first | exact h0.out)).mono ?_; rintro e w' ⟨rfl, rfl⟩))
  go_ret
  exact ⟨rfl, alc0 _ _⟩
set_option maxHeartbeats 800000 in
theorem cchk_1 (pg rg lg th ca ba sh re mo fi key : Int) (w : World) (h0 : Hid (decide (1 ≤ pg ∧ pg ≤ 1024) = true)) (h1 : Hid (decide (5 ≤ rg ∧ rg ≤ 16) = false)) :
    Calls Try.prog 31 #[.agg #[.int .i64 pg, .int .i64 rg, .int .i64 lg, .int .i64 th, .int .i64 ca, .int .i64 ba, .int .i64 sh, .int .i64 re, .int .i64 mo, .int .i64 fi, .int .u64 key]] w fun e w' => e = .returned (.int .i64 1) ∧ Below w.heap.size w w' := by
  go_enter Try.func31, Try.ntmps31
  go_wp2_with (first | (go_at_call 37; refine (btw_is _ _ _ _ _ (by first | exact h0.out | exact h1.out)).mono ?_; rintro e w' ⟨rfl, rfl⟩))
  go_ret
  exact ⟨rfl, alc0 _ _⟩
set_option maxHeartbeats 800000 in
theorem cchk_2 (pg rg lg th ca ba sh re mo fi key : Int) (w : World) (h0 : Hid (decide (1 ≤ pg ∧ pg ≤ 1024) = true)) (h1 : Hid (decide (5 ≤ rg ∧ rg ≤ 16) = true)) (h2 : Hid (decide (0 ≤ lg ∧ lg ≤ 1024) = false)) :
    Calls Try.prog 31 #[.agg #[.int .i64 pg, .int .i64 rg, .int .i64 lg, .int .i64 th, .int .i64 ca, .int .i64 ba, .int .i64 sh, .int .i64 re, .int .i64 mo, .int .i64 fi, .int .u64 key]] w fun e w' => e = .returned (.int .i64 1) ∧ Below w.heap.size w w' := by
  go_enter Try.func31, Try.ntmps31
  go_wp2_with (first | (go_at_call 37; refine (btw_is _ _ _ _ _ (by first | exact h0.out | exact h1.out | exact h2.out)).mono ?_; rintro e w' ⟨rfl, rfl⟩))
  go_ret
  exact ⟨rfl, alc0 _ _⟩
set_option maxHeartbeats 800000 in
theorem cchk_3 (pg rg lg th ca ba sh re mo fi key : Int) (w : World) (h0 : Hid (decide (1 ≤ pg ∧ pg ≤ 1024) = true)) (h1 : Hid (decide (5 ≤ rg ∧ rg ≤ 16) = true)) (h2 : Hid (decide (0 ≤ lg ∧ lg ≤ 1024) = true)) (h3 : Hid (decide (1 ≤ th ∧ th ≤ 8) = false)) :
    Calls Try.prog 31 #[.agg #[.int .i64 pg, .int .i64 rg, .int .i64 lg, .int .i64 th, .int .i64 ca, .int .i64 ba, .int .i64 sh, .int .i64 re, .int .i64 mo, .int .i64 fi, .int .u64 key]] w fun e w' => e = .returned (.int .i64 1) ∧ Below w.heap.size w w' := by
  go_enter Try.func31, Try.ntmps31
  go_wp2_with (first | (go_at_call 37; refine (btw_is _ _ _ _ _ (by first | exact h0.out | exact h1.out | exact h2.out | exact h3.out)).mono ?_; rintro e w' ⟨rfl, rfl⟩))
  go_ret
  exact ⟨rfl, alc0 _ _⟩
set_option maxHeartbeats 800000 in
theorem cchk_4 (pg rg lg th ca ba sh re mo fi key : Int) (w : World) (h0 : Hid (decide (1 ≤ pg ∧ pg ≤ 1024) = true)) (h1 : Hid (decide (5 ≤ rg ∧ rg ≤ 16) = true)) (h2 : Hid (decide (0 ≤ lg ∧ lg ≤ 1024) = true)) (h3 : Hid (decide (1 ≤ th ∧ th ≤ 8) = true)) (h4 : Hid (decide (1 ≤ ba ∧ ba ≤ 16) = false)) :
    Calls Try.prog 31 #[.agg #[.int .i64 pg, .int .i64 rg, .int .i64 lg, .int .i64 th, .int .i64 ca, .int .i64 ba, .int .i64 sh, .int .i64 re, .int .i64 mo, .int .i64 fi, .int .u64 key]] w fun e w' => e = .returned (.int .i64 1) ∧ Below w.heap.size w w' := by
  go_enter Try.func31, Try.ntmps31
  go_wp2_with (first | (go_at_call 37; refine (btw_is _ _ _ _ _ (by first | exact h0.out | exact h1.out | exact h2.out | exact h3.out | exact h4.out)).mono ?_; rintro e w' ⟨rfl, rfl⟩))
  go_ret
  exact ⟨rfl, alc0 _ _⟩
set_option maxHeartbeats 800000 in
theorem cchk_5 (pg rg lg th ca ba sh re mo fi key : Int) (w : World) (h0 : Hid (decide (1 ≤ pg ∧ pg ≤ 1024) = true)) (h1 : Hid (decide (5 ≤ rg ∧ rg ≤ 16) = true)) (h2 : Hid (decide (0 ≤ lg ∧ lg ≤ 1024) = true)) (h3 : Hid (decide (1 ≤ th ∧ th ≤ 8) = true)) (h4 : Hid (decide (1 ≤ ba ∧ ba ≤ 16) = true)) (h5 : Hid (decide (ba ≤ ca ∧ ca ≤ 32) = false)) :
    Calls Try.prog 31 #[.agg #[.int .i64 pg, .int .i64 rg, .int .i64 lg, .int .i64 th, .int .i64 ca, .int .i64 ba, .int .i64 sh, .int .i64 re, .int .i64 mo, .int .i64 fi, .int .u64 key]] w fun e w' => e = .returned (.int .i64 1) ∧ Below w.heap.size w w' := by
  go_enter Try.func31, Try.ntmps31
  go_wp2_with (first | (go_at_call 37; refine (btw_is _ _ _ _ _ (by first | exact h0.out | exact h1.out | exact h2.out | exact h3.out | exact h4.out | exact h5.out)).mono ?_; rintro e w' ⟨rfl, rfl⟩))
  go_ret
  exact ⟨rfl, alc0 _ _⟩
set_option maxHeartbeats 800000 in
theorem cchk_6 (pg rg lg th ca ba sh re mo fi key : Int) (w : World) (h0 : Hid (decide (1 ≤ pg ∧ pg ≤ 1024) = true)) (h1 : Hid (decide (5 ≤ rg ∧ rg ≤ 16) = true)) (h2 : Hid (decide (0 ≤ lg ∧ lg ≤ 1024) = true)) (h3 : Hid (decide (1 ≤ th ∧ th ≤ 8) = true)) (h4 : Hid (decide (1 ≤ ba ∧ ba ≤ 16) = true)) (h5 : Hid (decide (ba ≤ ca ∧ ca ≤ 32) = true)) (h6 : Hid (decide (0 ≤ sh ∧ sh ≤ 16) = false)) :
    Calls Try.prog 31 #[.agg #[.int .i64 pg, .int .i64 rg, .int .i64 lg, .int .i64 th, .int .i64 ca, .int .i64 ba, .int .i64 sh, .int .i64 re, .int .i64 mo, .int .i64 fi, .int .u64 key]] w fun e w' => e = .returned (.int .i64 1) ∧ Below w.heap.size w w' := by
  go_enter Try.func31, Try.ntmps31
  go_wp2_with (first | (go_at_call 37; refine (btw_is _ _ _ _ _ (by first | exact h0.out | exact h1.out | exact h2.out | exact h3.out | exact h4.out | exact h5.out | exact h6.out)).mono ?_; rintro e w' ⟨rfl, rfl⟩))
  go_ret
  exact ⟨rfl, alc0 _ _⟩
set_option maxHeartbeats 800000 in
theorem cchk_7 (pg rg lg th ca ba sh re mo fi key : Int) (w : World) (h0 : Hid (decide (1 ≤ pg ∧ pg ≤ 1024) = true)) (h1 : Hid (decide (5 ≤ rg ∧ rg ≤ 16) = true)) (h2 : Hid (decide (0 ≤ lg ∧ lg ≤ 1024) = true)) (h3 : Hid (decide (1 ≤ th ∧ th ≤ 8) = true)) (h4 : Hid (decide (1 ≤ ba ∧ ba ≤ 16) = true)) (h5 : Hid (decide (ba ≤ ca ∧ ca ≤ 32) = true)) (h6 : Hid (decide (0 ≤ sh ∧ sh ≤ 16) = true)) (h7 : Hid (decide (1 ≤ re ∧ re ≤ 64) = false)) :
    Calls Try.prog 31 #[.agg #[.int .i64 pg, .int .i64 rg, .int .i64 lg, .int .i64 th, .int .i64 ca, .int .i64 ba, .int .i64 sh, .int .i64 re, .int .i64 mo, .int .i64 fi, .int .u64 key]] w fun e w' => e = .returned (.int .i64 1) ∧ Below w.heap.size w w' := by
  go_enter Try.func31, Try.ntmps31
  go_wp2_with (first | (go_at_call 37; refine (btw_is _ _ _ _ _ (by first | exact h0.out | exact h1.out | exact h2.out | exact h3.out | exact h4.out | exact h5.out | exact h6.out | exact h7.out)).mono ?_; rintro e w' ⟨rfl, rfl⟩))
  go_ret
  exact ⟨rfl, alc0 _ _⟩
set_option maxHeartbeats 800000 in
theorem cchk_8 (pg rg lg th ca ba sh re mo fi key : Int) (w : World) (h0 : Hid (decide (1 ≤ pg ∧ pg ≤ 1024) = true)) (h1 : Hid (decide (5 ≤ rg ∧ rg ≤ 16) = true)) (h2 : Hid (decide (0 ≤ lg ∧ lg ≤ 1024) = true)) (h3 : Hid (decide (1 ≤ th ∧ th ≤ 8) = true)) (h4 : Hid (decide (1 ≤ ba ∧ ba ≤ 16) = true)) (h5 : Hid (decide (ba ≤ ca ∧ ca ≤ 32) = true)) (h6 : Hid (decide (0 ≤ sh ∧ sh ≤ 16) = true)) (h7 : Hid (decide (1 ≤ re ∧ re ≤ 64) = true)) (h8 : Hid (decide (1 ≤ mo ∧ mo ≤ 16384) = false)) :
    Calls Try.prog 31 #[.agg #[.int .i64 pg, .int .i64 rg, .int .i64 lg, .int .i64 th, .int .i64 ca, .int .i64 ba, .int .i64 sh, .int .i64 re, .int .i64 mo, .int .i64 fi, .int .u64 key]] w fun e w' => e = .returned (.int .i64 1) ∧ Below w.heap.size w w' := by
  go_enter Try.func31, Try.ntmps31
  go_wp2_with (first | (go_at_call 37; refine (btw_is _ _ _ _ _ (by first | exact h0.out | exact h1.out | exact h2.out | exact h3.out | exact h4.out | exact h5.out | exact h6.out | exact h7.out | exact h8.out)).mono ?_; rintro e w' ⟨rfl, rfl⟩))
  go_ret
  exact ⟨rfl, alc0 _ _⟩
set_option maxHeartbeats 800000 in
theorem cchk_9 (pg rg lg th ca ba sh re mo fi key : Int) (w : World) (h0 : Hid (decide (1 ≤ pg ∧ pg ≤ 1024) = true)) (h1 : Hid (decide (5 ≤ rg ∧ rg ≤ 16) = true)) (h2 : Hid (decide (0 ≤ lg ∧ lg ≤ 1024) = true)) (h3 : Hid (decide (1 ≤ th ∧ th ≤ 8) = true)) (h4 : Hid (decide (1 ≤ ba ∧ ba ≤ 16) = true)) (h5 : Hid (decide (ba ≤ ca ∧ ca ≤ 32) = true)) (h6 : Hid (decide (0 ≤ sh ∧ sh ≤ 16) = true)) (h7 : Hid (decide (1 ≤ re ∧ re ≤ 64) = true)) (h8 : Hid (decide (1 ≤ mo ∧ mo ≤ 16384) = true)) (h9 : Hid (decide (0 ≤ fi ∧ fi ≤ 255) = false)) :
    Calls Try.prog 31 #[.agg #[.int .i64 pg, .int .i64 rg, .int .i64 lg, .int .i64 th, .int .i64 ca, .int .i64 ba, .int .i64 sh, .int .i64 re, .int .i64 mo, .int .i64 fi, .int .u64 key]] w fun e w' => e = .returned (.int .i64 1) ∧ Below w.heap.size w w' := by
  go_enter Try.func31, Try.ntmps31
  go_wp2_with (first | (go_at_call 37; refine (btw_is _ _ _ _ _ (by first | exact h0.out | exact h1.out | exact h2.out | exact h3.out | exact h4.out | exact h5.out | exact h6.out | exact h7.out | exact h8.out | exact h9.out)).mono ?_; rintro e w' ⟨rfl, rfl⟩))
  go_ret
  exact ⟨rfl, alc0 _ _⟩
set_option maxHeartbeats 800000 in
theorem cchk_10 (pg rg lg th ca ba sh re mo fi key : Int) (w : World) (h0 : Hid (decide (1 ≤ pg ∧ pg ≤ 1024) = true)) (h1 : Hid (decide (5 ≤ rg ∧ rg ≤ 16) = true)) (h2 : Hid (decide (0 ≤ lg ∧ lg ≤ 1024) = true)) (h3 : Hid (decide (1 ≤ th ∧ th ≤ 8) = true)) (h4 : Hid (decide (1 ≤ ba ∧ ba ≤ 16) = true)) (h5 : Hid (decide (ba ≤ ca ∧ ca ≤ 32) = true)) (h6 : Hid (decide (0 ≤ sh ∧ sh ≤ 16) = true)) (h7 : Hid (decide (1 ≤ re ∧ re ≤ 64) = true)) (h8 : Hid (decide (1 ≤ mo ∧ mo ≤ 16384) = true)) (h9 : Hid (decide (0 ≤ fi ∧ fi ≤ 255) = true)) :
    Calls Try.prog 31 #[.agg #[.int .i64 pg, .int .i64 rg, .int .i64 lg, .int .i64 th, .int .i64 ca, .int .i64 ba, .int .i64 sh, .int .i64 re, .int .i64 mo, .int .i64 fi, .int .u64 key]] w fun e w' => e = .returned (.int .i64 (if rg * 20 + lg > 1024 then 4 else 0)) ∧ Below w.heap.size w w' := by
  have b1 := of_decide_eq_true h1.out
  have b2 := of_decide_eq_true h2.out
  have HB := Lib.hid (And.intro b1 b2)
  obtain ⟨Q, hQ⟩ : ∃ Q, rg * 20 + lg = Q := ⟨_, rfl⟩
  have HA := Lib.hid (fun W => call_is pg rg lg th ca ba sh re mo fi key W b1 b2)
  rw [hQ] at HA ⊢
  clear b1 b2 hQ
  go_enter Try.func31, Try.ntmps31
  go_wp2_with (first | (go_at_call 37; refine (btw_is _ _ _ _ _ (by first | exact h0.out | exact h1.out | exact h2.out | exact h3.out | exact h4.out | exact h5.out | exact h6.out | exact h7.out | exact h8.out | exact h9.out)).mono ?_; rintro e w' ⟨rfl, rfl⟩) | (go_at_call 38; refine (HA.out _).mono ?_; rintro e w2 ⟨rfl, hb⟩))
  all_goals
    go_ret
  all_goals exact ⟨rfl, thn (alc0 _ _) hb⟩
theorem cchk_any (pg rg lg th ca ba sh re mo fi key : Int) (w : World) :
    Calls Try.prog 31 #[.agg #[.int .i64 pg, .int .i64 rg, .int .i64 lg, .int .i64 th, .int .i64 ca, .int .i64 ba, .int .i64 sh, .int .i64 re, .int .i64 mo, .int .i64 fi, .int .u64 key]] w fun e w' => e = .returned (.int .i64 (cfI pg rg lg th ca ba sh re mo fi)) ∧ Below w.heap.size w w' := by
  cases h0 : decide (1 ≤ pg ∧ pg ≤ 1024)
  · have := cchk_0 pg rg lg th ca ba sh re mo fi key w (Lib.hid h0)
    rwa [show (1 : Int) = cfI pg rg lg th ca ba sh re mo fi from by rw [cfI, if_neg]; intro h; have := of_decide_eq_false h0; unfold CfOk at h; omega] at this
  cases h1 : decide (5 ≤ rg ∧ rg ≤ 16)
  · have := cchk_1 pg rg lg th ca ba sh re mo fi key w (Lib.hid h0) (Lib.hid h1)
    rwa [show (1 : Int) = cfI pg rg lg th ca ba sh re mo fi from by rw [cfI, if_neg]; intro h; have := of_decide_eq_false h1; unfold CfOk at h; omega] at this
  cases h2 : decide (0 ≤ lg ∧ lg ≤ 1024)
  · have := cchk_2 pg rg lg th ca ba sh re mo fi key w (Lib.hid h0) (Lib.hid h1) (Lib.hid h2)
    rwa [show (1 : Int) = cfI pg rg lg th ca ba sh re mo fi from by rw [cfI, if_neg]; intro h; have := of_decide_eq_false h2; unfold CfOk at h; omega] at this
  cases h3 : decide (1 ≤ th ∧ th ≤ 8)
  · have := cchk_3 pg rg lg th ca ba sh re mo fi key w (Lib.hid h0) (Lib.hid h1) (Lib.hid h2) (Lib.hid h3)
    rwa [show (1 : Int) = cfI pg rg lg th ca ba sh re mo fi from by rw [cfI, if_neg]; intro h; have := of_decide_eq_false h3; unfold CfOk at h; omega] at this
  cases h4 : decide (1 ≤ ba ∧ ba ≤ 16)
  · have := cchk_4 pg rg lg th ca ba sh re mo fi key w (Lib.hid h0) (Lib.hid h1) (Lib.hid h2) (Lib.hid h3) (Lib.hid h4)
    rwa [show (1 : Int) = cfI pg rg lg th ca ba sh re mo fi from by rw [cfI, if_neg]; intro h; have := of_decide_eq_false h4; unfold CfOk at h; omega] at this
  cases h5 : decide (ba ≤ ca ∧ ca ≤ 32)
  · have := cchk_5 pg rg lg th ca ba sh re mo fi key w (Lib.hid h0) (Lib.hid h1) (Lib.hid h2) (Lib.hid h3) (Lib.hid h4) (Lib.hid h5)
    rwa [show (1 : Int) = cfI pg rg lg th ca ba sh re mo fi from by rw [cfI, if_neg]; intro h; have := of_decide_eq_false h5; unfold CfOk at h; omega] at this
  cases h6 : decide (0 ≤ sh ∧ sh ≤ 16)
  · have := cchk_6 pg rg lg th ca ba sh re mo fi key w (Lib.hid h0) (Lib.hid h1) (Lib.hid h2) (Lib.hid h3) (Lib.hid h4) (Lib.hid h5) (Lib.hid h6)
    rwa [show (1 : Int) = cfI pg rg lg th ca ba sh re mo fi from by rw [cfI, if_neg]; intro h; have := of_decide_eq_false h6; unfold CfOk at h; omega] at this
  cases h7 : decide (1 ≤ re ∧ re ≤ 64)
  · have := cchk_7 pg rg lg th ca ba sh re mo fi key w (Lib.hid h0) (Lib.hid h1) (Lib.hid h2) (Lib.hid h3) (Lib.hid h4) (Lib.hid h5) (Lib.hid h6) (Lib.hid h7)
    rwa [show (1 : Int) = cfI pg rg lg th ca ba sh re mo fi from by rw [cfI, if_neg]; intro h; have := of_decide_eq_false h7; unfold CfOk at h; omega] at this
  cases h8 : decide (1 ≤ mo ∧ mo ≤ 16384)
  · have := cchk_8 pg rg lg th ca ba sh re mo fi key w (Lib.hid h0) (Lib.hid h1) (Lib.hid h2) (Lib.hid h3) (Lib.hid h4) (Lib.hid h5) (Lib.hid h6) (Lib.hid h7) (Lib.hid h8)
    rwa [show (1 : Int) = cfI pg rg lg th ca ba sh re mo fi from by rw [cfI, if_neg]; intro h; have := of_decide_eq_false h8; unfold CfOk at h; omega] at this
  cases h9 : decide (0 ≤ fi ∧ fi ≤ 255)
  · have := cchk_9 pg rg lg th ca ba sh re mo fi key w (Lib.hid h0) (Lib.hid h1) (Lib.hid h2) (Lib.hid h3) (Lib.hid h4) (Lib.hid h5) (Lib.hid h6) (Lib.hid h7) (Lib.hid h8) (Lib.hid h9)
    rwa [show (1 : Int) = cfI pg rg lg th ca ba sh re mo fi from by rw [cfI, if_neg]; intro h; have := of_decide_eq_false h9; unfold CfOk at h; omega] at this
  have := cchk_10 pg rg lg th ca ba sh re mo fi key w (Lib.hid h0) (Lib.hid h1) (Lib.hid h2) (Lib.hid h3) (Lib.hid h4) (Lib.hid h5) (Lib.hid h6) (Lib.hid h7) (Lib.hid h8) (Lib.hid h9)
  rwa [show (if rg * 20 + lg > 1024 then (4 : Int) else 0) = cfI pg rg lg th ca ba sh re mo fi from by unfold cfI; rw [if_pos (c := CfOk pg rg lg th ca ba sh re mo fi) ⟨of_decide_eq_true h0, of_decide_eq_true h1, of_decide_eq_true h2, of_decide_eq_true h3, of_decide_eq_true h4, of_decide_eq_true h5, of_decide_eq_true h6, of_decide_eq_true h7, of_decide_eq_true h8, of_decide_eq_true h9⟩]] at this
theorem cchk_is (r : Int) (pg rg lg th ca ba sh re mo fi key : Int) (w : World) (h : cfI pg rg lg th ca ba sh re mo fi = r) :
    Calls Try.prog 31 #[.agg #[.int .i64 pg, .int .i64 rg, .int .i64 lg, .int .i64 th, .int .i64 ca, .int .i64 ba, .int .i64 sh, .int .i64 re, .int .i64 mo, .int .i64 fi, .int .u64 key]] w fun e w' => e = .returned (.int .i64 r) ∧ Below w.heap.size w w' := by
  subst h; exact cchk_any pg rg lg th ca ba sh re mo fi key w
set_option maxHeartbeats 800000 in
theorem campl_no (r : Int) (pg rg lg th ca ba sh re mo fi key : Int) (w : World) (H : Hid (cfI pg rg lg th ca ba sh re mo fi = r)) (hr : (r == 0) = false) :
    Calls Try.prog 32 #[.agg #[.int .i64 pg, .int .i64 rg, .int .i64 lg, .int .i64 th, .int .i64 ca, .int .i64 ba, .int .i64 sh, .int .i64 re, .int .i64 mo, .int .i64 fi, .int .u64 key]] w fun e w' => e = .returned (.bool false) ∧ Below w.heap.size w w' := by
  go_enter Try.func32, Try.ntmps32
  go_wp2_with fail
  refine wp_region_held_drew (S := (fun w' => w'.cell? ⟨w.heap.size, 0, none⟩ = some (.int .i64 pg) ∧ w'.cell? ⟨w.heap.size, 1, none⟩ = some (.int .i64 rg) ∧ w'.cell? ⟨w.heap.size, 2, none⟩ = some (.int .i64 lg) ∧ w'.cell? ⟨w.heap.size, 3, none⟩ = some (.int .i64 th) ∧ w'.cell? ⟨w.heap.size, 4, none⟩ = some (.int .i64 ca) ∧ w'.cell? ⟨w.heap.size, 5, none⟩ = some (.int .i64 ba) ∧ w'.cell? ⟨w.heap.size, 6, none⟩ = some (.int .i64 sh) ∧ w'.cell? ⟨w.heap.size, 7, none⟩ = some (.int .i64 re) ∧ w'.cell? ⟨w.heap.size, 8, none⟩ = some (.int .i64 mo) ∧ w'.cell? ⟨w.heap.size, 9, none⟩ = some (.int .i64 fi) ∧ w'.cell? ⟨w.heap.size, 10, none⟩ = some (.int .u64 key) ∧ Below w.heap.size w w' ∧ w.heap.size + 1 ≤ w'.heap.size)) (by kernel_rfl) ?_ (fun hHeld => ?_)
  · (refine ⟨?_, ?_, ?_, ?_, ?_, ?_, ?_, ?_, ?_, ?_, ?_, ?_, ?_⟩ <;> first | exact (alc0 _ _).drew | exact BS | (go_keep; done))
  refine wpAnyH_take (i := 0) (v := ?_) rfl (by kernel_rfl) (by kernel_rfl) (by kernel_rfl) (fun _ _ _ h => h) (Or.inl ⟨by kernel_rfl, ?_⟩) (by assumption) ?_
  rotate_left
  · (intro w hSw; (try dsimp only at hSw); go_simp)
    try (with_reducible rfl)
  rotate_left
  try simp (maxSteps := 4000000) only [Act.put, List.setIfInBounds_toArray, List.set_cons_zero, List.set_cons_succ, List.getElem_toArray, List.getElem_cons_zero, List.getElem_cons_succ]
  refine wpAnyH_ready (rs := [1]) (by kernel_rfl) (by simp) ?_
  refine AllReadyH.cons rfl (fun K2 hK2 => ?_) AllReadyH.nil
  go_simp
  refine (cchk_is _ _ _ _ _ _ _ _ _ _ _ _ _ H.out).mono ?_
  rintro e w1 ⟨rfl, hb⟩
  refine hK2.out _ _ ?_ (fun hHeld2 => ?_)
  · go_split_ands
    refine ⟨?_, ?_, ?_, ?_, ?_, ?_, ?_, ?_, ?_, ?_, ?_, ?_, ?_⟩
    · (rw [hb.cell (by first | omega | (simp <;> omega))]; assumption)
    · (rw [hb.cell (by first | omega | (simp <;> omega))]; assumption)
    · (rw [hb.cell (by first | omega | (simp <;> omega))]; assumption)
    · (rw [hb.cell (by first | omega | (simp <;> omega))]; assumption)
    · (rw [hb.cell (by first | omega | (simp <;> omega))]; assumption)
    · (rw [hb.cell (by first | omega | (simp <;> omega))]; assumption)
    · (rw [hb.cell (by first | omega | (simp <;> omega))]; assumption)
    · (rw [hb.cell (by first | omega | (simp <;> omega))]; assumption)
    · (rw [hb.cell (by first | omega | (simp <;> omega))]; assumption)
    · (rw [hb.cell (by first | omega | (simp <;> omega))]; assumption)
    · (rw [hb.cell (by first | omega | (simp <;> omega))]; assumption)
    · exact Below.trans (by assumption) (hb.mono (by first | omega | (simp <;> omega)))
    · (have := hb.size; omega)
  clear hK2 K2 hHeld
  have hHeld := hHeld2
  clear hHeld2
  try simp (maxSteps := 4000000) only [Act.put, List.setIfInBounds_toArray, List.set_cons_zero, List.set_cons_succ, List.getElem_toArray, List.getElem_cons_zero, List.getElem_cons_succ]
  refine wpAnyH_take (i := 2) (v := ?_) rfl (by kernel_rfl) (by kernel_rfl) (by kernel_rfl) (fun _ _ _ h => h) (Or.inl ⟨by kernel_rfl, ?_⟩) (by assumption) ?_
  rotate_left
  · (intro w hSw; (try dsimp only at hSw); go_simp)
    try (with_reducible rfl)
  rotate_left
  try simp (maxSteps := 4000000) only [Act.put, List.setIfInBounds_toArray, List.set_cons_zero, List.set_cons_succ, List.getElem_toArray, List.getElem_cons_zero, List.getElem_cons_succ]
  refine wpAnyH_take (i := 3) (v := ?_) rfl (by kernel_rfl) (by kernel_rfl) (by kernel_rfl) (fun _ _ _ h => h) (Or.inl ⟨by kernel_rfl, ?_⟩) (by assumption) ?_
  rotate_left
  · (intro w hSw; (try dsimp only at hSw); go_simp)
    try (with_reducible rfl)
  rotate_left
  try simp (maxSteps := 4000000) only [Act.put, List.setIfInBounds_toArray, List.set_cons_zero, List.set_cons_succ, List.getElem_toArray, List.getElem_cons_zero, List.getElem_cons_succ]
  refine wpAnyH_take (i := 4) (v := undef) rfl (by kernel_rfl) (by kernel_rfl) (by kernel_rfl) (fun _ _ _ h => h) (Or.inr ⟨by kernel_rfl, rfl⟩) (by assumption) ?_
  try simp (maxSteps := 4000000) only [Act.put, List.setIfInBounds_toArray, List.set_cons_zero, List.set_cons_succ, List.getElem_toArray, List.getElem_cons_zero, List.getElem_cons_succ]
  refine wpAnyH_take (i := 5) (v := undef) rfl (by kernel_rfl) (by kernel_rfl) (by kernel_rfl) (fun _ _ _ h => h) (Or.inr ⟨by kernel_rfl, rfl⟩) (by assumption) ?_
  try simp (maxSteps := 4000000) only [Act.put, List.setIfInBounds_toArray, List.set_cons_zero, List.set_cons_succ, List.getElem_toArray, List.getElem_cons_zero, List.getElem_cons_succ]
  refine wpAnyH_take (i := 6) (v := undef) rfl (by kernel_rfl) (by kernel_rfl) (by kernel_rfl) (fun _ _ _ h => h) (Or.inr ⟨by kernel_rfl, rfl⟩) (by assumption) ?_
  try simp (maxSteps := 4000000) only [Act.put, List.setIfInBounds_toArray, List.set_cons_zero, List.set_cons_succ, List.getElem_toArray, List.getElem_cons_zero, List.getElem_cons_succ]
  refine wpAnyH_take (i := 7) (v := undef) rfl (by kernel_rfl) (by kernel_rfl) (by kernel_rfl) (fun _ _ _ h => h) (Or.inr ⟨by kernel_rfl, rfl⟩) (by assumption) ?_
  try simp (maxSteps := 4000000) only [Act.put, List.setIfInBounds_toArray, List.set_cons_zero, List.set_cons_succ, List.getElem_toArray, List.getElem_cons_zero, List.getElem_cons_succ]
  refine wpAnyH_take (i := 8) (v := undef) rfl (by kernel_rfl) (by kernel_rfl) (by kernel_rfl) (fun _ _ _ h => h) (Or.inr ⟨by kernel_rfl, rfl⟩) (by assumption) ?_
  try simp (maxSteps := 4000000) only [Act.put, List.setIfInBounds_toArray, List.set_cons_zero, List.set_cons_succ, List.getElem_toArray, List.getElem_cons_zero, List.getElem_cons_succ]
  refine wpAnyH_take (i := 9) (v := ?_) rfl (by kernel_rfl) (by kernel_rfl) (by kernel_rfl) (fun _ _ _ h => h) (Or.inl ⟨by kernel_rfl, ?_⟩) (by assumption) ?_
  rotate_left
  · (intro w hSw; (try dsimp only at hSw); go_simp)
    try (with_reducible rfl)
  rotate_left
  try simp (maxSteps := 4000000) only [Act.put, List.setIfInBounds_toArray, List.set_cons_zero, List.set_cons_succ, List.getElem_toArray, List.getElem_cons_zero, List.getElem_cons_succ]
  refine wpAnyH_take (i := 10) (v := ?_) rfl (by kernel_rfl) (by kernel_rfl) (by kernel_rfl) (fun _ _ _ h => h) (Or.inl ⟨by kernel_rfl, ?_⟩) (by assumption) ?_
  rotate_left
  · (intro w hSw; (try dsimp only at hSw); go_simp)
    try (with_reducible rfl)
  rotate_left
  try simp (maxSteps := 4000000) only [Act.put, List.setIfInBounds_toArray, List.set_cons_zero, List.set_cons_succ, List.getElem_toArray, List.getElem_cons_zero, List.getElem_cons_succ]
  refine wpAnyH_done (by kernel_rfl) ?_ _
  go_wp2
  go_ret
  exact ⟨ret_bool (by simp), hHeld.2.2.2.2.2.2.2.2.2.2.2.1⟩
set_option maxHeartbeats 800000 in
theorem campl_yes (pg rg lg th ca ba sh re mo fi key : Int) (w : World) (H : Hid (cfI pg rg lg th ca ba sh re mo fi = 0)) (HR : Hid ((5 ≤ rg ∧ rg ≤ 16) ∧ (0 ≤ lg ∧ lg ≤ 1024))) :
    Calls Try.prog 32 #[.agg #[.int .i64 pg, .int .i64 rg, .int .i64 lg, .int .i64 th, .int .i64 ca, .int .i64 ba, .int .i64 sh, .int .i64 re, .int .i64 mo, .int .i64 fi, .int .u64 key]] w fun e w' => e = .returned (.bool (decide (rg * 20 + lg ≤ pg))) ∧ Below w.heap.size w w' := by
  go_enter Try.func32, Try.ntmps32
  go_wp2_with fail
  refine wp_region_held_drew (S := (fun w' => w'.cell? ⟨w.heap.size, 0, none⟩ = some (.int .i64 pg) ∧ w'.cell? ⟨w.heap.size, 1, none⟩ = some (.int .i64 rg) ∧ w'.cell? ⟨w.heap.size, 2, none⟩ = some (.int .i64 lg) ∧ w'.cell? ⟨w.heap.size, 3, none⟩ = some (.int .i64 th) ∧ w'.cell? ⟨w.heap.size, 4, none⟩ = some (.int .i64 ca) ∧ w'.cell? ⟨w.heap.size, 5, none⟩ = some (.int .i64 ba) ∧ w'.cell? ⟨w.heap.size, 6, none⟩ = some (.int .i64 sh) ∧ w'.cell? ⟨w.heap.size, 7, none⟩ = some (.int .i64 re) ∧ w'.cell? ⟨w.heap.size, 8, none⟩ = some (.int .i64 mo) ∧ w'.cell? ⟨w.heap.size, 9, none⟩ = some (.int .i64 fi) ∧ w'.cell? ⟨w.heap.size, 10, none⟩ = some (.int .u64 key) ∧ Below w.heap.size w w' ∧ w.heap.size + 1 ≤ w'.heap.size)) (by kernel_rfl) ?_ (fun hHeld => ?_)
  · (refine ⟨?_, ?_, ?_, ?_, ?_, ?_, ?_, ?_, ?_, ?_, ?_, ?_, ?_⟩ <;> first | exact (alc0 _ _).drew | exact BS | (go_keep; done))
  refine wpAnyH_take (i := 0) (v := ?_) rfl (by kernel_rfl) (by kernel_rfl) (by kernel_rfl) (fun _ _ _ h => h) (Or.inl ⟨by kernel_rfl, ?_⟩) (by assumption) ?_
  rotate_left
  · (intro w hSw; (try dsimp only at hSw); go_simp)
    try (with_reducible rfl)
  rotate_left
  try simp (maxSteps := 4000000) only [Act.put, List.setIfInBounds_toArray, List.set_cons_zero, List.set_cons_succ, List.getElem_toArray, List.getElem_cons_zero, List.getElem_cons_succ]
  refine wpAnyH_ready (rs := [1]) (by kernel_rfl) (by simp) ?_
  refine AllReadyH.cons rfl (fun K2 hK2 => ?_) AllReadyH.nil
  go_simp
  refine (cchk_is _ _ _ _ _ _ _ _ _ _ _ _ _ H.out).mono ?_
  rintro e w1 ⟨rfl, hb⟩
  refine hK2.out _ _ ?_ (fun hHeld2 => ?_)
  · go_split_ands
    refine ⟨?_, ?_, ?_, ?_, ?_, ?_, ?_, ?_, ?_, ?_, ?_, ?_, ?_⟩
    · (rw [hb.cell (by first | omega | (simp <;> omega))]; assumption)
    · (rw [hb.cell (by first | omega | (simp <;> omega))]; assumption)
    · (rw [hb.cell (by first | omega | (simp <;> omega))]; assumption)
    · (rw [hb.cell (by first | omega | (simp <;> omega))]; assumption)
    · (rw [hb.cell (by first | omega | (simp <;> omega))]; assumption)
    · (rw [hb.cell (by first | omega | (simp <;> omega))]; assumption)
    · (rw [hb.cell (by first | omega | (simp <;> omega))]; assumption)
    · (rw [hb.cell (by first | omega | (simp <;> omega))]; assumption)
    · (rw [hb.cell (by first | omega | (simp <;> omega))]; assumption)
    · (rw [hb.cell (by first | omega | (simp <;> omega))]; assumption)
    · (rw [hb.cell (by first | omega | (simp <;> omega))]; assumption)
    · exact Below.trans (by assumption) (hb.mono (by first | omega | (simp <;> omega)))
    · (have := hb.size; omega)
  clear hK2 K2 hHeld
  have hHeld := hHeld2
  clear hHeld2
  try simp (maxSteps := 4000000) only [Act.put, List.setIfInBounds_toArray, List.set_cons_zero, List.set_cons_succ, List.getElem_toArray, List.getElem_cons_zero, List.getElem_cons_succ]
  refine wpAnyH_take (i := 2) (v := ?_) rfl (by kernel_rfl) (by kernel_rfl) (by kernel_rfl) (fun _ _ _ h => h) (Or.inl ⟨by kernel_rfl, ?_⟩) (by assumption) ?_
  rotate_left
  · (intro w hSw; (try dsimp only at hSw); go_simp)
    try (with_reducible rfl)
  rotate_left
  try simp (maxSteps := 4000000) only [Act.put, List.setIfInBounds_toArray, List.set_cons_zero, List.set_cons_succ, List.getElem_toArray, List.getElem_cons_zero, List.getElem_cons_succ]
  refine wpAnyH_take (i := 3) (v := ?_) rfl (by kernel_rfl) (by kernel_rfl) (by kernel_rfl) (fun _ _ _ h => h) (Or.inl ⟨by kernel_rfl, ?_⟩) (by assumption) ?_
  rotate_left
  · (intro w hSw; (try dsimp only at hSw); go_simp)
    try (with_reducible rfl)
  rotate_left
  try simp (maxSteps := 4000000) only [Act.put, List.setIfInBounds_toArray, List.set_cons_zero, List.set_cons_succ, List.getElem_toArray, List.getElem_cons_zero, List.getElem_cons_succ]
  refine wpAnyH_take (i := 4) (v := ?_) rfl (by kernel_rfl) (by kernel_rfl) (by kernel_rfl) (fun _ _ _ h => h) (Or.inl ⟨by kernel_rfl, ?_⟩) (by assumption) ?_
  rotate_left
  · (intro w hSw; (try dsimp only at hSw); go_simp)
    try (with_reducible rfl)
  rotate_left
  try simp (maxSteps := 4000000) only [Act.put, List.setIfInBounds_toArray, List.set_cons_zero, List.set_cons_succ, List.getElem_toArray, List.getElem_cons_zero, List.getElem_cons_succ]
  refine wpAnyH_take (i := 5) (v := ?_) rfl (by kernel_rfl) (by kernel_rfl) (by kernel_rfl) (fun _ _ _ h => h) (Or.inl ⟨by kernel_rfl, ?_⟩) (by assumption) ?_
  rotate_left
  · (intro w hSw; (try dsimp only at hSw); go_simp)
    try (with_reducible rfl)
  rotate_left
  try simp (maxSteps := 4000000) only [Act.put, List.setIfInBounds_toArray, List.set_cons_zero, List.set_cons_succ, List.getElem_toArray, List.getElem_cons_zero, List.getElem_cons_succ]
  refine wpAnyH_take (i := 6) (v := ?_) rfl (by kernel_rfl) (by kernel_rfl) (by kernel_rfl) (fun _ _ _ h => h) (Or.inl ⟨by kernel_rfl, ?_⟩) (by assumption) ?_
  rotate_left
  · (intro w hSw; (try dsimp only at hSw); go_simp)
    try (with_reducible rfl)
  rotate_left
  try simp (maxSteps := 4000000) only [Act.put, List.setIfInBounds_toArray, List.set_cons_zero, List.set_cons_succ, List.getElem_toArray, List.getElem_cons_zero, List.getElem_cons_succ]
  refine wpAnyH_ready (rs := [7]) (by kernel_rfl) (by simp) ?_
  refine AllReadyH.cons rfl (fun K2 hK2 => ?_) AllReadyH.nil
  go_simp
  refine (call_is _ _ _ _ _ _ _ _ _ _ _ _ HR.out.1 HR.out.2).mono ?_
  rintro e w1 ⟨rfl, hb⟩
  refine hK2.out _ _ ?_ (fun hHeld2 => ?_)
  · go_split_ands
    refine ⟨?_, ?_, ?_, ?_, ?_, ?_, ?_, ?_, ?_, ?_, ?_, ?_, ?_⟩
    · (rw [hb.cell (by first | omega | (simp <;> omega))]; assumption)
    · (rw [hb.cell (by first | omega | (simp <;> omega))]; assumption)
    · (rw [hb.cell (by first | omega | (simp <;> omega))]; assumption)
    · (rw [hb.cell (by first | omega | (simp <;> omega))]; assumption)
    · (rw [hb.cell (by first | omega | (simp <;> omega))]; assumption)
    · (rw [hb.cell (by first | omega | (simp <;> omega))]; assumption)
    · (rw [hb.cell (by first | omega | (simp <;> omega))]; assumption)
    · (rw [hb.cell (by first | omega | (simp <;> omega))]; assumption)
    · (rw [hb.cell (by first | omega | (simp <;> omega))]; assumption)
    · (rw [hb.cell (by first | omega | (simp <;> omega))]; assumption)
    · (rw [hb.cell (by first | omega | (simp <;> omega))]; assumption)
    · exact Below.trans (by assumption) (hb.mono (by first | omega | (simp <;> omega)))
    · (have := hb.size; omega)
  clear hK2 K2 hHeld
  have hHeld := hHeld2
  clear hHeld2
  try simp (maxSteps := 4000000) only [Act.put, List.setIfInBounds_toArray, List.set_cons_zero, List.set_cons_succ, List.getElem_toArray, List.getElem_cons_zero, List.getElem_cons_succ]
  refine wpAnyH_take (i := 8) (v := ?_) rfl (by kernel_rfl) (by kernel_rfl) (by kernel_rfl) (fun _ _ _ h => h) (Or.inl ⟨by kernel_rfl, ?_⟩) (by assumption) ?_
  rotate_left
  · (intro w hSw; (try dsimp only at hSw); go_simp)
    try (with_reducible rfl)
  rotate_left
  try simp (maxSteps := 4000000) only [Act.put, List.setIfInBounds_toArray, List.set_cons_zero, List.set_cons_succ, List.getElem_toArray, List.getElem_cons_zero, List.getElem_cons_succ]
  refine wpAnyH_take (i := 9) (v := ?_) rfl (by kernel_rfl) (by kernel_rfl) (by kernel_rfl) (fun _ _ _ h => h) (Or.inl ⟨by kernel_rfl, ?_⟩) (by assumption) ?_
  rotate_left
  · (intro w hSw; (try dsimp only at hSw); go_simp)
    try (with_reducible rfl)
  rotate_left
  try simp (maxSteps := 4000000) only [Act.put, List.setIfInBounds_toArray, List.set_cons_zero, List.set_cons_succ, List.getElem_toArray, List.getElem_cons_zero, List.getElem_cons_succ]
  refine wpAnyH_take (i := 10) (v := ?_) rfl (by kernel_rfl) (by kernel_rfl) (by kernel_rfl) (fun _ _ _ h => h) (Or.inl ⟨by kernel_rfl, ?_⟩) (by assumption) ?_
  rotate_left
  · (intro w hSw; (try dsimp only at hSw); go_simp)
    try (with_reducible rfl)
  rotate_left
  try simp (maxSteps := 4000000) only [Act.put, List.setIfInBounds_toArray, List.set_cons_zero, List.set_cons_succ, List.getElem_toArray, List.getElem_cons_zero, List.getElem_cons_succ]
  refine wpAnyH_done (by kernel_rfl) ?_ _
  go_wp2
  go_ret
  exact ⟨ret_bool (by simp), hHeld.2.2.2.2.2.2.2.2.2.2.2.1⟩
end Go.Proofs.Ytahggokeelgjdaa
