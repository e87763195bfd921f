/- Conf. -/
import Derived.Test.YtanmmhbnjmglhaaRows
import Derived.Test.YtanmmhbnjmglhaaZ01
import Derived.WalkKit
import Derived.ProofKit
import Derived.OpenShut
import Derived.WalkLawsBesides
import Derived.WalkSpells
import Derived.Deep.QuietTactic
import Derived.BigQuiet
import Derived.Lib.Hide
import Derived.Laws.StructEq
import Derived.Deep.RegionHeld3
import Derived.Deep.DeepCutAuto
import Derived.Deep.CutBlock
import Derived.WalkSmall
namespace Go.Proofs.Ytanmmhbnjmglhaa
open Go.RowKit
set_option linter.unusedVariables false
set_option linter.unusedSimpArgs false
/-- A struct in block x. -/
def ConfAt (x : Nat) (W : World) (pg : Int) (rg : Int) (lg : Int) (th : Int) (ca : Int) (ba : Int) (sh : Int) (re : Int) (mo : Int) (fi : Int) (key : Int) : Prop :=
  x < W.heap.size ∧ W.cell? ⟨x, 0, none⟩ = some (.int .i64 pg) ∧ W.cell? ⟨x, 1, none⟩ = some (.int .i64 rg) ∧ W.cell? ⟨x, 2, none⟩ = some (.int .i64 lg) ∧ W.cell? ⟨x, 3, none⟩ = some (.int .i64 th) ∧ W.cell? ⟨x, 4, none⟩ = some (.int .i64 ca) ∧ W.cell? ⟨x, 5, none⟩ = some (.int .i64 ba) ∧ W.cell? ⟨x, 6, none⟩ = some (.int .i64 sh) ∧ W.cell? ⟨x, 7, none⟩ = some (.int .i64 re) ∧ W.cell? ⟨x, 8, none⟩ = some (.int .i64 mo) ∧ W.cell? ⟨x, 9, none⟩ = some (.int .i64 fi) ∧ W.cell? ⟨x, 10, none⟩ = some (.int .u64 key) ∧ ∀ o, o < 11 → W.frozen? ⟨x, o, none⟩ = false
theorem ConfAt.keep {x : Nat} {W W' : World} {pg : Int} {rg : Int} {lg : Int} {th : Int} {ca : Int} {ba : Int} {sh : Int} {re : Int} {mo : Int} {fi : Int} {key : Int} (h : ConfAt x W pg rg lg th ca ba sh re mo fi key) (hs : W.heap.size ≤ W'.heap.size) (hk : W'.heap[x]? = W.heap[x]?) : ConfAt x W' pg rg lg th ca ba sh re mo fi key := by
  obtain ⟨h0, h1, h2, h3, h4, h5, h6, h7, h8, h9, h10, h11, hf⟩ := h
  have e : ∀ o, W'.cell? ⟨x, o, none⟩ = W.cell? ⟨x, o, none⟩ := fun o => World.cell?_of_block hk
  exact ⟨Nat.lt_of_lt_of_le h0 hs, (e 0).trans h1, (e 1).trans h2, (e 2).trans h3, (e 3).trans h4, (e 4).trans h5, (e 5).trans h6, (e 6).trans h7, (e 7).trans h8, (e 8).trans h9, (e 9).trans h10, (e 10).trans h11, fun o ho => (World.frozen?_of_block hk).trans (hf o ho)⟩
theorem ConfAt.below {x : Nat} {W W' : World} {pg : Int} {rg : Int} {lg : Int} {th : Int} {ca : Int} {ba : Int} {sh : Int} {re : Int} {mo : Int} {fi : Int} {key : Int} (h : ConfAt x W pg rg lg th ca ba sh re mo fi key) (hb : Below W.heap.size W W') : ConfAt x W' pg rg lg th ca ba sh re mo fi key := h.keep hb.size (hb.block x h.1)
theorem ConfAt.new (W : World) (pg : Int) (rg : Int) (lg : Int) (th : Int) (ca : Int) (ba : Int) (sh : Int) (re : Int) (mo : Int) (fi : Int) (key : Int) (T : TypeId) : ConfAt W.heap.size (W.alloc (.cells #[.int .i64 pg, .int .i64 rg, .int .i64 lg, .int .i64 th, .int .i64 ca, .int .i64 ba, .int .i64 sh, .int .i64 re, .int .i64 mo, .int .i64 fi, .int .u64 key] T)) pg rg lg th ca ba sh re mo fi key := by
  refine ⟨by simp, by simp, by simp, by simp, by simp, by simp, by simp, by simp, by simp, by simp, by simp, by simp, fun o ho => ?_⟩
  simp
theorem ConfAt.s1 {x : Nat} {W : World} {pg : Int} {rg : Int} {lg : Int} {th : Int} {ca : Int} {ba : Int} {sh : Int} {re : Int} {mo : Int} {fi : Int} {key : Int} (h : ConfAt x W pg rg lg th ca ba sh re mo fi key) (rg' : Int) : ConfAt x (W.setCell ⟨x, 1, none⟩ (.int .i64 rg')) pg rg' lg th ca ba sh re mo fi key := by
  obtain ⟨h0, h1, h2, h3, h4, h5, h6, h7, h8, h9, h10, h11, hf⟩ := h
  exact ⟨by simp [World.setCell]; exact h0, (World.cell?_setCell_other _ _ _ _ (by simp)).trans h1, (World.cell?_setCell_same _ _ _ h2), (World.cell?_setCell_other _ _ _ _ (by simp)).trans h3, (World.cell?_setCell_other _ _ _ _ (by simp)).trans h4, (World.cell?_setCell_other _ _ _ _ (by simp)).trans h5, (World.cell?_setCell_other _ _ _ _ (by simp)).trans h6, (World.cell?_setCell_other _ _ _ _ (by simp)).trans h7, (World.cell?_setCell_other _ _ _ _ (by simp)).trans h8, (World.cell?_setCell_other _ _ _ _ (by simp)).trans h9, (World.cell?_setCell_other _ _ _ _ (by simp)).trans h10, (World.cell?_setCell_other _ _ _ _ (by simp)).trans h11, fun o ho => by simp [hf o ho]⟩
theorem ConfAt.s2 {x : Nat} {W : World} {pg : Int} {rg : Int} {lg : Int} {th : Int} {ca : Int} {ba : Int} {sh : Int} {re : Int} {mo : Int} {fi : Int} {key : Int} (h : ConfAt x W pg rg lg th ca ba sh re mo fi key) (lg' : Int) : ConfAt x (W.setCell ⟨x, 2, none⟩ (.int .i64 lg')) pg rg lg' th ca ba sh re mo fi key := by
  obtain ⟨h0, h1, h2, h3, h4, h5, h6, h7, h8, h9, h10, h11, hf⟩ := h
  exact ⟨by simp [World.setCell]; exact h0, (World.cell?_setCell_other _ _ _ _ (by simp)).trans h1, (World.cell?_setCell_other _ _ _ _ (by simp)).trans h2, (World.cell?_setCell_same _ _ _ h3), (World.cell?_setCell_other _ _ _ _ (by simp)).trans h4, (World.cell?_setCell_other _ _ _ _ (by simp)).trans h5, (World.cell?_setCell_other _ _ _ _ (by simp)).trans h6, (World.cell?_setCell_other _ _ _ _ (by simp)).trans h7, (World.cell?_setCell_other _ _ _ _ (by simp)).trans h8, (World.cell?_setCell_other _ _ _ _ (by simp)).trans h9, (World.cell?_setCell_other _ _ _ _ (by simp)).trans h10, (World.cell?_setCell_other _ _ _ _ (by simp)).trans h11, fun o ho => by simp [hf o ho]⟩
theorem ConfAt.s3 {x : Nat} {W : World} {pg : Int} {rg : Int} {lg : Int} {th : Int} {ca : Int} {ba : Int} {sh : Int} {re : Int} {mo : Int} {fi : Int} {key : Int} (h : ConfAt x W pg rg lg th ca ba sh re mo fi key) (th' : Int) : ConfAt x (W.setCell ⟨x, 3, none⟩ (.int .i64 th')) pg rg lg th' ca ba sh re mo fi key := by
  obtain ⟨h0, h1, h2, h3, h4, h5, h6, h7, h8, h9, h10, h11, hf⟩ := h
  exact ⟨by simp [World.setCell]; exact h0, (World.cell?_setCell_other _ _ _ _ (by simp)).trans h1, (World.cell?_setCell_other _ _ _ _ (by simp)).trans h2, (World.cell?_setCell_other _ _ _ _ (by simp)).trans h3, (World.cell?_setCell_same _ _ _ h4), (World.cell?_setCell_other _ _ _ _ (by simp)).trans h5, (World.cell?_setCell_other _ _ _ _ (by simp)).trans h6, (World.cell?_setCell_other _ _ _ _ (by simp)).trans h7, (World.cell?_setCell_other _ _ _ _ (by simp)).trans h8, (World.cell?_setCell_other _ _ _ _ (by simp)).trans h9, (World.cell?_setCell_other _ _ _ _ (by simp)).trans h10, (World.cell?_setCell_other _ _ _ _ (by simp)).trans h11, fun o ho => by simp [hf o ho]⟩
theorem ConfAt.s4 {x : Nat} {W : World} {pg : Int} {rg : Int} {lg : Int} {th : Int} {ca : Int} {ba : Int} {sh : Int} {re : Int} {mo : Int} {fi : Int} {key : Int} (h : ConfAt x W pg rg lg th ca ba sh re mo fi key) (ca' : Int) : ConfAt x (W.setCell ⟨x, 4, none⟩ (.int .i64 ca')) pg rg lg th ca' ba sh re mo fi key := by
  obtain ⟨h0, h1, h2, h3, h4, h5, h6, h7, h8, h9, h10, h11, hf⟩ := h
  exact ⟨by simp [World.setCell]; exact h0, (World.cell?_setCell_other _ _ _ _ (by simp)).trans h1, (World.cell?_setCell_other _ _ _ _ (by simp)).trans h2, (World.cell?_setCell_other _ _ _ _ (by simp)).trans h3, (World.cell?_setCell_other _ _ _ _ (by simp)).trans h4, (World.cell?_setCell_same _ _ _ h5), (World.cell?_setCell_other _ _ _ _ (by simp)).trans h6, (World.cell?_setCell_other _ _ _ _ (by simp)).trans h7, (World.cell?_setCell_other _ _ _ _ (by simp)).trans h8, (World.cell?_setCell_other _ _ _ _ (by simp)).trans h9, (World.cell?_setCell_other _ _ _ _ (by simp)).trans h10, (World.cell?_setCell_other _ _ _ _ (by simp)).trans h11, fun o ho => by simp [hf o ho]⟩
theorem ConfAt.s5 {x : Nat} {W : World} {pg : Int} {rg : Int} {lg : Int} {th : Int} {ca : Int} {ba : Int} {sh : Int} {re : Int} {mo : Int} {fi : Int} {key : Int} (h : ConfAt x W pg rg lg th ca ba sh re mo fi key) (ba' : Int) : ConfAt x (W.setCell ⟨x, 5, none⟩ (.int .i64 ba')) pg rg lg th ca ba' sh re mo fi key := by
  obtain ⟨h0, h1, h2, h3, h4, h5, h6, h7, h8, h9, h10, h11, hf⟩ := h
  exact ⟨by simp [World.setCell]; exact h0, (World.cell?_setCell_other _ _ _ _ (by simp)).trans h1, (World.cell?_setCell_other _ _ _ _ (by simp)).trans h2, (World.cell?_setCell_other _ _ _ _ (by simp)).trans h3, (World.cell?_setCell_other _ _ _ _ (by simp)).trans h4, (World.cell?_setCell_other _ _ _ _ (by simp)).trans h5, (World.cell?_setCell_same _ _ _ h6), (World.cell?_setCell_other _ _ _ _ (by simp)).trans h7, (World.cell?_setCell_other _ _ _ _ (by simp)).trans h8, (World.cell?_setCell_other _ _ _ _ (by simp)).trans h9, (World.cell?_setCell_other _ _ _ _ (by simp)).trans h10, (World.cell?_setCell_other _ _ _ _ (by simp)).trans h11, fun o ho => by simp [hf o ho]⟩
theorem ConfAt.s9 {x : Nat} {W : World} {pg : Int} {rg : Int} {lg : Int} {th : Int} {ca : Int} {ba : Int} {sh : Int} {re : Int} {mo : Int} {fi : Int} {key : Int} (h : ConfAt x W pg rg lg th ca ba sh re mo fi key) (fi' : Int) : ConfAt x (W.setCell ⟨x, 9, none⟩ (.int .i64 fi')) pg rg lg th ca ba sh re mo fi' key := by
  obtain ⟨h0, h1, h2, h3, h4, h5, h6, h7, h8, h9, h10, h11, hf⟩ := h
  exact ⟨by simp [World.setCell]; exact h0, (World.cell?_setCell_other _ _ _ _ (by simp)).trans h1, (World.cell?_setCell_other _ _ _ _ (by simp)).trans h2, (World.cell?_setCell_other _ _ _ _ (by simp)).trans h3, (World.cell?_setCell_other _ _ _ _ (by simp)).trans h4, (World.cell?_setCell_other _ _ _ _ (by simp)).trans h5, (World.cell?_setCell_other _ _ _ _ (by simp)).trans h6, (World.cell?_setCell_other _ _ _ _ (by simp)).trans h7, (World.cell?_setCell_other _ _ _ _ (by simp)).trans h8, (World.cell?_setCell_other _ _ _ _ (by simp)).trans h9, (World.cell?_setCell_same _ _ _ h10), (World.cell?_setCell_other _ _ _ _ (by simp)).trans h11, fun o ho => by simp [hf o ho]⟩
def CfOk (pg rg lg th ca ba sh re mo fi : Int) : Prop := (1 ≤ pg ∧ pg ≤ 1024) ∧ (5 ≤ rg ∧ rg ≤ 16) ∧ (0 ≤ lg ∧ lg ≤ 1024) ∧ (1 ≤ th ∧ th ≤ 8) ∧ (1 ≤ ba ∧ ba ≤ 16) ∧ (ba ≤ ca ∧ ca ≤ 32) ∧ (0 ≤ sh ∧ sh ≤ 16) ∧ (1 ≤ re ∧ re ≤ 64) ∧ (1 ≤ mo ∧ mo ≤ 16384) ∧ (0 ≤ fi ∧ fi ≤ 255)
instance (pg rg lg th ca ba sh re mo fi : Int) : Decidable (CfOk pg rg lg th ca ba sh re mo fi) := by unfold CfOk; infer_instance
end Go.Proofs.Ytanmmhbnjmglhaa
