/- PermM, CapaM, CapAt in one text: a claim holds at most 60 files. -/
import Derived.Test.YtljjcomedjdpaaaDoorRows
import Derived.Test.YtljjcomedjdpaaaDoorInt
import Derived.WalkKit
import Derived.ProofKit
import Derived.OpenShut
import Derived.WalkLawsBesides
import Derived.WalkSpells
import Derived.Lib.Hide
import Derived.Lib.SlBytesConst
import Derived.Handy
import Derived.Test.YtljjcomedjdpaaaDoorSpanG
import Derived.Laws.StructEq
import Derived.Deep.DeepCutAuto
namespace Go.Proofs.YtljjcomedjdpaaaDoor
set_option maxRecDepth 100000
open Go.RowKit
set_option linter.unusedVariables false

def pmayB (p : Int) : Bool := decide (0 ≤ p ∧ p ≤ 31)
theorem pmay_any (p : Int) (w : World) :
    Calls Tryd.prog 59 #[.int .i64 p] w fun e w' => e = .returned (.bool (pmayB p)) ∧ w = w' := by
  go_enter Tryd.func59, Tryd.ntmps59
  go_wp2
  all_goals
    go_ret
    exact ⟨ret_bool (by rw [Bool.eq_iff_iff]; simp [pmayB] <;> omega), rfl⟩
theorem pmay_is (r : Bool) (p : Int) (w : World) (h : pmayB p = r) :
    Calls Tryd.prog 59 #[.int .i64 p] w fun e w' => e = .returned (.bool r) ∧ w = w' := by
  subst h; exact pmay_any p w
theorem pmay_yes {p : Int} (h : 0 ≤ p ∧ p ≤ 31) : pmayB p = true := by simp [pmayB, h]
theorem pmay_no {p : Int} (h : ¬ (0 ≤ p ∧ p ≤ 31)) : pmayB p = false := by simp only [pmayB, decide_eq_false_iff_not]; exact h

def phasB (p q : Int) : Bool := pmayB p && (pmayB q && (bits .and .i64 p q == q))
end Go.Proofs.YtljjcomedjdpaaaDoor
namespace Go.Proofs.YtljjcomedjdpaaaDoor
set_option maxRecDepth 100000
open Go.RowKit
set_option linter.unusedVariables false

def capOkB (b l c p t : Int) : Bool := mayB b l && (decide (b - 1048576 ≤ c ∧ c ≤ b + 1048576) && (pmayB p && decide (0 ≤ t ∧ t ≤ 15)))
def capMayB (b l c p t : Int) (v : Bool) : Bool := if v then capOkB b l c p t else decide (b = 0 ∧ l = 0 ∧ c = 0 ∧ p = 0 ∧ t = 0)

theorem capspan_any (b l c p t : Int) (v : Bool) (w : World) :
    Calls Tryd.prog 58 #[.agg #[.int .i64 b, .int .i64 l, .int .i64 c, .int .i64 p, .int .i64 t, .bool v]] w fun e w' => e = .returned (.agg #[.int .i64 b, .int .i64 l]) ∧ Below w.heap.size w w' := by
  go_enter Tryd.func58, Tryd.ntmps58
  go_wp2
  refine bodyPost_ret (v := .agg #[.int .i64 b, .int .i64 l]) (by simp [results, Tryd.results58, go_sem]) rfl ⟨rfl, ?_⟩
  exact alc (alc0 _ _) _

theorem capmay_none (b l c p t : Int) (w : World) :
    Calls Tryd.prog 36 #[.agg #[.int .i64 b, .int .i64 l, .int .i64 c, .int .i64 p, .int .i64 t, .bool false]] w fun e w' => e = .returned (.bool (capMayB b l c p t false)) ∧ Below w.heap.size w w' := by
  go_enter Tryd.func36, Tryd.ntmps36
  go_wp2
  all_goals
    go_ret
    exact ⟨ret_bool (by simp [capMayB, *]), alc0 _ _⟩
theorem capmay_some (b l c p t : Int) (w : World) :
    Calls Tryd.prog 36 #[.agg #[.int .i64 b, .int .i64 l, .int .i64 c, .int .i64 p, .int .i64 t, .bool true]] w fun e w' => e = .returned (.bool (capMayB b l c p t true)) ∧ Below w.heap.size w w' := by
  have hd : capMayB b l c p t true = (mayB b l && (decide (b - 1048576 ≤ c ∧ c ≤ b + 1048576) && (pmayB p && decide (0 ≤ t ∧ t ≤ 15)))) := rfl
  have HD := Lib.hid hd; clear hd
  cases hm : mayB b l
  · have HM := Lib.hid hm; clear hm
    go_enter Tryd.func36, Tryd.ntmps36
    go_wp2_with (first | (go_at_call 58; refine (capspan_any _ _ _ _ _ _ _).mono ?_; rintro e w1 ⟨rfl, hb1⟩) | (go_at_call 57; refine (may_any _ _ _).mono ?_; rintro e w2 ⟨rfl, hb2⟩; rw [HM.out]))
    go_ret
    exact ⟨ret_bool (by rw [HD.out, HM.out]; rfl), thn (thn (alc0 _ _) hb1) hb2⟩
  · obtain ⟨m1, m2, m3, m4⟩ := mayB_iff.1 hm
    have HM := Lib.hid hm; clear hm
    go_enter Tryd.func36, Tryd.ntmps36
    go_wp2_with (first | (go_at_call 58; refine (capspan_any _ _ _ _ _ _ _).mono ?_; rintro e w1 ⟨rfl, hb1⟩) | (go_at_call 57; refine (may_any _ _ _).mono ?_; rintro e w2 ⟨rfl, hb2⟩; rw [HM.out]; obtain ⟨hc, hf⟩ := bcell (thn hb1 hb2)) | (go_at_call 59; refine (pmay_any _ _).mono ?_; rintro e w' ⟨rfl, rfl⟩))
    all_goals
      go_ret
      exact ⟨ret_bool (by rw [HD.out, HM.out, Bool.eq_iff_iff]; simp [*] <;> omega), thn (thn (alc0 _ _) hb1) hb2⟩
theorem capmay_any (b l c p t : Int) (v : Bool) (w : World) :
    Calls Tryd.prog 36 #[.agg #[.int .i64 b, .int .i64 l, .int .i64 c, .int .i64 p, .int .i64 t, .bool v]] w fun e w' => e = .returned (.bool (capMayB b l c p t v)) ∧ Below w.heap.size w w' := by
  cases v
  · exact capmay_none b l c p t w
  · exact capmay_some b l c p t w
theorem capmay_is (r : Bool) (b l c p t : Int) (v : Bool) (w : World) (h : capMayB b l c p t v = r) :
    Calls Tryd.prog 36 #[.agg #[.int .i64 b, .int .i64 l, .int .i64 c, .int .i64 p, .int .i64 t, .bool v]] w fun e w' => e = .returned (.bool r) ∧ Below w.heap.size w w' := by
  subst h; exact capmay_any b l c p t v w

theorem capoff_any (b l c p t : Int) (v : Bool) (w : World) :
    Calls Tryd.prog 52 #[.agg #[.int .i64 b, .int .i64 l, .int .i64 c, .int .i64 p, .int .i64 t, .bool v]] w fun e w' => e = .returned (.int .i64 (wrap64 (c - b))) ∧ Below w.heap.size w w' := by
  go_enter Tryd.func52, Tryd.ntmps52
  go_wp2
  go_ret
  exact ⟨rfl, alc0 _ _⟩

def capNewV (b l t : Int) : Value := if capOkB b l b 31 t then .agg #[.int .i64 b, .int .i64 l, .int .i64 b, .int .i64 31, .int .i64 t, .bool true] else .agg #[.int .i64 0, .int .i64 0, .int .i64 0, .int .i64 0, .int .i64 0, .bool false]

end Go.Proofs.YtljjcomedjdpaaaDoor
namespace Go.Proofs.YtljjcomedjdpaaaDoor
set_option maxRecDepth 100000
open Go.RowKit
set_option linter.unusedVariables false
set_option linter.unusedSimpArgs false

/-- A capability in block x. -/
def CapAt (x : Nat) (W : World) (b l c p t : Int) (v : Bool) : Prop :=
  x < W.heap.size ∧ W.cell? ⟨x, 0, none⟩ = some (.int .i64 b) ∧ W.cell? ⟨x, 1, none⟩ = some (.int .i64 l) ∧ W.cell? ⟨x, 2, none⟩ = some (.int .i64 c) ∧ W.cell? ⟨x, 3, none⟩ = some (.int .i64 p) ∧ W.cell? ⟨x, 4, none⟩ = some (.int .i64 t) ∧ W.cell? ⟨x, 5, none⟩ = some (.bool v) ∧ ∀ o, o < 6 → W.frozen? ⟨x, o, none⟩ = false
theorem CapAt.keep {x : Nat} {W W' : World} {b l c p t : Int} {v : Bool} (h : CapAt x W b l c p t v) (hs : W.heap.size ≤ W'.heap.size) (hk : W'.heap[x]? = W.heap[x]?) : CapAt x W' b l c p t v := by
  obtain ⟨h0, h1, h2, h3, h4, h5, h6, h7⟩ := h
  have e : ∀ o, W'.cell? ⟨x, o, none⟩ = W.cell? ⟨x, o, none⟩ := fun o => World.cell?_of_block hk
  exact ⟨Nat.lt_of_lt_of_le h0 hs, (e 0).trans h1, (e 1).trans h2, (e 2).trans h3, (e 3).trans h4, (e 4).trans h5, (e 5).trans h6, fun o ho => (World.frozen?_of_block hk).trans (h7 o ho)⟩
theorem CapAt.below {x : Nat} {W W' : World} {b l c p t : Int} {v : Bool} (h : CapAt x W b l c p t v) (hb : Below W.heap.size W W') : CapAt x W' b l c p t v := h.keep hb.size (hb.block x h.1)
theorem CapAt.far {x y o : Nat} {W : World} {b l c p t : Int} {v : Bool} {a : Value} (h : CapAt x W b l c p t v) (hn : x ≠ y) : CapAt x (W.setCell ⟨y, o, none⟩ a) b l c p t v :=
  h.keep (by simp [World.setCell]) (Below.heap_setCell _ _ _ _ (by simpa using hn))
theorem CapAt.new (W : World) (b l c p t : Int) (v : Bool) (T : TypeId) : CapAt W.heap.size (W.alloc (.cells #[.int .i64 b, .int .i64 l, .int .i64 c, .int .i64 p, .int .i64 t, .bool v] T)) b l c p t v := by
  refine ⟨by simp, by simp, by simp, by simp, by simp, by simp, by simp, fun o ho => ?_⟩
  simp
theorem CapAt.s0 {x : Nat} {W : World} {b l c p t : Int} {v : Bool} (h : CapAt x W b l c p t v) (b' : Int) : CapAt x (W.setCell ⟨x, 0, none⟩ (.int .i64 b')) b' l c p t v := by
  obtain ⟨h0, h1, h2, h3, h4, h5, h6, h7⟩ := h
  exact ⟨by simp [World.setCell]; exact h0, (World.cell?_setCell_same _ _ _ h1), (World.cell?_setCell_other _ _ _ _ (by simp)).trans h2, (World.cell?_setCell_other _ _ _ _ (by simp)).trans h3, (World.cell?_setCell_other _ _ _ _ (by simp)).trans h4, (World.cell?_setCell_other _ _ _ _ (by simp)).trans h5, (World.cell?_setCell_other _ _ _ _ (by simp)).trans h6, fun o ho => by simp [h7 o ho]⟩
theorem CapAt.s1 {x : Nat} {W : World} {b l c p t : Int} {v : Bool} (h : CapAt x W b l c p t v) (l' : Int) : CapAt x (W.setCell ⟨x, 1, none⟩ (.int .i64 l')) b l' c p t v := by
  obtain ⟨h0, h1, h2, h3, h4, h5, h6, h7⟩ := h
  exact ⟨by simp [World.setCell]; exact h0, (World.cell?_setCell_other _ _ _ _ (by simp)).trans h1, (World.cell?_setCell_same _ _ _ h2), (World.cell?_setCell_other _ _ _ _ (by simp)).trans h3, (World.cell?_setCell_other _ _ _ _ (by simp)).trans h4, (World.cell?_setCell_other _ _ _ _ (by simp)).trans h5, (World.cell?_setCell_other _ _ _ _ (by simp)).trans h6, fun o ho => by simp [h7 o ho]⟩
theorem CapAt.s2 {x : Nat} {W : World} {b l c p t : Int} {v : Bool} (h : CapAt x W b l c p t v) (c' : Int) : CapAt x (W.setCell ⟨x, 2, none⟩ (.int .i64 c')) b l c' p t v := by
  obtain ⟨h0, h1, h2, h3, h4, h5, h6, h7⟩ := h
  exact ⟨by simp [World.setCell]; exact h0, (World.cell?_setCell_other _ _ _ _ (by simp)).trans h1, (World.cell?_setCell_other _ _ _ _ (by simp)).trans h2, (World.cell?_setCell_same _ _ _ h3), (World.cell?_setCell_other _ _ _ _ (by simp)).trans h4, (World.cell?_setCell_other _ _ _ _ (by simp)).trans h5, (World.cell?_setCell_other _ _ _ _ (by simp)).trans h6, fun o ho => by simp [h7 o ho]⟩
theorem CapAt.s3 {x : Nat} {W : World} {b l c p t : Int} {v : Bool} (h : CapAt x W b l c p t v) (p' : Int) : CapAt x (W.setCell ⟨x, 3, none⟩ (.int .i64 p')) b l c p' t v := by
  obtain ⟨h0, h1, h2, h3, h4, h5, h6, h7⟩ := h
  exact ⟨by simp [World.setCell]; exact h0, (World.cell?_setCell_other _ _ _ _ (by simp)).trans h1, (World.cell?_setCell_other _ _ _ _ (by simp)).trans h2, (World.cell?_setCell_other _ _ _ _ (by simp)).trans h3, (World.cell?_setCell_same _ _ _ h4), (World.cell?_setCell_other _ _ _ _ (by simp)).trans h5, (World.cell?_setCell_other _ _ _ _ (by simp)).trans h6, fun o ho => by simp [h7 o ho]⟩
theorem CapAt.s4 {x : Nat} {W : World} {b l c p t : Int} {v : Bool} (h : CapAt x W b l c p t v) (t' : Int) : CapAt x (W.setCell ⟨x, 4, none⟩ (.int .i64 t')) b l c p t' v := by
  obtain ⟨h0, h1, h2, h3, h4, h5, h6, h7⟩ := h
  exact ⟨by simp [World.setCell]; exact h0, (World.cell?_setCell_other _ _ _ _ (by simp)).trans h1, (World.cell?_setCell_other _ _ _ _ (by simp)).trans h2, (World.cell?_setCell_other _ _ _ _ (by simp)).trans h3, (World.cell?_setCell_other _ _ _ _ (by simp)).trans h4, (World.cell?_setCell_same _ _ _ h5), (World.cell?_setCell_other _ _ _ _ (by simp)).trans h6, fun o ho => by simp [h7 o ho]⟩
theorem CapAt.s5 {x : Nat} {W : World} {b l c p t : Int} {v : Bool} (h : CapAt x W b l c p t v) (v' : Bool) : CapAt x (W.setCell ⟨x, 5, none⟩ (.bool v')) b l c p t v' := by
  obtain ⟨h0, h1, h2, h3, h4, h5, h6, h7⟩ := h
  exact ⟨by simp [World.setCell]; exact h0, (World.cell?_setCell_other _ _ _ _ (by simp)).trans h1, (World.cell?_setCell_other _ _ _ _ (by simp)).trans h2, (World.cell?_setCell_other _ _ _ _ (by simp)).trans h3, (World.cell?_setCell_other _ _ _ _ (by simp)).trans h4, (World.cell?_setCell_other _ _ _ _ (by simp)).trans h5, (World.cell?_setCell_same _ _ _ h6), fun o ho => by simp [h7 o ho]⟩
theorem CapAt.zero {x : Nat} {W : World} {b l c p t : Int} {v : Bool} (h : CapAt x W b l c p t v) : CapAt x ((((((W.setCell ⟨x, 0, none⟩ (.int .i64 0)).setCell ⟨x, 1, none⟩ (.int .i64 0)).setCell ⟨x, 2, none⟩ (.int .i64 0)).setCell ⟨x, 3, none⟩ (.int .i64 0)).setCell ⟨x, 4, none⟩ (.int .i64 0)).setCell ⟨x, 5, none⟩ (.bool false)) 0 0 0 0 0 false :=
  (((((h.s0 0).s1 0).s2 0).s3 0).s4 0).s5 false


theorem ok_base {b l c p t : Int} {v : Bool} (h : (v && capOkB b l c p t) = true) : v = true ∧ (0 ≤ b ∧ b < 262144 ∧ 1 ≤ l ∧ l ≤ 262144 - b) ∧ (b - 1048576 ≤ c ∧ c ≤ b + 1048576) ∧ (0 ≤ p ∧ p ≤ 31) ∧ (0 ≤ t ∧ t ≤ 15) := by
  simp only [capOkB, pmayB, Bool.and_eq_true, mayB_iff, decide_eq_true_eq] at h
  exact ⟨h.1, h.2.1, h.2.2.1, h.2.2.2.1, h.2.2.2.2⟩
end Go.Proofs.YtljjcomedjdpaaaDoor

