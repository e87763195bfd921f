/- Facts for the walk of MemTagged. -/
import Derived.Test.YtjbddhjjhjkpiaaDoorRRRMmW
import Derived.Test.YtjbddhjjhjkpiaaDoorRRRMrB
import Derived.Test.YtjbddhjjhjkpiaaDoorRRRMrC
import Derived.Test.YtjbddhjjhjkpiaaDoorRRRInts0
namespace Go.Proofs.YtjbddhjjhjkpiaaDoorRRR
set_option maxRecDepth 100000
open Go.RowKit Go.ChangeMaps Go.MapKept
set_option linter.unusedVariables false
set_option linter.unusedSimpArgs false

set_option maxRecDepth 1000000 in
theorem builtR : Tryd.prog.built 34 ((#[] : Array (Nat × Value)).toList) = some zeroR.l.toArray := by kernel_rfl
theorem MEM.ob {B : Nat} {col : Nat → Nat} {M A : Nat} {W w' : World} {σ : MS} (h : MEM B col M W σ) (ho : OB A W w') (hA : col A = 0) (hB : B ≤ A) : MEM B col M w' σ :=
  h.keep (ho.2.2 B hB h.size) (fun i hi hc => ho.2.1 i hi (fun e => hc (by rw [e]; exact hA)))
theorem cntF_high {o : Nat → Bool} {x : Nat} (h : ∀ y, x ≤ y → o y = false) (n : Nat) : cntF o n ≤ x := by
  by_cases hn : n ≤ x
  · exact Nat.le_trans (cntF_le o n) hn
  · have key : ∀ m, cntF o (x + m) = cntF o x := fun m => by
      induction m with
      | zero => rfl
      | succ m ih => rw [← Nat.add_assoc, cntF, ih, h (x + m) (by omega)]; rfl
    have := key (n - x)
    rw [show x + (n - x) = n by omega] at this
    rw [this]
    exact cntF_le o x
/-- A memory, and the document's: pages from x on are not mapped; tags are noughts. -/
structure LK1 (σ : MS) (r : RS) (x : Nat) : Prop where
  most : σ.most = 8
  same : ∀ y, y < 8 → σ.pg y = r.o y
  high : ∀ y, x ≤ y → σ.pg y = false
  f0 : ∀ g, σ.f g = 0
  t0 : ∀ g, r.t g = 0
theorem LK1.start : LK1 (newS 8) zeroR 0 := ⟨rfl, fun _ _ => rfl, fun _ _ => rfl, fun _ => rfl, fun _ => rfl⟩
theorem LK1.skip {σ : MS} {r : RS} {x : Nat} (h : LK1 σ r x) : LK1 σ r (x + 1) := ⟨h.most, h.same, fun y hy => h.high y (by omega), h.f0, h.t0⟩
theorem LK1.page {σ : MS} {r : RS} {x : Nat} {pk : Int} (h : LK1 σ r x) : LK1 { σ with pg := onF σ.pg x 1, peak := pk } (freshN r x true 256 16) (x + 1) := by
  refine ⟨h.most, fun y hy => ?_, fun y hy => ?_, h.f0, fun g => ?_⟩
  · show (σ.pg y || decide ((x : Int) ≤ y ∧ (y : Int) < x + 1)) = if y = x then true else r.o y
    rw [h.same y hy]
    by_cases e : y = x
    · rw [if_pos e, decide_eq_true (by omega), Bool.or_true]
    · rw [if_neg e, decide_eq_false (by omega), Bool.or_false]
  · show (σ.pg y || decide ((x : Int) ≤ y ∧ (y : Int) < x + 1)) = false
    rw [h.high y (by omega), decide_eq_false (by omega)]
    rfl
  · show (if 16 * x ≤ g ∧ g < 16 * x + 16 then 0 else r.t g) = 0
    rw [h.t0 g]
    split <;> rfl
/-- A memory, and the document's: the same pages, the same tags. -/
structure LK2 (σ : MS) (r : RS) : Prop where
  same : ∀ y, y < 8 → σ.pg y = r.o y
  high : ∀ y, 8 ≤ y → σ.pg y = false
  tag : ∀ g, g < 128 → r.t g = (σ.f g : Int)
theorem LK1.two {σ : MS} {r : RS} (h : LK1 σ r 8) : LK2 σ r := ⟨h.same, h.high, fun g _ => by rw [h.t0, h.f0]; rfl⟩
def setT (r : RS) (i : Nat) (v : Int) : RS := { r with t := fun g => if g = i then v else r.t g }
theorem LK2.set_ {σ : MS} {r : RS} {i v f n : Nat} (h : LK2 σ r) (hf : f = i) (hn : n = 1) : LK2 { σ with f := setF σ.f f n v } (setT r i v) := by
  subst hf hn
  refine ⟨h.same, h.high, fun g hg => ?_⟩
  show (if g = f then (v : Int) else r.t g) = ((if f ≤ g ∧ g < f + 1 then v else σ.f g : Nat) : Int)
  by_cases e : g = f
  · rw [if_pos e, if_pos (by omega)]
  · rw [if_neg e, if_neg (by omega)]; exact h.tag g hg
theorem RAt.tag {A i : Nat} {W : World} {r : RS} (h : RAt A W r) (hi : i < 128) (v : Int) : RAt A (W.setCell ⟨A, 2056 + i, none⟩ (.int .i64 v)) (setT r i v) := by
  refine h.set_ (by omega) ?_ (fun n hn hne => ?_)
  · rw [RS.ct _ hi]
    show Value.int .i64 (if i = i then v else r.t i) = _
    rw [if_pos rfl]
  · unfold RS.c
    by_cases a1 : n < 8
    · rw [if_pos a1, if_pos a1]; rfl
    · by_cases a2 : n < 2056
      · rw [if_neg a1, if_neg a1, if_pos a2, if_pos a2]; rfl
      · by_cases a3 : n < 2184
        · rw [if_neg a1, if_neg a1, if_neg a2, if_neg a2, if_pos a3, if_pos a3]
          show Value.int .i64 (if n - 2056 = i then v else r.t (n - 2056)) = _
          rw [if_neg (by omega)]
        · rw [if_neg a1, if_neg a1, if_neg a2, if_neg a2, if_neg a3, if_neg a3]; rfl
theorem setT_one {r : RS} (h : r.One) (i : Nat) (v : Int) : (setT r i v).One := h
/-- What the statement's last loop tells. -/
def allT (t : Nat → Int) (f : Nat) (v : Int) : Nat → Bool
  | 0 => true
  | n + 1 => allT t f v n && (t (f + n) == v)
theorem allT_R {σ : MS} {r : RS} (h : LK2 σ r) {f n : Nat} {v : Int} (hn : f + n ≤ 128) : allT r.t f v n = allR σ.f f v n := by
  induction n with
  | zero => rfl
  | succ n ih =>
    rw [allT, allR, ih (by omega), h.tag (f + n) (by omega)]
    congr 1
end Go.Proofs.YtjbddhjjhjkpiaaDoorRRR
