/- Facts for the walk of HoldPlays: a memory, and the document's, with capabilities that are kept. -/
import Derived.Test.YtgidnmjeifgciaaDoorMpE
import Derived.Test.YtgidnmjeifgciaaDoorH14a
import Derived.Test.YtgidnmjeifgciaaDoorHpS
namespace Go.Proofs.YtgidnmjeifgciaaDoor
set_option maxRecDepth 100000
open Go.RowKit Go.ChangeMaps Go.MapKept
set_option linter.unusedVariables false
set_option linter.unusedSimpArgs false

/-- A capability's cells. -/
def capv (L1 L2 : Nat) (L3 : Int) (L4 L5 : Nat) (i : Nat) : Value :=
  if i % 6 = 0 then .int .i64 L1 else if i % 6 = 1 then .int .i64 L2 else if i % 6 = 2 then .int .i64 L3 else if i % 6 = 3 then .int .i64 L4 else if i % 6 = 4 then .int .i64 L5 else .bool true
theorem capv_one (L1 L2 : Nat) (L3 : Int) (L4 L5 i : Nat) : (capv L1 L2 L3 L4 L5 i).oneCell' = true := by
  unfold capv
  repeat' split
  all_goals rfl
abbrev capC (L1 L2 : Nat) (L3 : Int) (L4 L5 : Nat) : List Value := [.int .i64 L1, .int .i64 L2, .int .i64 L3, .int .i64 L4, .int .i64 L5, .bool true]
theorem capC_at (L1 L2 : Nat) (L3 : Int) (L4 L5 i q : Nat) (hq : q < 6) : (capC L1 L2 L3 L4 L5)[q]? = some (capv L1 L2 L3 L4 L5 (6 * i + q)) := by
  have h6 : q = 0 ∨ q = 1 ∨ q = 2 ∨ q = 3 ∨ q = 4 ∨ q = 5 := by omega
  unfold capv
  rw [show (6 * i + q) % 6 = q by omega]
  rcases h6 with rfl | rfl | rfl | rfl | rfl | rfl <;> rfl
/-- What is kept in a granule, as the document has it, and as its bytes. -/
def Kept (r : RS) (g : Nat) (kv : Nat → Nat) : Prop :=
  ∃ (L1 L2 LD L4 L5 : Nat) (L3 : Int), (∀ x, 6 * g ≤ x → x < 6 * g + 6 → r.v x = capv L1 L2 L3 L4 L5 x) ∧ capOkB L1 L2 L3 L4 L5 = true ∧ L3 - L1 + 1048576 = LD ∧ ∀ i, i < 16 → kv i = codeF L1 L2 LD L4 L5 i
/-- A memory, and the document's, are alike. -/
structure LKH (σ : MS) (r : RS) : Prop where
  same : ∀ y, y < 8 → σ.pg y = r.o y
  high : ∀ y, 8 ≤ y → σ.pg y = false
  byt : ∀ x, x < 2048 → σ.c x = r.b x
  tag : ∀ g, g < 128 → r.t g = (σ.f g : Int)
  kep : ∀ g, g < 128 → r.k g = σ.kp g
  val : ∀ g, g < 128 → σ.kp g = true → Kept r g (σ.kv g)
section
variable {σ : MS} {r : RS}
theorem LKH.alive (h : LKH σ r) (b l c p t : Int) (v : Bool) : aliveB σ b l c p t v = aliveR r b l c p t v := alive_same h.same h.high h.tag b l c p t v
theorem LKH.acc (h : LKH σ r) (b l c p t : Int) (v : Bool) (n q : Int) (hq : pmayB q = true) : accE σ b l c p t v n q = accR r b l c p t v n q := acc_same h.same h.high h.tag b l c p t v n q hq
theorem LKH.slot (h : LKH σ r) (b l c p t : Int) (v : Bool) (q : Int) (hq : pmayB q = true) : slotE σ b l c p t v q = slotR r b l c p t v q := slot_same h.same h.high h.tag b l c p t v q hq
theorem LKH.low (h : LKH σ r) {a n : Int} (ho : openB σ.pg a n = true) : 0 ≤ a ∧ 1 ≤ n ∧ a + n ≤ 2048 ∧ openR r.o a n = true := by
  have h1 := ho
  rw [open_same h.same h.high] at h1
  have h2 := h1
  rw [openR, Bool.and_eq_true, decide_eq_true_iff] at h2
  exact ⟨h2.1.1, h2.1.2.1, by omega, h1⟩
theorem LKH.write {a n : Nat} {d : Nat → Nat} (h : LKH σ r) (hn : 1 ≤ n) (han : a + n ≤ 2048) : LKH (wrS σ a n d) (wrN r a d n) := by
  have eg : ∀ g, (grF (a : Int) ≤ g ∧ g < grF (a : Int) + grN a n) ↔ Tch a n g := fun g => by unfold grF grN Tch; omega
  refine ⟨h.same, h.high, fun x hx => ?_, h.tag, fun g hg => ?_, fun g hg hk => ?_⟩
  · show (if a ≤ x ∧ x < a + n then d (x - a) else σ.c x) = if a ≤ x ∧ x < a + n then d (x - a) else r.b x
    split
    · rfl
    · exact h.byt x hx
  · show (if Tch a n g then false else r.k g) = (σ.kp g && !decide (grF (a : Int) ≤ g ∧ g < grF (a : Int) + grN a n))
    by_cases e : Tch a n g
    · rw [if_pos e, decide_eq_true ((eg g).2 e), Bool.not_true, Bool.and_false]
    · rw [if_neg e, decide_eq_false (fun q => e ((eg g).1 q)), Bool.not_false, Bool.and_true]; exact h.kep g hg
  · have hk2 : (σ.kp g && !decide (grF (a : Int) ≤ g ∧ g < grF (a : Int) + grN a n)) = true := hk
    rw [Bool.and_eq_true, Bool.not_eq_true', decide_eq_false_iff_not, eg] at hk2
    obtain ⟨L1, L2, LD, L4, L5, L3, k1, k2⟩ := h.val g hg hk2.1
    refine ⟨L1, L2, LD, L4, L5, L3, fun x h1 h2 => ?_, k2⟩
    show (if Tch a n (x / 6) then zv x else r.v x) = _
    rw [show x / 6 = g by omega, if_neg hk2.2]
    exact k1 x h1 h2
theorem LKH.tags {a n : Int} {t F E : Nat} (h : LKH σ r) (hF : a / 16 = F) (hE : (a + n - 1) / 16 = E) (h0 : 0 ≤ a) (hn : 1 ≤ n) : LKH { σ with f := setF σ.f (grF a) (grN a n) t } (tagN r F (E - F + 1) t) := by
  have eg : grF a = F ∧ grN a n = E - F + 1 := by unfold grF grN; omega
  refine ⟨h.same, h.high, h.byt, fun g hg => ?_, h.kep, h.val⟩
  show (if F ≤ g ∧ g < F + (E - F + 1) then (t : Int) else r.t g) = ((if grF a ≤ g ∧ g < grF a + grN a n then t else σ.f g : Nat) : Int)
  rw [eg.1, eg.2]
  by_cases e : F ≤ g ∧ g < F + (E - F + 1)
  · rw [if_pos e, if_pos e]
  · rw [if_neg e, if_neg e]; exact h.tag g hg
theorem LKH.keep {a g L1 L2 LD L4 L5 : Nat} {L3 : Int} (h : LKH σ r) (hg : a = 16 * g) (hg8 : g < 128) (hok : capOkB L1 L2 L3 L4 L5 = true) (hD : L3 - L1 + 1048576 = LD) :
    LKH (keepS σ a (codeF L1 L2 LD L4 L5)) (setV (setK (wrN r a (fun _ => 0) 16) g true) g (capv L1 L2 L3 L4 L5)) := by
  have hw := h.write (a := a) (n := 16) (d := fun _ => 0) (by decide) (by omega)
  have eg : a / 16 = g := by omega
  have e1 : grF (a : Int) = g := by unfold grF; omega
  have e2 : grN (a : Int) (16 : Nat) = 1 := by unfold grN; omega
  have hoff : ∀ y, (wrS σ a 16 (fun _ => 0)).kp y = (σ.kp y && !decide (g ≤ y ∧ y < g + 1)) := fun y => by
    show (σ.kp y && !decide (grF (a : Int) ≤ y ∧ y < grF (a : Int) + grN (a : Int) (16 : Nat))) = _
    rw [e1, e2]
  have hon : ∀ y, (keepS σ a (codeF L1 L2 LD L4 L5)).kp y = (σ.kp y || decide (g = y)) := fun y => by
    rw [← eg]; rfl
  have hkp : ∀ y, y ≠ g → (keepS σ a (codeF L1 L2 LD L4 L5)).kp y = (wrS σ a 16 (fun _ => 0)).kp y := fun y hy => by
    rw [hon, hoff, decide_eq_false (fun q => hy q.symm), decide_eq_false (by omega), Bool.or_false, Bool.not_false, Bool.and_true]
  refine ⟨h.same, h.high, hw.byt, h.tag, fun y hy => ?_, fun y hy hk2 => ?_⟩
  · show (if y = g then true else (wrN r a (fun _ => 0) 16).k y) = _
    by_cases e : y = g
    · rw [if_pos e, hon, decide_eq_true e.symm, Bool.or_true]
    · rw [if_neg e, hkp y e]; exact hw.kep y hy
  · show Kept _ y (if y = a / 16 then codeF L1 L2 LD L4 L5 else σ.kv y)
    rw [eg]
    by_cases e : y = g
    · subst e
      rw [if_pos rfl]
      refine ⟨L1, L2, LD, L4, L5, L3, fun x h1 h2 => ?_, hok, hD, fun _ _ => rfl⟩
      show (if 6 * y ≤ x ∧ x < 6 * y + 6 then capv L1 L2 L3 L4 L5 x else _) = _
      rw [if_pos ⟨h1, h2⟩]
    · rw [if_neg e]
      rw [hkp y e] at hk2
      obtain ⟨M1, M2, MD, M4, M5, M3, k1, k2⟩ := hw.val y hy hk2
      refine ⟨M1, M2, MD, M4, M5, M3, fun x h1 h2 => ?_, k2⟩
      show (if 6 * g ≤ x ∧ x < 6 * g + 6 then capv L1 L2 L3 L4 L5 x else (wrN r a (fun _ => 0) 16).v x) = _
      rw [if_neg (by omega)]
      exact k1 x h1 h2
/-- The document's memory: below page x all pages are open, and nothing else is there. -/
structure NewR (r : RS) (x : Nat) : Prop where
  o : ∀ y, y < 8 → r.o y = decide (y < x)
  b : ∀ i, r.b i = 0
  t : ∀ i, r.t i = 0
  k : ∀ i, r.k i = false
theorem NewR.start : NewR zeroR 0 := ⟨fun y _ => by rw [decide_eq_false (by omega)]; rfl, fun _ => rfl, fun _ => rfl, fun _ => rfl⟩
theorem NewR.next {r : RS} {x : Nat} (h : NewR r x) (hx : x < 8) : NewR (freshN r x true 256 16) (x + 1) := by
  refine ⟨fun y hy => ?_, fun i => ?_, fun i => ?_, fun i => ?_⟩
  · show (if y = x then true else r.o y) = _
    by_cases e : y = x
    · rw [if_pos e, decide_eq_true (by omega)]
    · rw [if_neg e, h.o y hy, decide_eq_decide]; omega
  · show (if 256 * x ≤ i ∧ i < 256 * x + 256 then 0 else r.b i) = 0
    rw [h.b]; split <;> rfl
  · show (if 16 * x ≤ i ∧ i < 16 * x + 16 then 0 else r.t i) = 0
    rw [h.t]; split <;> rfl
  · show (if 16 * x ≤ i ∧ i < 16 * x + 16 then false else r.k i) = false
    rw [h.k]; split <;> rfl
theorem NewR.link {r : RS} {σ : MS} (h : NewR r 4) (hp : ∀ y, σ.pg y = decide (y < 4)) (hc : ∀ x, σ.c x = 0) (hf : ∀ g, σ.f g = 0) (hk : ∀ g, σ.kp g = false) : LKH σ r :=
  ⟨fun y hy => by rw [hp, h.o y hy], fun y hy => by rw [hp, decide_eq_false (by omega)], fun x _ => by rw [hc, h.b], fun g _ => by rw [hf, h.t]; rfl, fun g _ => by rw [hk, h.k], fun g _ hk2 => by rw [hk] at hk2; cases hk2⟩
end
/-- The memory at M, the document's at A; four pages are mapped. -/
structure MH (B M A : Nat) (v0 : World) (σ : MS) (r : RS) (cl : Nat → Nat) (w : World) : Prop where
  half : MHalf B M A v0 σ r cl w
  lk : LKH σ r
  pg : ∀ y, y < 4 → σ.pg y = true
theorem MH.later {B M A : Nat} {v0 : World} {σ : MS} {r : RS} {cl : Nat → Nat} {w w' : World} (h : MH B M A v0 σ r cl w) (hb : Below w.heap.size w w') : MH B M A v0 σ r cl w' := ⟨h.half.later hb, h.lk, h.pg⟩
theorem MHalf.step {B M A : Nat} {v0 : World} {σ σ' : MS} {r : RS} {cl : Nat → Nat} {w w' : World} (h : MHalf B M A v0 σ r cl w) (hs : MStep B cl M w σ' w') : ∃ cl', MHalf B M A v0 σ' r cl' w' ∧ (∀ i, i < w.heap.size → cl' i = cl i) ∧ (∀ i, i < w.heap.size → cl i ≤ 1 → w'.heap[i]? = w.heap[i]?) ∧ w.heap.size ≤ w'.heap.size := by
  obtain ⟨cl', hm, hc, ho, hb⟩ := hs
  have hAz := h.rat.1
  exact ⟨cl', ⟨hm, by rw [hc A hAz]; exact h.ca, h.rat.keep hb.size (ho A hAz (by rw [h.ca]; decide)), h.one, h.bel.trans hb, h.ba⟩, hc, ho, hb.size⟩
end Go.Proofs.YtgidnmjeifgciaaDoor
