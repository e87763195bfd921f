/- Facts for the walk of ChunkHeads. -/
import Derived.Test.YtgidnmjeifgciaaDoorChW
namespace Go.Proofs.YtgidnmjeifgciaaDoor
set_option maxRecDepth 100000
open Go.RowKit Go.ChangeMaps Go.MapKept
set_option linter.unusedVariables false
set_option linter.unusedSimpArgs false

def s3 : MS := { newS 4 with pg := onF (newS 4).pg 0 3, peak := max (newS 4).peak ((cntF (newS 4).pg 1024 : Nat) + 3) }
def s3t : MS := { s3 with f := setF s3.f (grF 0) (grN 0 768) 9 }
theorem s3_pg (y : Nat) : s3.pg y = decide (y < 3) := by
  show (false || decide ((0 : Int) ≤ y ∧ (y : Int) < 0 + 3)) = _
  rw [Bool.false_or, decide_eq_decide]; omega
theorem s3t_pg (y : Nat) : s3t.pg y = decide (y < 3) := s3_pg y
theorem s3_open : openB s3.pg 0 768 = true := by decide +kernel
theorem pg3_open {pg : Nat → Bool} (h : ∀ y, pg y = decide (y < 3)) {b n : Int} (h0 : 0 ≤ b) (h1 : 1 ≤ n) (h2 : b + n ≤ 768) : openB pg b n = true := by
  unfold openB
  rw [mayB_iff.2 (by omega), Bool.true_and, wholeF_iff]
  exact fun y _ hy => by rw [h]; exact decide_eq_true (by omega)
theorem pg3_shut {pg : Nat → Bool} (h : ∀ y, pg y = decide (y < 3)) {b n : Int} (h0 : 768 ≤ b) (h1 : 1 ≤ n) (h2 : b + n ≤ 1024) : openB pg b n = false := by
  unfold openB
  cases hw : wholeF pg (b / 256).toNat ((b + n - 1) / 256 - b / 256 + 1).toNat with
  | false => rw [Bool.and_false]
  | true =>
    have := wholeF_iff.1 hw (b / 256).toNat (Nat.le_refl _) (by omega)
    rw [h] at this
    have := of_decide_eq_true this
    omega
theorem pg3_ref {pg : Nat → Bool} (h : ∀ y, pg y = decide (y < 3)) {b : Nat} (h0 : 768 ≤ b) (h2 : b ≤ 1008) : refE pg (b : Int) 16 = 5 := by
  unfold refE
  rw [mayB_iff.2 (by omega), if_pos rfl, pg3_shut h (by omega) (by omega) (by omega)]
  rfl
theorem s3t_tag (f : Nat → Nat) (x : Int) (g v : Nat) (hx0 : 0 ≤ x) (hx : x < 768) (hg : (x / 16).toNat = g) (hv : f g = v) (σ : MS) (hp : ∀ y, σ.pg y = decide (y < 3)) (hf : σ.f = f) : tagI σ x = (v : Int) := by
  unfold tagI
  rw [pg3_open hp hx0 (by decide) (by omega), if_pos rfl, hf, hg, hv]
theorem s3t_tag_no (x : Int) (hx0 : 768 ≤ x) (hx : x < 1024) (σ : MS) (hp : ∀ y, σ.pg y = decide (y < 3)) : tagI σ x = -1 := by
  unfold tagI
  rw [pg3_shut hp hx0 (by decide) (by omega), if_neg (by decide)]
theorem readOk_zero (key at_ : Int) : readOk key at_ (fun _ => 0) = false := by
  have h : ∀ n e : Int, headOkB 0 0 0 n e = false := fun n e => by unfold headOkB; rw [decide_eq_false (by decide), Bool.false_and]
  unfold readOk
  show (_ && (headOkB 0 0 0 _ _ && _)) = false
  rw [h, Bool.false_and, Bool.and_false]
theorem thereC_no {a : Int} (h : ¬ (16 ≤ a ∧ a % 16 = 0)) : thereC a = false := by
  unfold thereC
  by_cases h1 : 16 ≤ a
  · rw [decide_eq_true h1, Bool.true_and, beq_eq_false_iff_ne]
    exact fun e => h ⟨h1, e⟩
  · rw [decide_eq_false h1, Bool.false_and]
/-- What a header at b + 16 is read as. -/
def HdIs (key : Int) (σ : MS) (b : Nat) : Prop := ∃ (F : Nat → Nat) (S C T N E : Nat), (∀ i, i < 16 → σ.c (b + i) = F i) ∧ (∀ i, F i < 256) ∧ readOk key ((b : Int) + 16) F = true ∧ F 1 = S ∧ F 2 = C ∧ F 3 = T ∧ get3 F 4 = N ∧ get3 F 7 = E
def GetP (P Q : Int) (W : World) (e : Ending) (w' : World) : Prop := ∃ A B C D E g : Int, e = .returned (.tuple #[.agg #[.int .i64 A, .int .i64 B, .int .i64 C, .int .i64 D, .int .i64 E], .int .i64 g]) ∧ (Q ≠ P → 16 ≤ Q → Q < 784 → g = 11) ∧ Below W.heap.size W w'
section
variable {B : Nat} {col : Nat → Nat} {M : Nat} {W : World} {σ : MS}
theorem getq (key P Q : Int) (hk0 : 0 ≤ key) (hk1 : key < 18446744073709551616) (q0 : 0 ≤ Q) (hq : Q % 16 = 0) (hq2 : Q < 1024) (h : MEM B col M W σ) (hpg : ∀ y, σ.pg y = decide (y < 3))
    (hF : ∀ b : Nat, b % 16 = 0 → b < 768 → ((b : Int) + 16 ≠ P ∧ ∀ i, i < 16 → σ.c (b + i) = 0) ∨ ((b : Int) + 16 = P ∧ HdIs key σ b)) :
    Calls Tryd.prog 46 #[.agg #[.pointer (some ⟨M, 0, none⟩), .int .u64 key], .int .i64 Q] W (GetP P Q W) := by
  by_cases h0 : Q < 16
  · refine (chget_in key Q (thereC_no (by omega))).mono ?_
    rintro e w' ⟨rfl, hb⟩
    exact ⟨0, 0, 0, 0, 0, 1, rfl, fun _ _ _ => by omega, hb⟩
  · obtain ⟨b, rfl⟩ : ∃ b : Nat, Q = (b : Int) + 16 := ⟨(Q - 16).toNat, by omega⟩
    have hb16 : b % 16 = 0 := by omega
    by_cases h7 : b < 768
    · rcases hF b hb16 h7 with ⟨hn, hz⟩ | ⟨he, F, S, C, T, N, E, k1, k2, k3⟩
      · refine (chget_bad key b hb16 (by omega) h (fun _ => 0) (pg3_open hpg (by omega) (by decide) (by omega)) hz (fun _ => by decide) hk0 hk1 (readOk_zero _ _)).mono ?_
        rintro e w' ⟨rfl, hb⟩
        exact ⟨0, 0, 0, 0, 0, 11, rfl, fun _ _ _ => rfl, hb⟩
      · refine (chget_yes key b hb16 (by omega) h F (pg3_open hpg (by omega) (by decide) (by omega)) k1 k2 hk0 hk1 S C T N E k3).mono ?_
        rintro e w' ⟨rfl, hb⟩
        exact ⟨S, C, T, N, E, 0, rfl, fun hne _ _ => absurd he hne, hb⟩
    · refine (chget_no key b hb16 (by omega) h 5 (pg3_ref hpg (by omega) (by omega)) (by decide)).mono ?_
      rintro e w' ⟨rfl, hb⟩
      exact ⟨0, 0, 0, 0, 0, 5, rfl, fun _ _ _ => by omega, hb⟩
end
theorem put_pg (a : Nat) (d : Nat → Nat) (y : Nat) : (putS s3t a d).pg y = decide (y < 3) := s3_pg y
theorem put_hd (key : Int) (a S C T N E : Nat) (hok : headOkB S C T N E = true) (hs : S < 256) (hc : C < 256) (ht : T < 256) (hn : N < 16777216) (he : E < 16777216) : HdIs key (putS s3t a (headF key ((a : Int) + 16) S C T N E)) a := by
  refine ⟨headF key ((a : Int) + 16) S C T N E, S, C, T, N, E, fun i hi => ?_, headF_lt key _ N E hs hc ht, readOk_F key ((a : Int) + 16) S C T N E hok hn he⟩
  show (if a ≤ a + i ∧ a + i < a + 16 then headF key ((a : Int) + 16) S C T N E (a + i - a) else _) = _
  rw [if_pos (by omega), Nat.add_sub_cancel_left]
theorem put_far (key : Int) (a b : Nat) (d : Nat → Nat) (ha : a % 16 = 0) (hb : b % 16 = 0) (h : b ≠ a) : ∀ i, i < 16 → (putS s3t a d).c (b + i) = 0 := fun i hi => by
  show (if a ≤ b + i ∧ b + i < a + 16 then d (b + i - a) else (0 : Nat)) = 0
  rw [if_neg (by omega)]
theorem put_tag0 (a : Nat) (d : Nat → Nat) (ha : a % 16 = 0) (h : a < 768) : tagI (putS s3t a d) (a : Int) = ((0 : Nat) : Int) := by
  refine s3t_tag _ _ (a / 16) 0 (by omega) (by omega) (by omega) ?_ _ s3_pg rfl
  show (if grF (a : Int) ≤ a / 16 ∧ a / 16 < grF (a : Int) + grN (a : Int) 16 then 0 else s3t.f (a / 16)) = 0
  rw [if_pos (by unfold grF grN; omega)]
theorem put_tag9 (a : Nat) (d : Nat → Nat) (ha : a % 16 = 0) (h : a + 16 < 768) : tagI (putS s3t a d) ((a : Int) + 16) = ((9 : Nat) : Int) := by
  refine s3t_tag _ _ (a / 16 + 1) 9 (by omega) (by omega) (by omega) ?_ _ s3_pg rfl
  show (if grF (a : Int) ≤ a / 16 + 1 ∧ a / 16 + 1 < grF (a : Int) + grN (a : Int) 16 then 0 else (if grF 0 ≤ a / 16 + 1 ∧ a / 16 + 1 < grF 0 + grN 0 768 then 9 else s3.f (a / 16 + 1))) = 9
  rw [if_neg (by unfold grF grN; omega), if_pos (by unfold grF grN; omega)]
end Go.Proofs.YtgidnmjeifgciaaDoor
