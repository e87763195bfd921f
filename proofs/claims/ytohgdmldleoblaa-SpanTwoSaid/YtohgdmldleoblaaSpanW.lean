/- The walk of SpanBytes. -/
import Derived.Test.YtohgdmldleoblaaSpanB
namespace Go.Proofs.Ytohgdmldleoblaa
open Go.RowKit
set_option linter.unusedVariables false

theorem lmay_any (b l : Int) (w : World) :
    Calls Try.prog 6 #[.agg #[.int .i64 b, .int .i64 l]] w fun e w' => e = .returned (.bool (mayB b l)) ∧ Below w.heap.size w w' := by
  go_enter Try.func6, Try.ntmps6
  go_wp2
  all_goals
    go_ret
    exact ⟨ret_bool (by rw [Bool.eq_iff_iff]; simp [mayB] <;> omega), (Below.refl _ _).alloc (Nat.le_refl _) _⟩
theorem lmay_is (x : Bool) (b l : Int) (w : World) (h : mayB b l = x) :
    Calls Try.prog 6 #[.agg #[.int .i64 b, .int .i64 l]] w fun e w' => e = .returned (.bool x) ∧ Below w.heap.size w w' := by
  subst h; exact lmay_any b l w
theorem has_is (x : Bool) (b l at_ : Int) (w : World) (h : hasB b l at_ = x) :
    Calls Try.prog 10 #[.agg #[.int .i64 b, .int .i64 l], .int .i64 at_] w fun e w' => e = .returned (.bool x) ∧ Below w.heap.size w w' := by
  subst h; exact has_any b l at_ w
theorem inside_is (x : Bool) (b l at_ n : Int) (w : World) (h : insideB b l at_ n = x) :
    Calls Try.prog 11 #[.agg #[.int .i64 b, .int .i64 l], .int .i64 at_, .int .i64 n] w fun e w' => e = .returned (.bool x) ∧ Below w.heap.size w w' := by
  subst h; exact inside_any b l at_ n w
theorem endv_is (x : Int) (b l : Int) (w : World) (h : endI b l = x) :
    Calls Try.prog 9 #[.agg #[.int .i64 b, .int .i64 l]] w fun e w' => e = .returned (.int .i64 x) ∧ Below w.heap.size w w' := by
  subst h; exact end_any b l w

def spF (b l s : Int) : Int := if mayB b l = true then downI b s / s else 0
def spN (b l s : Int) : Int := if mayB b l = true then partsI (b + l - downI b s) s else 0

theorem sparts_no (b l s : Int) (w : World) (h : mayB b l = false) :
    Calls Try.prog 18 #[.agg #[.int .i64 b, .int .i64 l], .int .i64 s] w fun e w' => e = .returned (.tuple #[.int .i64 0, .int .i64 0]) ∧ Below w.heap.size w w' := by
  have H := Lib.hid h; clear h
  go_enter Try.func18, Try.ntmps18
  go_wp2_with (go_at_call 8; refine (may_is _ _ _ _ H.out).mono ?_; rintro e w1 ⟨rfl, hb⟩; obtain ⟨hc, hf⟩ := bcell hb)
  go_ret2
  exact ⟨rfl, ((Below.refl _ _).alloc (Nat.le_refl _) _).trans (hb.mono (by simp))⟩

theorem sparts_yes (b l s : Int) (w : World) (h : mayB b l = true) (hs : 1 ≤ s) (hs2 : s ≤ 1024) :
    Calls Try.prog 18 #[.agg #[.int .i64 b, .int .i64 l], .int .i64 s] w fun e w' => e = .returned (.tuple #[.int .i64 (downI b s / s), .int .i64 (partsI (b + l - downI b s) s)]) ∧ Below w.heap.size w w' := by
  have H := Lib.hid h
  obtain ⟨h1, h2, h3, h4⟩ := mayB_iff.1 h
  clear h
  have m0 := Int.emod_nonneg b (b := s) (by omega)
  have m1 := Int.emod_lt_of_pos b (b := s) (by omega)
  have m2 := Int.mul_ediv_add_emod b s
  have hd0 : 0 ≤ downI b s := by
    rw [downI, if_neg (by omega)]
    have : 0 ≤ s * (b / s) := Int.mul_nonneg (by omega) (Int.ediv_nonneg h1 (by omega))
    omega
  have hd1 : downI b s ≤ b := by
    rw [downI, if_neg (by omega)]; omega
  clear m0 m1 m2
  go_enter Try.func18, Try.ntmps18
  go_wp2_with (first | (go_at_call 8; refine (may_is _ _ _ _ H.out).mono ?_; rintro e w1 ⟨rfl, hb⟩; obtain ⟨hc, hf⟩ := bcell hb; have hz := hb.size; simp only [World.size_alloc] at hz) | (go_at_call 19; refine (down_any _ _ _ (by omega) (by omega)).mono ?_; rintro e w' ⟨rfl, rfl⟩))
  have c0 : w1.cell? ⟨w.heap.size, 0, none⟩ = some (.int .i64 b) := by rw [hc _ _ (by simp)]; go_simp
  have c1 : w1.cell? ⟨w.heap.size, 1, none⟩ = some (.int .i64 l) := by rw [hc _ _ (by simp)]; go_simp
  have g1 : IntKind.i64.wrap (b + l - downI b s) = b + l - downI b s := IntWalk.i64_in _ (by omega)
  have g2 : ¬ s = 0 := by omega
  have g3 : (downI b s).tdiv s = downI b s / s := Int.tdiv_eq_ediv_of_nonneg hd0
  have g5 : 0 ≤ downI b s / s := Int.ediv_nonneg hd0 (by omega)
  have g6 : downI b s / s ≤ downI b s := Int.ediv_le_self _ hd0
  have g4 : IntKind.i64.wrap (downI b s / s) = downI b s / s := IntWalk.i64_in _ (by omega)
  go_region_held3 (fun w' => w'.cell? ⟨w.heap.size, 0, none⟩ = some (.int .i64 b) ∧ w'.cell? ⟨w.heap.size, 1, none⟩ = some (.int .i64 l) ∧ Below w.heap.size w w' ∧ w.heap.size + 1 ≤ w'.heap.size)
    (first
      | (go_split_ands
         refine ⟨?_, ?_, ?_, ?_⟩
         · (rw [hb2.cell (by first | omega | (simp <;> omega))]; assumption)
         · (rw [hb2.cell (by first | omega | (simp <;> omega))]; assumption)
         · exact Below.trans (by assumption) (hb2.mono (by first | omega | (simp <;> omega)))
         · (have := hb2.size; omega))
      | (go_split_ands; refine ⟨?_, ?_, ?_, ?_⟩ <;> first | assumption | omega)
      | (refine ⟨?_, ?_, ?_, ?_⟩ <;> first | exact (((Below.refl _ _).alloc (Nat.le_refl _) _).trans (hb.mono (by simp))).drew | (go_keep; done)))
    (first
      | (go_at_call 9; refine (end_is _ _ _ H.out).mono ?_; rintro e w2 ⟨rfl, hb2⟩)
      | (go_at_call 20; refine (parts_any _ _ _ (by omega) (by omega)).mono ?_; rintro e w' ⟨rfl, rfl⟩))
  go_wp2
  go_outline
  go_ret2
  go_split_ands
  exact ⟨rfl, by assumption⟩
end Go.Proofs.Ytohgdmldleoblaa
