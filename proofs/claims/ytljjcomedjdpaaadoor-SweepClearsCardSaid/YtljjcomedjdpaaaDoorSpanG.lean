/- SpanG, SpanI in one text: a claim holds at most 60 files. -/
import Derived.Test.YtljjcomedjdpaaaDoorRows
import Derived.Test.YtljjcomedjdpaaaDoorInt
import Derived.WalkKit
import Derived.ProofKit
import Derived.OpenShut
import Derived.WalkLawsBesides
import Derived.WalkSpells
import Derived.Deep.QuietTactic
import Derived.BigQuiet
import Derived.Lib.Hide
import Derived.Deep.RegionHeld3
namespace Go.Proofs.YtljjcomedjdpaaaDoor
set_option maxRecDepth 100000
open Go.RowKit
set_option linter.unusedVariables false

def downI (n s : Int) : Int := if n < 0 ∨ s < 1 then 0 else n - n % s
def partsI (n s : Int) : Int := if n < 1 ∨ s < 1 then 0 else (n - 1) / s + 1

theorem down_any (n s : Int) (w : World) (hn : n ≤ 9223372036854775807) (hs : s ≤ 9223372036854775807) :
    Calls Tryd.prog 74 #[.int .i64 n, .int .i64 s] w fun e w' => e = .returned (.int .i64 (downI n s)) ∧ w = w' := by
  by_cases h1 : n < 0
  · go_enter Tryd.func74, Tryd.ntmps74
    go_wp2
    go_ret
    exact ⟨ret_int (by rw [downI, if_pos (Or.inl h1)]), rfl⟩
  · by_cases h2 : s < 1
    · go_enter Tryd.func74, Tryd.ntmps74
      go_wp2
      go_ret
      exact ⟨ret_int (by rw [downI, if_pos (Or.inr h2)]), rfl⟩
    · have h3 : 0 ≤ n % s := Int.emod_nonneg _ (by omega)
      have h4 : n % s < s := Int.emod_lt_of_pos _ (by omega)
      go_enter Tryd.func74, Tryd.ntmps74
      go_wp2
      go_ret
      exact ⟨ret_int (by rw [downI, if_neg (by omega)]), rfl⟩

theorem parts_any (n s : Int) (w : World) (hn : n ≤ 9223372036854775807) (hs : s ≤ 9223372036854775807) :
    Calls Tryd.prog 75 #[.int .i64 n, .int .i64 s] w fun e w' => e = .returned (.int .i64 (partsI n s)) ∧ w = w' := by
  by_cases h1 : n < 1
  · go_enter Tryd.func75, Tryd.ntmps75
    go_wp2
    go_ret
    exact ⟨ret_int (by rw [partsI, if_pos (Or.inl h1)]), rfl⟩
  · by_cases h2 : s < 1
    · go_enter Tryd.func75, Tryd.ntmps75
      go_wp2
      go_ret
      exact ⟨ret_int (by rw [partsI, if_pos (Or.inr h2)]), rfl⟩
    · have h3 : 0 ≤ (n - 1) / s := Int.ediv_nonneg (by omega) (by omega)
      have h4 : (n - 1) / s ≤ n - 1 := Int.ediv_le_self _ (by omega)
      go_enter Tryd.func75, Tryd.ntmps75
      go_wp2
      go_ret
      exact ⟨ret_int (by rw [partsI, if_neg (by omega)]), rfl⟩

def mayB (b l : Int) : Bool := decide (0 ≤ b ∧ b < 262144 ∧ 1 ≤ l ∧ l ≤ 262144 - b)
def endI (b l : Int) : Int := if mayB b l = true then b + l else 0
theorem mayB_iff {b l : Int} : mayB b l = true ↔ 0 ≤ b ∧ b < 262144 ∧ 1 ≤ l ∧ l ≤ 262144 - b := by simp [mayB]
theorem mayB_false {b l : Int} : mayB b l = false ↔ ¬ (0 ≤ b ∧ b < 262144 ∧ 1 ≤ l ∧ l ≤ 262144 - b) := by simp [mayB]

theorem may_yes (b l : Int) (w : World) (h : mayB b l = true) :
    Calls Tryd.prog 57 #[.agg #[.int .i64 b, .int .i64 l]] w fun e w' => e = .returned (.bool true) ∧ Below w.heap.size w w' := by
  obtain ⟨h1, h2, h3, h4⟩ := mayB_iff.1 h
  clear h
  go_enter Tryd.func57, Tryd.ntmps57
  go_wp2
  go_ret
  exact ⟨ret_bool (by simp <;> omega), (Below.refl _ _).alloc (Nat.le_refl _) _⟩

theorem may_any (b l : Int) (w : World) :
    Calls Tryd.prog 57 #[.agg #[.int .i64 b, .int .i64 l]] w fun e w' => e = .returned (.bool (mayB b l)) ∧ Below w.heap.size w w' := by
  go_enter Tryd.func57, Tryd.ntmps57
  go_wp2
  all_goals
    go_ret
    exact ⟨ret_bool (by rw [Bool.eq_iff_iff]; simp [mayB] <;> omega), (Below.refl _ _).alloc (Nat.le_refl _) _⟩

theorem end_any (b l : Int) (w : World) :
    Calls Tryd.prog 76 #[.agg #[.int .i64 b, .int .i64 l]] w fun e w' => e = .returned (.int .i64 (endI b l)) ∧ Below w.heap.size w w' := by
  cases h : mayB b l
  · have H := Lib.hid h; clear h
    go_enter Tryd.func76, Tryd.ntmps76
    go_wp2_with fail
    refine (may_any _ _ _).mono ?_
    rintro e w1 ⟨rfl, hb⟩
    rw [H.out]
    go_wp2
    go_ret
    exact ⟨ret_int (by simp [endI, H.out]), ((Below.refl _ _).alloc (Nat.le_refl _) _).trans (hb.mono (by simp))⟩
  · have H := Lib.hid h
    obtain ⟨h1, h2, h3, h4⟩ := mayB_iff.1 h
    clear h
    go_enter Tryd.func76, Tryd.ntmps76
    go_wp2_with fail
    refine (may_any _ _ _).mono ?_
    rintro e w1 ⟨rfl, hb⟩
    rw [H.out]
    obtain ⟨hc, hf⟩ := bcell hb
    go_wp2
    go_ret
    exact ⟨ret_int (by simp [endI, H.out]), ((Below.refl _ _).alloc (Nat.le_refl _) _).trans (hb.mono (by simp))⟩

theorem endI_yes {b l : Int} (h : mayB b l = true) : endI b l = b + l := by simp [endI, h]
theorem endI_no {b l : Int} (h : mayB b l = false) : endI b l = 0 := by simp [endI, h]

theorem may_is (x : Bool) (b l : Int) (w : World) (h : mayB b l = x) :
    Calls Tryd.prog 57 #[.agg #[.int .i64 b, .int .i64 l]] w fun e w' => e = .returned (.bool x) ∧ Below w.heap.size w w' := by
  subst h; exact may_any b l w
theorem end_is (b l : Int) (w : World) (h : mayB b l = true) :
    Calls Tryd.prog 76 #[.agg #[.int .i64 b, .int .i64 l]] w fun e w' => e = .returned (.int .i64 (b + l)) ∧ Below w.heap.size w w' := by
  have := end_any b l w; rw [endI_yes h] at this; exact this

def spF (b l s : Int) : Int := if mayB b l = true then downI b s / s else 0
def spN (b l s : Int) : Int := if mayB b l = true then partsI (b + l - downI b s) s else 0

theorem sparts_no (b l s : Int) (w : World) (h : mayB b l = false) :
    Calls Tryd.prog 55 #[.agg #[.int .i64 b, .int .i64 l], .int .i64 s] w fun e w' => e = .returned (.tuple #[.int .i64 0, .int .i64 0]) ∧ Below w.heap.size w w' := by
  have H := Lib.hid h; clear h
  go_enter Tryd.func55, Tryd.ntmps55
  go_wp2_with (go_at_call 57; refine (may_is _ _ _ _ H.out).mono ?_; rintro e w1 ⟨rfl, hb⟩; obtain ⟨hc, hf⟩ := bcell hb)
  go_ret2
  exact ⟨rfl, ((Below.refl _ _).alloc (Nat.le_refl _) _).trans (hb.mono (by simp))⟩

theorem sparts_yes (b l s : Int) (w : World) (h : mayB b l = true) (hs : 1 ≤ s) (hs2 : s ≤ 1024) :
    Calls Tryd.prog 55 #[.agg #[.int .i64 b, .int .i64 l], .int .i64 s] w fun e w' => e = .returned (.tuple #[.int .i64 (downI b s / s), .int .i64 (partsI (b + l - downI b s) s)]) ∧ Below w.heap.size w w' := by
  have H := Lib.hid h
  obtain ⟨h1, h2, h3, h4⟩ := mayB_iff.1 h
  clear h
  have m0 := Int.emod_nonneg b (b := s) (by omega)
  have m1 := Int.emod_lt_of_pos b (b := s) (by omega)
  have m2 := Int.mul_ediv_add_emod b s
  have hd0 : 0 ≤ downI b s := by
    rw [downI, if_neg (by omega)]
    have : 0 ≤ s * (b / s) := Int.mul_nonneg (by omega) (Int.ediv_nonneg h1 (by omega))
    omega
  have hd1 : downI b s ≤ b := by
    rw [downI, if_neg (by omega)]; omega
  clear m0 m1 m2
  go_enter Tryd.func55, Tryd.ntmps55
  go_wp2_with (first | (go_at_call 57; refine (may_is _ _ _ _ H.out).mono ?_; rintro e w1 ⟨rfl, hb⟩; obtain ⟨hc, hf⟩ := bcell hb; have hz := hb.size; simp only [World.size_alloc] at hz) | (go_at_call 74; refine (down_any _ _ _ (by omega) (by omega)).mono ?_; rintro e w' ⟨rfl, rfl⟩))
  have c0 : w1.cell? ⟨w.heap.size, 0, none⟩ = some (.int .i64 b) := by rw [hc _ _ (by simp)]; go_simp
  have c1 : w1.cell? ⟨w.heap.size, 1, none⟩ = some (.int .i64 l) := by rw [hc _ _ (by simp)]; go_simp
  have g1 : IntKind.i64.wrap (b + l - downI b s) = b + l - downI b s := IntWalk.i64_in _ (by omega)
  have g2 : ¬ s = 0 := by omega
  have g3 : (downI b s).tdiv s = downI b s / s := Int.tdiv_eq_ediv_of_nonneg hd0
  have g5 : 0 ≤ downI b s / s := Int.ediv_nonneg hd0 (by omega)
  have g6 : downI b s / s ≤ downI b s := Int.ediv_le_self _ hd0
  have g4 : IntKind.i64.wrap (downI b s / s) = downI b s / s := IntWalk.i64_in _ (by omega)
  go_region_held3 (fun w' => w'.cell? ⟨w.heap.size, 0, none⟩ = some (.int .i64 b) ∧ w'.cell? ⟨w.heap.size, 1, none⟩ = some (.int .i64 l) ∧ Below w.heap.size w w' ∧ w.heap.size + 1 ≤ w'.heap.size)
    (first
      | (go_split_ands
         refine ⟨?_, ?_, ?_, ?_⟩
         · (rw [hb2.cell (by first | omega | (simp <;> omega))]; assumption)
         · (rw [hb2.cell (by first | omega | (simp <;> omega))]; assumption)
         · exact Below.trans (by assumption) (hb2.mono (by first | omega | (simp <;> omega)))
         · (have := hb2.size; omega))
      | (go_split_ands; refine ⟨?_, ?_, ?_, ?_⟩ <;> first | assumption | omega)
      | (refine ⟨?_, ?_, ?_, ?_⟩ <;> first | exact (((Below.refl _ _).alloc (Nat.le_refl _) _).trans (hb.mono (by simp))).drew | (go_keep; done)))
    (first
      | (go_at_call 76; refine (end_is _ _ _ H.out).mono ?_; rintro e w2 ⟨rfl, hb2⟩)
      | (go_at_call 75; refine (parts_any _ _ _ (by omega) (by omega)).mono ?_; rintro e w' ⟨rfl, rfl⟩))
  go_wp2
  go_outline
  go_ret2
  go_split_ands
  exact ⟨rfl, by assumption⟩

theorem sparts_any (b l s : Int) (w : World) (hs : 1 ≤ s) (hs2 : s ≤ 1024) :
    Calls Tryd.prog 55 #[.agg #[.int .i64 b, .int .i64 l], .int .i64 s] w fun e w' => e = .returned (.tuple #[.int .i64 (spF b l s), .int .i64 (spN b l s)]) ∧ Below w.heap.size w w' := by
  cases h : mayB b l
  · have := sparts_no b l s w h
    simpa [spF, spN, h] using this
  · have := sparts_yes b l s w h hs hs2
    simpa [spF, spN, h] using this

theorem granules_any (b l : Int) (w : World) :
    Calls Tryd.prog 31 #[.agg #[.int .i64 b, .int .i64 l]] w fun e w' => e = .returned (.tuple #[.int .i64 (spF b l 16), .int .i64 (spN b l 16)]) ∧ Below w.heap.size w w' := by
  go_enter Tryd.func31, Tryd.ntmps31
  go_wp2_with (go_at_call 55; refine (sparts_any _ _ _ _ (by omega) (by omega)).mono ?_; rintro e w1 ⟨rfl, hb⟩)
  go_ret2
  exact ⟨rfl, ((Below.refl _ _).alloc (Nat.le_refl _) _).trans (hb.mono (by simp))⟩
end Go.Proofs.YtljjcomedjdpaaaDoor
namespace Go.Proofs.YtljjcomedjdpaaaDoor
set_option maxRecDepth 100000
open Go.RowKit
set_option linter.unusedVariables false
set_option linter.unusedSimpArgs false

def insideB (b l at_ n : Int) : Bool := mayB b l && decide (0 ≤ n ∧ n ≤ l ∧ b ≤ at_ ∧ at_ ≤ b + l - n)

end Go.Proofs.YtljjcomedjdpaaaDoor

