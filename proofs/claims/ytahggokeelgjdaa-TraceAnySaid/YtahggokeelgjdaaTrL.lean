/- Bytes as strings; bytes.Equal; strings.CutPrefix. -/
import Derived.Test.YtahggokeelgjdaaTrK
import Derived.Lib.BufferRead
namespace Go.Proofs.Ytahggokeelgjdaa
open Go.RowKit
set_option linter.unusedVariables false
set_option linter.unusedSimpArgs false

theorem sb_str (xs : List Nat) (h : ∀ x ∈ xs, x < 256) : sb (strOfNums (xs.map fun (x : Nat) => (x : Int))) = xs := by
  induction xs with
  | nil => rfl
  | cons x r ih =>
    have h1 := ih (fun y hy => h y (by simp [hy]))
    have h2 := h x (by simp)
    simp only [sb, strOfNums] at h1 ⊢
    simp at h1 ⊢
    exact ⟨by omega, h1⟩
theorem tl_eq (a b : ByteArray) : (a.toList == b.toList) = decide (sb a = sb b) := by
  rw [ByteArray.toList_eq, ByteArray.toList_eq, Bool.eq_iff_iff, beq_iff_eq, decide_eq_true_eq]
  constructor
  · intro h
    unfold sb
    rw [h]
  · intro h
    exact (List.map_inj_right (fun a b h => UInt8.toNat_inj.1 h)).1 h
/-- Bytes that are read, as a string. -/
theorem conv_rd (W : World) (v : Value) (xs : List Nat) (h : RD W v xs) (hx : ∀ x ∈ xs, x < 256) : ∃ s, sb s = xs ∧ (convert 23 9 v).run Try.prog W = .ok (.string s) W := by
  obtain ⟨A, c, rfl, _, rfl | ⟨b, off, rfl, _, hat⟩⟩ := h
  · cases A with
    | none => exact ⟨⟨#[]⟩, rfl, Lib.run_convert_nil_bytes W _ _ _ c Try.underlying23 Try.underlying5 Try.underlying9⟩
    | some ad =>
      refine ⟨⟨#[]⟩, rfl, ?_⟩
      rw [show ([] : List Nat).length = 0 from rfl, run_convert_bytes_string W 23 9 5 (some ad) 0 c Try.underlying23 Try.underlying5 Try.underlying9]
      simp [Conv.bytesToString, loadCells, loadCellsFrom]
      rfl
  · refine ⟨strOfNums (xs.map fun (x : Nat) => (x : Int)), sb_str xs hx, ?_⟩
    refine run_convert_bytes_arg W 23 5 Try.underlying23 Try.underlying5 b off xs.length c _ (by simp) (fun i hi => ?_) 9 Try.underlying9
    rw [hat i (.int .u8 ((xs[i] : Nat) : Int)) (by simp [u8s, hi])]
    simp [List.getD, hi]
theorem beq_bytes (v u : Value) (xs ys : List Nat) (W : World) (h : RD W v xs) (k : RD W u ys) (hx : ∀ x ∈ xs, x < 256) (hy : ∀ x ∈ ys, x < 256) :
    Calls Try.prog 26 #[v, u] W fun e w' => e = .returned (.bool (decide (xs = ys))) ∧ W = w' := by
  obtain ⟨s, hs, cs⟩ := conv_rd W v xs h hx
  obtain ⟨t, ht, ct⟩ := conv_rd W u ys k hy
  have htl := tl_eq s t
  rw [hs, ht] at htl
  obtain ⟨B, hB⟩ : ∃ B, decide (xs = ys) = B := ⟨_, rfl⟩
  rw [hB] at htl ⊢
  clear hs ht h k hB
  go_enter Try.func26, Try.ntmps26
  go_wp2
  go_ret
  exact ⟨by first | rfl | (rw [← htl]) | (simp [htl]), rfl⟩
end Go.Proofs.Ytahggokeelgjdaa
