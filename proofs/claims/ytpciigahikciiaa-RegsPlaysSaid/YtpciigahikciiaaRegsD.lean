/- Contracts of package regs: List, Count of two. -/
import Derived.Test.YtpciigahikciiaaRegsC
import Derived.Laws.OwnMore
namespace Go.Proofs.Ytpciigahikciiaa
open Go.RowKit
set_option linter.unusedVariables false
set_option linter.unusedSimpArgs false

theorem rclone (W : World) (g k : Nat) (V : Nat → Value) (hk : k ≤ 64) (hg : g < W.heap.size) (h : ∀ i, i < 6 * k → W.cell? ⟨g, i, none⟩ = some (V i)) (h1 : ∀ i, (V i).oneCell' = true) :
    Calls Try.prog 19 #[.slice (some ⟨g, 0, none⟩) k k] W fun e w' => ∃ g2 cap, e = .returned (.slice (some ⟨g2, 0, none⟩) k cap) ∧ (∀ i, i < 6 * k → w'.cell? ⟨g2, i, none⟩ = some (V i)) ∧ k ≤ cap ∧ Below W.heap.size W w' := by
  obtain ⟨i0, hi0, hz0, hz1, hz2⟩ := info_parts infoCap
  have HW := Lib.hid h; clear h
  have H1 := Lib.hid h1; clear h1
  have hq := fun W : World => Lib.run_eql_slice_nil (P := Try.prog) W 40 28 (some ⟨g, 0, none⟩) k k 0 0 Try.underlying40
  simp only [Option.isNone_some] at hq
  go_enter Try.func19, Try.ntmps19
  go_wp2_with (at_builtin; refine wpList_append_own _ rfl _ _ 40 rfl W.heap.size 28 i0 (.agg #[.int .i64 0, .int .i64 0, .int .i64 0, .int .i64 0, .int .i64 0, .bool false]) 6 48 Try.underlying40 hi0 hz0 hz1 hz2 rfl (by decide) _ _ _ rfl (World.ownsRow_lit W #[] 0 (Nat.le_refl _) (by omega) rfl) ⟨g, 0, none⟩ k k ((List.range (k * 6)).map V) rfl ?c1 ?c2 ?c3 ?c4 ?c5 ?c6 ?_)
  case c1 => simp
  case c2 =>
    intro j u hj
    have hlt : j < k * 6 := by
      by_cases h : j < k * 6
      · exact h
      · rw [List.getElem?_eq_none (by simp; omega)] at hj; cases hj
    have hadd : (⟨g, 0, none⟩ : Addr).add j = ⟨g, j, none⟩ := by unfold Addr.add; split <;> simp_all
    rw [hadd, World.cell?_alloc_lt _ _ _ (by exact hg), HW.out j (by omega), ← hj]
    simp [hlt]
  case c3 => intro u hu; obtain ⟨n, _, rfl⟩ := List.mem_map.1 hu; exact H1.out n
  case c4 => unfold maxLen; omega
  case c5 => omega
  case c6 => simp
  intro v' w1 hown hgrow hnil
  have hb1 : Below W.heap.size W w1 := (alc0 W _).grown hgrow (by simp) (fun j hj => by simp [Value.ownBlock] at hj; omega)
  clear hgrow
  have HO := Lib.hid hown; clear hown
  have HNIL := Lib.hid hnil; clear hnil
  go_wp2
  go_ret
  rcases HO.out.2 with ⟨rfl, hz⟩ | ⟨g2, cap', cur, rfl, hg2, hh, hc, hm, _⟩
  · exact (HNIL.out rfl).elim
  · refine ⟨g2, cap', by simp, fun i hi => ?_, by omega, hb1⟩
    rw [HO.out.cellAt i (by omega)]
    have : i < k * 6 := by omega
    simp [this]
theorem rlist (p g k : Nat) (W : World) (V : Nat → Value) (H : RegAt p g k W V) (h1 : ∀ i, (V i).oneCell' = true) :
    Calls Try.prog 11 #[.pointer (some ⟨p, 0, none⟩)] W fun e w' => ∃ g2 cap, e = .returned (.slice (some ⟨g2, 0, none⟩) k cap) ∧ (∀ i, i < 6 * k → w'.cell? ⟨g2, i, none⟩ = some (V i)) ∧ k ≤ cap ∧ Below W.heap.size W w' := by
  obtain ⟨q1, q2, q3, q4, q5, q6⟩ := H
  have H6 := Lib.hid q6
  have H1 := Lib.hid h1
  clear q6 h1
  go_enter Try.func11, Try.ntmps11
  go_wp2_with fail
  refine (rclone _ g k V q4 q2 (fun i hi => (H6.out i hi).1) H1.out).mono ?_
  rintro e w' ⟨g2, cap, rfl, hc, hk, hb⟩
  have HC := Lib.hid hc
  clear hc
  go_wp2
  go_ret
  exact ⟨g2, cap, rfl, HC.out, hk, hb⟩
end Go.Proofs.Ytpciigahikciiaa
