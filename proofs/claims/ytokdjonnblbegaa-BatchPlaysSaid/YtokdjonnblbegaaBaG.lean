/- A clone of a piece of numbers. -/
import Derived.Test.YtokdjonnblbegaaBaF
import Derived.Laws.OwnMore
import Derived.Lib.SliceRun
namespace Go.Proofs.Ytokdjonnblbegaa
set_option maxRecDepth 100000
open Go.RowKit
set_option linter.unusedVariables false
set_option linter.unusedSimpArgs false

theorem infoI8' : (Try.prog.info? 3).map (fun i => (i.zero, i.size, i.bytes)) = some (some (.int .i64 0), 1, 8) := by kernel_rfl
def IClonePost (W : World) (n : Nat) (f : Nat → Int) (e : Ending) (w' : World) : Prop :=
  ∃ D cap, e = .returned (.slice (some ⟨D, 0, none⟩) n cap) ∧ W.heap.size ≤ D ∧ BRw D cap w' ((List.range n).map f) ∧ Below W.heap.size W w'
set_option maxHeartbeats 1600000 in
theorem iclone (W : World) (gw o n cap : Nat) (f : Nat → Int) (h : ∀ i, i < n → W.cell? ⟨gw, o + i, none⟩ = some (.int .i64 (f i))) (hn : 0 < n) (hl : n ≤ 262144) :
    Calls Try.prog 14 #[.slice (some ⟨gw, o, none⟩) n cap] W (IClonePost W n f) := by
  obtain ⟨i0, hi0, hz0, hz1, hz2⟩ := info_parts infoI8'
  have hgw := World.block_lt_of_cell? W _ (h 0 hn)
  have HW := Lib.hid h; clear h
  have hnews : ∀ j u, ((List.range n).map fun i => Value.int .i64 (f i))[j]? = some u → W.cell? ((⟨gw, o, none⟩ : Addr).add j) = some u := by
    intro j u hj
    have hlt : j < n := by
      by_cases h : j < n
      · exact h
      · rw [List.getElem?_eq_none (by simp; omega)] at hj; cases hj
    rw [addp, HW.out j hlt, ← hj]
    simp [hlt]
  have HN := Lib.hid hnews; clear hnews
  have hlen : ((List.range n).map fun i => Value.int .i64 (f i)).length = n := by simp
  have hone : ∀ u ∈ ((List.range n).map fun i => Value.int .i64 (f i)), u.oneCell' = true := fun u hu => by
    obtain ⟨n, _, rfl⟩ := List.mem_map.1 hu
    rfl
  have hat : ∀ i, i < n → ((List.range n).map fun i => Value.int .i64 (f i))[i]? = some (.int .i64 (f i)) := fun i hi => by simp [hi]
  generalize ((List.range n).map fun i => Value.int .i64 (f i)) = vs at *
  have HAT := Lib.hid hat
  have HL := Lib.hid hlen
  have HON := Lib.hid hone
  clear hat hlen hone
  have hq := fun W : World => Lib.run_eql_slice_nil (P := Try.prog) W 26 3 (some ⟨gw, o, none⟩) n cap 0 0 Try.underlying26
  simp only [Option.isNone_some] at hq
  go_enter Try.func14, Try.ntmps14
  go_wp2_with (at_builtin; refine wpList_append_own _ rfl _ _ 26 rfl W.heap.size 3 i0 (.int .i64 0) 1 8 Try.underlying26 hi0 hz0 hz1 hz2 rfl (by decide) _ _ _ rfl (World.ownsRow_lit W #[] 0 (Nat.le_refl _) (by omega) rfl) ⟨gw, o, none⟩ n cap vs rfl ?c1 ?c2 ?c3 ?c4 ?c5 ?c6 ?_)
  try case c1 => exact HL.out
  case c2 =>
    intro j u hj
    have h1 := HN.out j u hj
    rw [addp] at h1
    first
      | exact h1
      | (rw [addp, World.cell?_alloc_lt _ _ _ hgw]; exact h1)
  case c3 => exact HON.out
  case c4 => unfold maxLen; omega
  case c5 => omega
  try case c6 => simp
  intro v' w1 hown hgrow hnil
  have hb1 : Below W.heap.size W w1 := (alc0 W _).grown hgrow (by simp) (fun j hj => by simp [Value.ownBlock] at hj; omega)
  clear hgrow
  have HO := Lib.hid hown; clear hown
  have HNIL := Lib.hid hnil; clear hnil
  go_wp2
  go_ret
  rcases HO.out.2 with ⟨rfl, hz⟩ | ⟨g, cap', cur, rfl, hg, hh, hc, hm, hcur, _⟩
  · exact (HNIL.out rfl).elim
  · have hb := HO.out.lt g rfl
    refine ⟨g, cap', rfl, hg, ⟨hb.2, by simpa using hn, by simpa using hc, by unfold maxLen at hm; omega, fun i x hi => ?_, fun i hi => ⟨?_, HO.out.frozenAt _⟩⟩, hb1⟩
    · have hlt : i < n := by
        by_cases h : i < n
        · exact h
        · rw [List.getElem?_eq_none (by simp; omega)] at hi; cases hi
      rw [HO.out.cellAt i (by simpa using hlt)]
      have h2 := HAT.out i hlt
      have h3 : f i = x := by simpa [hlt] using hi
      rw [h3] at h2
      simpa using h2
    · have hsz : i < cur.size := by omega
      rw [cell_of_row _ g i cur _ (0, 0) hh, Array.getElem?_eq_getElem hsz]; rfl
end Go.Proofs.Ytokdjonnblbegaa
