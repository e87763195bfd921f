/- Contracts of package batch: New, Size, Len, Take. -/
import Derived.Test.YtokdjonnblbegaaVz
import Derived.Deep.RegionHeld3
import Derived.Lib.SliceRun
import Derived.WalkKit
import Derived.ProofKit
import Derived.OpenShut
import Derived.Deep.DeepCutAuto
import Derived.RegionTactic
import Derived.ChangeAlike
import Derived.BigRegion
namespace Go.Proofs.Ytokdjonnblbegaa
set_option maxRecDepth 100000
open Go.RowKit
set_option linter.unusedVariables false
set_option linter.unusedSimpArgs false

theorem tyBs : TyOK 26 25 1 24 (.slice none 0 0) := ⟨Try.underlying25, by kernel_rfl, rfl, by decide, by decide⟩
/-- A batch: its numbers, from the beginning of a block of its own on, with room that may be written. -/
def BRw (g c : Nat) (W : World) (l : List Int) : Prop :=
  g < W.heap.size ∧ 0 < l.length ∧ l.length ≤ c ∧ c ≤ 9223372036854775807 ∧ (∀ (i : Nat) (x : Int), l[i]? = some x → W.cell? ⟨g, i, none⟩ = some (.int .i64 x)) ∧ ∀ i, i < c → (W.cell? ⟨g, i, none⟩).isSome = true ∧ W.frozen? ⟨g, i, none⟩ = false
theorem BRw.keep {g c : Nat} {W W' : World} {l : List Int} (h : BRw g c W l) (hs : W.heap.size ≤ W'.heap.size) (hk : W'.heap[g]? = W.heap[g]?) : BRw g c W' l := by
  obtain ⟨h1, h2, h3, h4, h5, h6⟩ := h
  exact ⟨Nat.lt_of_lt_of_le h1 hs, h2, h3, h4, fun i x hx => (World.cell?_of_block hk).trans (h5 i x hx), fun i hi => ⟨by rw [World.cell?_of_block hk]; exact (h6 i hi).1, (World.frozen?_of_block hk).trans (h6 i hi).2⟩⟩
/-- Batches one behind the other: what the outer row's cells are. gs: their blocks, cs: how much room each has. -/
structure Bs (gs cs : List Nat) (ls : List (List Int)) (vals : List Value) (W : World) : Prop where
  lg : gs.length = ls.length
  lc : cs.length = ls.length
  lv : vals.length = ls.length
  at_ : ∀ (j : Nat) (l : List Int), ls[j]? = some l → ∃ (g c : Nat), gs[j]? = some g ∧ cs[j]? = some c ∧ vals[j]? = some (Value.slice (some ⟨g, 0, none⟩) l.length c) ∧ BRw g c W l
  nd : gs.Nodup
/-- The object at p, its outer row in block b. -/
structure BT (p b sz : Nat) (v : Value) (gs cs : List Nat) (ls : List (List Int)) (vals : List Value) (W : World) : Prop where
  lt : p < W.heap.size
  c0 : W.cell? ⟨p, 0, none⟩ = some (.int .i64 (sz : Int))
  c1 : W.cell? ⟨p, 1, none⟩ = some v
  f1 : W.frozen? ⟨p, 1, none⟩ = false
  out : VZ 1 b W v ls.length vals
  inn : Bs gs cs ls vals W
  df : p ≠ b ∧ p ∉ gs ∧ b ∉ gs
  big : 1 ≤ sz ∧ sz ≤ 16 ∧ ls.length ≤ 100000 ∧ (ls.map List.length).sum ≤ 100000
  kc : v ≠ .slice none 0 0 → ∃ o u, W.cell? ⟨b, o, none⟩ = some u
section
variable {p b sz : Nat} {v : Value} {gs cs : List Nat} {ls : List (List Int)} {vals : List Value} {W W' : World}
theorem BT.keep (h : BT p b sz v gs cs ls vals W) (hs : W.heap.size ≤ W'.heap.size) (hk : ∀ i, i < W.heap.size → (i = p ∨ i = b ∨ i ∈ gs) → W'.heap[i]? = W.heap[i]?) : BT p b sz v gs cs ls vals W' := by
  have kp := hk p h.lt (.inl rfl)
  refine ⟨Nat.lt_of_lt_of_le h.lt hs, (World.cell?_of_block kp).trans h.c0, (World.cell?_of_block kp).trans h.c1, (World.frozen?_of_block kp).trans h.f1, h.out.keep hs (fun hb => hk b hb (.inr (.inl rfl))), ⟨h.inn.lg, h.inn.lc, h.inn.lv, fun j l hj => ?_, h.inn.nd⟩, h.df, h.big, fun hv => let ⟨o, u, ho⟩ := h.kc hv; ⟨o, u, (World.cell?_of_block (hk b (World.block_lt_of_cell? W _ ho) (.inr (.inl rfl)))).trans ho⟩⟩
  obtain ⟨g, c, e1, e2, e3, hr⟩ := h.inn.at_ j l hj
  exact ⟨g, c, e1, e2, e3, hr.keep hs (hk g hr.1 (.inr (.inr (List.mem_of_getElem? e1))))⟩
theorem BT.below (h : BT p b sz v gs cs ls vals W) (hb : Below W.heap.size W W') : BT p b sz v gs cs ls vals W' := h.keep hb.size (fun i hi _ => hb.block i hi)
/-- Where the outer row stands. -/
theorem BT.open_ (h : BT p b sz v gs cs ls vals W) : (v = .slice none 0 0 ∧ ls = []) ∨ ∃ off c, v = .slice (some ⟨b, off, none⟩) ls.length c ∧ b < W.heap.size ∧ ls.length ≤ c ∧ c ≤ 9223372036854775807 ∧ ∀ (j : Nat) (u : Value), vals[j]? = some u → W.cell? ⟨b, off + j, none⟩ = some u := by
  obtain ⟨A, c, rfl, h1, h2, h3, h4, ⟨rfl, h5, rfl⟩ | ⟨off, rfl, hl, hc, hsp⟩⟩ := h.out
  · refine .inl ⟨by rw [h5], List.length_eq_zero_iff.1 h5⟩
  · exact .inr ⟨off, c, rfl, hl, h2, h3, fun j u hj => hc j u hj⟩
theorem bsize (h : BT p b sz v gs cs ls vals W) : Calls Try.prog 12 #[.pointer (some ⟨p, 0, none⟩)] W fun e w' => e = .returned (.int .i64 (sz : Int)) ∧ W = w' := by
  have c0 := h.c0
  clear h
  go_enter Try.func12, Try.ntmps12
  go_wp2
  go_ret
  exact ⟨rfl, rfl⟩
end
theorem nbsize (W : World) : Calls Try.prog 12 #[.pointer none] W fun e w' => e = .returned (.int .i64 0) ∧ W = w' := by
  go_enter Try.func12, Try.ntmps12
  go_wp2
  go_ret
  exact ⟨rfl, rfl⟩
theorem nblen (W : World) : Calls Try.prog 10 #[.pointer none] W fun e w' => e = .returned (.int .i64 0) ∧ W = w' := by
  go_enter Try.func10, Try.ntmps10
  go_wp2
  go_ret
  exact ⟨rfl, rfl⟩
theorem nbtake (W : World) : Calls Try.prog 6 #[.pointer none] W fun e w' => e = .returned (.slice none 0 0) ∧ W = w' := by
  go_enter Try.func6, Try.ntmps6
  go_wp2
  go_ret
  exact ⟨rfl, rfl⟩
theorem bnew (n : Int) (sz : Nat) (hs : (sz : Int) = min (max n 1) 16) (W : World) : Calls Try.prog 4 #[.int .i64 n] W fun e w' => e = .returned (.pointer (some ⟨W.heap.size, 0, none⟩)) ∧ BT W.heap.size (W.heap.size + 1) sz (.slice none 0 0) [] [] [] [] w' ∧ Below W.heap.size W w' := by
  have fin : ∀ T, BT W.heap.size (W.heap.size + 1) sz (.slice none 0 0) [] [] [] [] (W.alloc (.cells #[.int .i64 (sz : Int), .slice none 0 0] T)) := fun T => ⟨by simp, by simp, by simp, by simp, vz_nil 1 _ _, ⟨rfl, rfl, rfl, fun j l h => by simp at h, List.nodup_nil⟩, ⟨by omega, by simp, by simp⟩, ⟨by omega, by omega, by simp, by simp⟩, fun h => absurd rfl h⟩
  have HF := Lib.hid fin
  clear fin
  by_cases h1 : n < 1
  · obtain rfl : sz = 1 := by omega
    clear hs
    go_enter Try.func4, Try.ntmps4
    go_wp2
    go_ret
    exact ⟨rfl, HF.out _, alc0 _ _⟩
  · by_cases h2 : 16 < n
    · obtain rfl : sz = 16 := by omega
      have h3 : ¬ n ≤ 16 := by omega
      have h4 : ¬ n < 16 := by omega
      clear hs
      go_enter Try.func4, Try.ntmps4
      go_wp2
      go_ret
      exact ⟨rfl, HF.out _, alc0 _ _⟩
    · obtain rfl : n = (sz : Int) := by omega
      clear hs
      go_enter Try.func4, Try.ntmps4
      go_wp2
      go_ret
      exact ⟨rfl, HF.out _, alc0 _ _⟩
end Go.Proofs.Ytokdjonnblbegaa
