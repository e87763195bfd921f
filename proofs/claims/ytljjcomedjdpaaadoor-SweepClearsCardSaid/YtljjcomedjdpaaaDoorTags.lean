/- TagsZ, Tags in one text: a claim holds at most 60 files. -/
import Derived.Test.YtljjcomedjdpaaaDoorRows
import Derived.Test.YtljjcomedjdpaaaDoorInt
import Derived.WalkKit
import Derived.ProofKit
import Derived.OpenShut
import Derived.Lib.Hide
import Derived.Deep.WholeRow
import Derived.WalkLawsBesides
import Derived.WalkSpells
import Derived.Deep.QuietTactic
import Derived.BigQuiet
import Derived.WalkSmall
import Derived.Laws.BitsAllLaws
import Derived.Laws.Tables
import Derived.Deep.RegionWith
import Derived.RegionTactic
import Derived.ChangeAlike
import Derived.BigRegion
namespace Go.Proofs.YtljjcomedjdpaaaDoor
set_option maxRecDepth 100000
open Go.RowKit
def tagZ : Array Value := Array.replicate 8192 (.int .u8 0)
set_option maxRecDepth 1000000 in
theorem tagInfo : (Tryd.prog.info? 119).map (fun i => (i.zero, i.size)) = some (some (.agg tagZ), 8192) := by kernel_rfl
set_option maxRecDepth 1000000 in
theorem tagBuilt : Tryd.prog.built 119 ((#[] : Array (Nat × Value)).toList) = some tagZ := by kernel_rfl
theorem tagSize : tagZ.size = 8192 := by simp [tagZ]
theorem tagOne : tagZ.all (·.oneCell') = true := by
  rw [Array.all_eq_true]
  intro i h
  simp [tagZ, Value.oneCell']
end Go.Proofs.YtljjcomedjdpaaaDoor
namespace Go.Proofs.YtljjcomedjdpaaaDoor
set_option maxRecDepth 100000
open Go.RowKit
set_option linter.unusedVariables false
set_option linter.unusedSimpArgs false

/-- Tags at block p: granule y has tag f y; two a byte. -/
def TagIs (p : Nat) (W : World) (f : Nat → Nat) : Prop :=
  p < W.heap.size ∧ (∀ y, f y < 16) ∧ ∀ i, i < 8192 → W.cell? ⟨p, i, none⟩ = some (.int .u8 ((f (2 * i) + 16 * f (2 * i + 1) : Nat) : Int)) ∧ W.frozen? ⟨p, i, none⟩ = false
theorem TagIs.keep {p : Nat} {W W' : World} {f : Nat → Nat} (h : TagIs p W f) (hs : W.heap.size ≤ W'.heap.size) (hk : W'.heap[p]? = W.heap[p]?) : TagIs p W' f := by
  obtain ⟨h1, h2, h3⟩ := h
  refine ⟨by omega, h2, fun i hi => ?_⟩
  obtain ⟨a, b⟩ := h3 i hi
  exact ⟨(World.cell?_of_block hk).trans a, (World.frozen?_of_block hk).trans b⟩
theorem TagIs.below {p : Nat} {W W' : World} {f : Nat → Nat} (h : TagIs p W f) (hb : Below W.heap.size W W') : TagIs p W' f := h.keep hb.size (hb.block p h.1)

def TNewPost (W : World) (e : Ending) (w' : World) : Prop :=
  e = .returned (.pointer (some ⟨W.heap.size, 0, none⟩)) ∧ TagIs W.heap.size w' (fun _ => 0) ∧ Below W.heap.size W w'
theorem tagAt (i : Nat) (h : i < 8192) : tagZ[i]? = some (.int .u8 0) := by simp [tagZ, h]
theorem tnew_any (W : World) :
    Calls Tryd.prog 45 #[] W (TNewPost W) := by
  obtain ⟨zv, zi⟩ := zero_of_info tagInfo
  have HZ := Lib.hid tagAt
  have hZs := tagSize
  have h1 := tagOne
  generalize tagZ = Z at *
  go_enter Tryd.func45, Tryd.ntmps45
  go_wp2_with fail
  go_ret
  refine ⟨rfl, ⟨by simp, fun _ => (by decide : 0 < 16), fun i hi => ⟨?_, by simp⟩⟩, alc0 _ _⟩
  rw [World.cell?_alloc_mark]
  exact HZ.out i hi

def thereT (g n : Int) : Prop := 0 ≤ g ∧ g < 16384 ∧ 1 ≤ n ∧ n ≤ 16384 - g
instance (f n : Int) : Decidable (thereT f n) := by unfold thereT; infer_instance
end Go.Proofs.YtljjcomedjdpaaaDoor

