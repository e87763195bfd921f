/- Contracts of package slots. -/
import Derived.Test.YtnfcpohbdkionaaDoorSetK
import Derived.Test.YtnfcpohbdkionaaDoorSetB
import Derived.Test.YtnfcpohbdkionaaDoorSpanG
import Derived.Deep.RegionWith
namespace Go.Proofs.YtnfcpohbdkionaaDoor
set_option maxRecDepth 100000
open Go.RowKit
set_option linter.unusedVariables false
set_option linter.unusedSimpArgs false

/-- Slots at block p: the set at g, in memory from lo on, below hi, says in which granules something is kept: c of them. -/
def SlIs (lo hi g p : Nat) (W : World) (c : Int) (ws : List Nat) : Prop :=
  SetIs lo hi g W 16384 c ws ∧ (hi ≤ p ∧ p < W.heap.size) ∧ (0 ≤ c ∧ c ≤ 16384) ∧ W.cell? ⟨p, 0, none⟩ = some (.pointer (some ⟨g, 0, none⟩))
theorem SlIs.keep {lo hi g p : Nat} {W W' : World} {c : Int} {ws : List Nat} (h : SlIs lo hi g p W c ws) (hs : W.heap.size ≤ W'.heap.size) (hk : ∀ i, lo ≤ i → i ≤ p → W'.heap[i]? = W.heap[i]?) : SlIs lo hi g p W' c ws := by
  obtain ⟨h1, ⟨h2, h3⟩, h4, h5⟩ := h
  have hl : lo ≤ p := by have := h1.1; omega
  exact ⟨h1.keep hs (fun i i1 i2 => hk i i1 (by omega)), ⟨h2, by omega⟩, h4, (World.cell?_of_block (hk p hl (Nat.le_refl _))).trans h5⟩
theorem SlIs.below {lo hi g p B : Nat} {W W' : World} {c : Int} {ws : List Nat} (h : SlIs lo hi g p W c ws) (hb : Below B W W') (hB : p < B) (hs : W.heap.size ≤ W'.heap.size) : SlIs lo hi g p W' c ws :=
  h.keep hs fun i _ hi => hb.block i (by omega)
theorem SlIs.of_only {lo hi g p : Nat} {W W' : World} {c c' : Int} {ws ws' : List Nat} (h : SlIs lo hi g p W c ws) (k : SetIs lo hi g W' 16384 c' ws') (ho : Only lo hi W W') (hc : 0 ≤ c' ∧ c' ≤ 16384) : SlIs lo hi g p W' c' ws' := by
  obtain ⟨h1, ⟨h2, h3⟩, h4, h5⟩ := h
  exact ⟨k, ⟨h2, by rw [ho.2.1]; exact h3⟩, hc, (World.cell?_of_block (ho.2.2 p h2)).trans h5⟩

def SlNewPost (W : World) (e : Ending) (w' : World) : Prop :=
  ∃ g p, e = .returned (.pointer (some ⟨p, 0, none⟩)) ∧ SlIs W.heap.size p g p w' 0 (List.replicate 256 0) ∧ Below W.heap.size W w'
theorem slnew_any (W : World) :
    Calls Tryd.prog 28 #[] W (SlNewPost W) := by
  go_enter Tryd.func28, Tryd.ntmps28
  go_wp2_with fail
  refine (snew_any 16384 16384 _ (by decide)).mono ?_
  rintro e v1 ⟨g, rfl, hs, hb1⟩
  rw [show (((16384 : Int) + 63) / 64).toNat = 256 by decide] at hs
  have HS := Lib.hid hs; clear hs
  go_wp2_with fail
  go_ret
  exact ⟨g, v1.heap.size, rfl, ⟨HS.out.keep (by simp) (fun i _ hi => heap_old _ _ _ hi), ⟨Nat.le_refl _, by simp⟩, by omega, by simp⟩, alc hb1 _⟩

section
variable {lo hi g p : Nat} {W : World} {c : Int} {ws : List Nat}

/-- The set behind a number that is put in, or taken out. -/
def KeepPost (lo hi g p : Nat) (W : World) (c : Int) (ws : List Nat) (x : Nat) (e : Ending) (w' : World) : Prop :=
  ∃ (c' : Int) (ws' : List Nat), e = .returned (.bool true) ∧ SlIs lo hi g p w' c' ws' ∧ Only lo hi W w' ∧ (bitB ws x = true → c' = c) ∧ (bitB ws x = false → c' = c + 1) ∧ ws'.length = ws.length ∧ ∀ y, bitB ws' y = (bitB ws y || decide (x = y))
def ClearPost (lo hi g p : Nat) (W : World) (c : Int) (ws : List Nat) (x : Nat) (e : Ending) (w' : World) : Prop :=
  ∃ (c' : Int) (ws' : List Nat), e = .returned (.bool (bitB ws x)) ∧ SlIs lo hi g p w' c' ws' ∧ Only lo hi W w' ∧ (bitB ws x = true → c' = c - 1) ∧ (bitB ws x = false → c' = c) ∧ ws'.length = ws.length ∧ ∀ y, bitB ws' y = (bitB ws y && !decide (x = y))
theorem spG {b l : Int} (h : mayB b l = true) : spF b l 16 = b / 16 ∧ spN b l 16 = (b + l - 1) / 16 - b / 16 + 1 := by
  obtain ⟨h1, h2, h3, h4⟩ := mayB_iff.1 h
  rw [spF, spN, if_pos h, if_pos h, downI, if_neg (by omega), partsI, if_neg (by omega)]
  omega
theorem wrote_end {lo hi g p : Nat} {W w1 w2 : World} {c c' : Int} {ws ws' : List Nat} (h : SlIs lo hi g p W c ws) (hb : Below W.heap.size W w1) (hs2 : SetIs lo hi g w2 16384 c' ws') (ho : Only lo hi w1 w2) (hc : 0 ≤ c' ∧ c' ≤ 16384) :
    SlIs lo hi g p w2 c' ws' ∧ Below lo W w2 ∧ (∀ i, p < i → i < W.heap.size → w2.heap[i]? = W.heap[i]?) ∧ W.heap.size ≤ w2.heap.size := by
  have h1 := h.below hb h.2.1.2 hb.size
  have hl : lo ≤ W.heap.size := by have := h.1.1; omega
  refine ⟨h1.of_only hs2 ho hc, (hb.mono hl).trans ho.1, fun i i1 i2 => (ho.2.2 i (by have := h.2.1.1; omega)).trans (hb.block i i2), by rw [ho.2.1]; exact hb.size⟩
def WrotePost (lo hi g p : Nat) (W : World) (c : Int) (ws : List Nat) (b l : Int) (e : Ending) (w' : World) : Prop :=
  e = .returned (.int .i64 (dropN ws (spF b l 16).toNat (sJ 16384 (spF b l 16) (spN b l 16))).2) ∧ SlIs lo hi g p w' (c - (dropN ws (spF b l 16).toNat (sJ 16384 (spF b l 16) (spN b l 16))).2) (dropN ws (spF b l 16).toNat (sJ 16384 (spF b l 16) (spN b l 16))).1 ∧ Below lo W w' ∧ (∀ i, p < i → i < W.heap.size → w'.heap[i]? = W.heap[i]?) ∧ W.heap.size ≤ w'.heap.size
end
end Go.Proofs.YtnfcpohbdkionaaDoor

