/- SoC, SoD in one text: a claim holds at most 60 files. -/
import Derived.Test.YtnfcpohbdkionaaDoorSoB
import Derived.Lib.LazyBuf
import Derived.Deep.RegionHeld3
import Derived.Deep.LoopGhost
namespace Go.Proofs.YtnfcpohbdkionaaDoor
set_option maxRecDepth 100000
open Go.RowKit Go.ChangeMaps Go.MapKept
open Go.Maps (Keyed)
set_option linter.unusedVariables false
set_option linter.unusedSimpArgs false

theorem OB.trans {b b' : Nat} {W w1 w2 : World} (h : OB b W w1) (k : OB b' w1 w2) (hb : b' = b ∨ W.heap.size ≤ b') : OB b W w2 := by
  obtain ⟨s1, o1, l1⟩ := h
  obtain ⟨s2, o2, l2⟩ := k
  refine ⟨Nat.le_trans s1 s2, fun i hi hb' => ?_, fun L hb' hL => (l1 L hb' hL).trans (l2 L ?_ (Nat.le_trans hL s1))⟩
  · rw [o2 i (Nat.lt_of_lt_of_le hi s1) (by rcases hb with rfl | h; exact hb'; omega), o1 i hi hb']
  · rcases hb with rfl | h; exact hb'; omega
/-- A new page of noughts. -/
theorem STL.page {B g b : Nat} {W w3 w4 : World} {l : List (Nat × Nat)} {c : Nat → Nat} {p q : Nat} (h : STL B g b W l c) (hno : ∀ q, ¬ (p, q) ∈ l) (hB : Below W.heap.size W w3) (hq : q = W.heap.size) (hqz : q < w3.heap.size)
    (hc : ∀ j, j < 256 → w3.cell? ⟨q, j, none⟩ = some (.int .u8 0)) (hf : ∀ o, w3.frozen? ⟨q, o, none⟩ = false) (hm : MP b w4 (l ++ [(p, q)])) (hs : w4.heap.size = w3.heap.size) (ho : OB b w3 w4) : STL B g b w4 (l ++ [(p, q)]) c := by
  obtain ⟨h1, ⟨h2, h3, h4, h5, h6⟩, h7, h8, h9, h10⟩ := h
  have hg : w4.heap[g]? = W.heap[g]? := (ho.2.1 g (Nat.lt_of_lt_of_le h5 hB.size) h4).trans (hB.block g h5)
  refine ⟨(World.cell?_of_block hg).trans h1, ⟨h2, h3, h4, by rw [hs]; exact Nat.lt_of_lt_of_le h5 hB.size, by rw [hs]; exact Nat.lt_of_lt_of_le h6 hB.size⟩, hm, fun pq hpq => ?_, ?_, fun x hx => h10 x (fun q' hq' => hx q' (List.mem_append_left _ hq'))⟩
  · rcases List.mem_append.1 hpq with hpq | hpq
    · obtain ⟨k1, k2, k3, k4⟩ := h8 pq hpq
      exact ⟨k1, k2, k3, k4.keep (by rw [hs]; exact hB.size) ((ho.2.1 pq.2 (Nat.lt_of_lt_of_le k4.1 hB.size) k2).trans (hB.block pq.2 k4.1))⟩
    · simp only [List.mem_singleton] at hpq
      subst hpq
      refine ⟨by show q ≠ g; omega, by show q ≠ b; omega, by show B ≤ q; omega, by show q < w4.heap.size; omega, fun j hj => ?_, fun o => ?_⟩
      · have e : c (p * 256 + j) = 0 := h10 _ (fun q' hq' => hno q' (by rw [show (p * 256 + j) / 256 = p by omega] at hq'; exact hq'))
        show w4.cell? ⟨q, j, none⟩ = some (.int .u8 ((c (p * 256 + j) : Nat) : Int))
        rw [e, World.cell?_of_block (ho.2.1 q hqz (by omega))]
        exact hc j hj
      · exact (World.frozen?_of_block (ho.2.1 q hqz (by omega))).trans (hf o)
  · rw [List.map_append, List.nodup_append]
    refine ⟨h9, by simp, ?_⟩
    intro a ha d hd
    obtain ⟨pq, hpq, rfl⟩ := List.mem_map.1 ha
    simp at hd
    subst hd
    have := (h8 pq hpq).2.2.2.1
    omega
end Go.Proofs.YtnfcpohbdkionaaDoor
namespace Go.Proofs.YtnfcpohbdkionaaDoor
set_option maxRecDepth 100000
open Go.RowKit Go.ChangeMaps Go.MapKept
open Go.Maps (Keyed)
set_option linter.unusedVariables false
set_option linter.unusedSimpArgs false

end Go.Proofs.YtnfcpohbdkionaaDoor

