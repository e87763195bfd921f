/- BrI. -/
import Derived.Test.YtnfcpohbdkionaaGreatDoorZ30
namespace Go.Proofs.YtnfcpohbdkionaaGreatDoor
set_option maxRecDepth 100000
open Go.RowKit Go.ChangeMaps Go.MapKept
set_option linter.unusedVariables false
set_option linter.unusedSimpArgs false
/-- Two places: none of the one's blocks is the other's. -/
structure TWO (N : Nat) (B lo g : Nat) (col : Nat → Nat) (M R P pg : Nat) (pc : Int) (ws : List Nat) (B' lo' g' : Nat) (col' : Nat → Nat) (M' R' P' pg' : Nat) (pc' : Int) (ws' : List Nat) (w : World) (σ σ' : MS) : Prop where
  p1 : BPl B lo g col M R P pg w σ zeroV pc ws
  p2 : BPl B' lo' g' col' M' R' P' pg' w σ' zeroV pc' ws'
  dj : ∀ i, col i = 0 ∨ col' i = 0
  c1 : col' R = 0 ∧ col' g = 0 ∧ ∀ i, lo ≤ i → i ≤ P → col' i = 0
  c2 : col R' = 0 ∧ col g' = 0 ∧ ∀ i, lo' ≤ i → i ≤ P' → col i = 0
  nb : N ≤ B ∧ N ≤ B'
section
variable {N B lo g : Nat} {col : Nat → Nat} {M R P pg : Nat} {pc : Int} {ws : List Nat} {B' lo' g' : Nat} {col' : Nat → Nat} {M' R' P' pg' : Nat} {pc' : Int} {ws' : List Nat} {u w : World} {σ σ' : MS}
theorem TWO.mk' (h : BPl B lo g col M R P pg u σ zeroV pc ws) (hb : Below u.heap.size u w) (h' : BPl B' lo' g' col' M' R' P' pg' w σ' zeroV pc' ws') (hB : u.heap.size ≤ B') (hN : N ≤ B) (hN' : N ≤ u.heap.size) : TWO N B lo g col M R P pg pc ws B' lo' g' col' M' R' P' pg' pc' ws' w σ σ' := by
  have lo1 : ∀ i, i < u.heap.size → col' i = 0 := fun i hi => by
    by_cases e : col' i = 0
    · exact e
    · have := (h'.mem.own i e).1; omega
  have hi1 : ∀ i, u.heap.size ≤ i → col i = 0 := fun i hi => h.mem.old hi
  have b' := h'.br
  refine ⟨h.later hb, h', fun i => ?_, ⟨lo1 R h.reg.1, lo1 g h.reg.2.1, fun i _ i2 => lo1 i (Nat.lt_of_le_of_lt i2 h.pt.2.1.2)⟩, ⟨hi1 R' (by omega), hi1 g' (by omega), fun i i1 _ => hi1 i (by omega)⟩, ⟨hN, by omega⟩⟩
  by_cases e : i < u.heap.size
  · exact .inr (lo1 i e)
  · exact .inl (hi1 i (by omega))
theorem TWO.later (h : TWO N B lo g col M R P pg pc ws B' lo' g' col' M' R' P' pg' pc' ws' u σ σ') (hb : Below u.heap.size u w) : TWO N B lo g col M R P pg pc ws B' lo' g' col' M' R' P' pg' pc' ws' w σ σ' :=
  ⟨h.p1.later hb, h.p2.later hb, h.dj, h.c1, h.c2, h.nb⟩
theorem TWO.away {V : World} {z : Nat} (h : TWO N B lo g col M R P pg pc ws B' lo' g' col' M' R' P' pg' pc' ws' u σ σ') (hz : Away B col R g P z ∧ Away B' col' R' g' P' z) (t : TzTab V) (hN : V.heap.size = N) (hb : Below V.heap.size V w) (hs : w.heap.size = u.heap.size) (hk : ∀ i, i ≠ z → w.heap[i]? = u.heap[i]?) : TWO N B lo g col M R P pg pc ws B' lo' g' col' M' R' P' pg' pc' ws' w σ σ' :=
  ⟨h.p1.away hz.1 t (by have := h.nb; omega) hb hs hk, h.p2.away hz.2 t (by have := h.nb; omega) hb hs hk, h.dj, h.c1, h.c2, h.nb⟩
end
theorem cut2 {X Q : Prop} (rest : Hid X → Q) (hx : X) : Q := rest (Lib.hid hx)
end Go.Proofs.YtnfcpohbdkionaaGreatDoor
