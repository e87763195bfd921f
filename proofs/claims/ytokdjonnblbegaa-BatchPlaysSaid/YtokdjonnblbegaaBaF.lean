/- slices.Chunk's closure: SeqStopsK. -/
import Derived.Test.YtokdjonnblbegaaBaE
namespace Go.Proofs.Ytokdjonnblbegaa
set_option maxRecDepth 100000
open Go.RowKit Go.Shelf
set_option linter.unusedVariables false
set_option linter.unusedSimpArgs false
attribute [local go_sem] Oper.semAt_some

set_option maxHeartbeats 1000000 in
theorem chunk0_in (F : Fence) (N : Nat) (h7 : F.fn 20) (hro : F.round = none) (l s t : Nat) (A : Option Addr) (c k : Nat) (J : List (Pc 0 k) → World → Prop)
    (W : World) (hs : W.cell? ⟨s, 0, none⟩ = some (.slice A 0 c)) (h0 : J [] W) :
    CallsIn F N Try.prog 20 #[.func (.yield l) #[] #[], .pointer (some ⟨s, 0, none⟩), .pointer (some ⟨t, 0, none⟩)] W fun e W' => (∃ v, e = .returned v) ∧ J [] W' := by
  refine callsIn_of_wp Try.func20 rfl h7 ?_ hro
  simp only [Try.ntmps20, List.size_toArray, List.length_cons, List.length_nil, Nat.reduceAdd, Nat.reduceSub, Array.replicate_succ, Array.replicate_zero, List.push_toArray, List.append_toArray, List.nil_append, List.cons_append]
  gi_wp2
  gi_loopw [4] (fun i wr => i = .int .i64 0 ∧ J [] wr ∧ wr.cell? ⟨s, 0, none⟩ = some (.slice A 0 c)) (fun _ _ => 0)
  case atStart => exact ⟨rfl, h0, hs⟩
  case round =>
    obtain ⟨rfl, hJs, hsr⟩ := hrel
    gi_wp2
    go_end0
    exact ⟨⟨_, rfl⟩, hJs⟩
/-- The pieces that have come in all. -/
def ChS (n k : Nat) (ys : List (Pc n k)) : Prop := ∃ m, ys = chU n k m ∧ n ≤ m * k ∧ ∀ i, i < m → i * k < n
theorem ChS.zero (k : Nat) : ChS 0 k [] := ⟨0, by simp [chU], by simp, by simp⟩
theorem chunk_stops (F : Fence) (N : Nat) (h7 : F.fn 20) (hro : F.round = none) (hN : 1 ≤ N) (s t b off n c k : Nat) (A : Option Addr) (hA : n = 0 ∨ A = some ⟨b, off, none⟩) (hk : 1 ≤ k) (hk2 : k ≤ 4294967296) (hn2 : n ≤ 4294967296) (hnc : n ≤ c)
    (w : World) (hs : w.cell? ⟨s, 0, none⟩ = some (.slice A n c)) (ht : w.cell? ⟨t, 0, none⟩ = some (.int .i64 k)) (hsl : s < w.heap.size) (htl : t < w.heap.size) :
    SeqStopsK F N Try.prog 20 #[.pointer (some ⟨s, 0, none⟩), .pointer (some ⟨t, 0, none⟩)] (enS b off (n := n) (k := k)) (KP s t) (ChS n k) (fun _ => True) n w := fun l J Jx W hW hJ _ hY h0 => by
  have hs' := (hW.cell (p := ⟨s, 0, none⟩) hsl).trans hs
  have ht' := (hW.cell (p := ⟨t, 0, none⟩) htl).trans ht
  rcases Nat.eq_zero_or_pos n with rfl | hn0
  · exact (chunk0_in F N h7 hro l s t A c k J W hs' h0).mono fun e W' ⟨he, hj⟩ => ⟨he, .inl ⟨_, ChS.zero k, hj⟩⟩
  · obtain rfl : A = some ⟨b, off, none⟩ := hA.resolve_left (by omega)
    exact chunk1_in F N h7 hro hN l s t b off n c k hk hk2 hn2 hnc J Jx (fun u V h => hJ u V V.drew none h ⟨rfl, rfl, rfl, Nat.le_refl _, fun _ _ _ => rfl⟩ (fun r e => by cases e)) hY W hs' ht' h0
theorem KP.put {s t : Nat} {w : World} (hs : s < w.heap.size) (ht : t < w.heap.size) (W : World) (l : Nat) (o o' : Obj) (hl : w.heap.size ≤ l) (h : W.heap[l]? = some o) (h1 : o.isCells = false) (h2 : o.isWalk = false) : KP s t W (W.putObj l o') :=
  have hb := belowK_b (n₀ := w.heap.size) (Nat.le_refl _) W l o o' hl h h1 h2
  ⟨hb.cell (p := ⟨s, 0, none⟩) hs, hb.cell (p := ⟨t, 0, none⟩) ht⟩
end Go.Proofs.Ytokdjonnblbegaa
