/- slices.Chunk's closure: the iterator's contract. -/
import Derived.RangeFuncNested
import Derived.RangeFuncBound
import Derived.RangeFuncCalls
import Derived.RangeFuncLeaves
import Derived.RangeFuncBox
import Derived.Shelf.Abstract
import Derived.Shelf.RegionOpen
import Derived.WalkKit
import Derived.OwnWalkIn
import Derived.TacticsInMore
import Derived.LoopNIn
import Derived.LoopIn
import Derived.RegionIn
import Derived.BigRegionIn
import Derived.RegionTactic
import Derived.ChangeAlike
import Derived.BigRegion
import Derived.Test.YtokdjonnblbegaaBaB
namespace Go.Proofs.Ytokdjonnblbegaa
set_option maxRecDepth 100000
open Go.RowKit Go.Shelf
set_option linter.unusedVariables false
set_option linter.unusedSimpArgs false
attribute [local go_sem] Oper.semAt_some

/-- A piece of a row of n numbers: where it begins, how many they are. -/
abbrev Pc (n k : Nat) : Type := { x : Nat × Nat // n = 0 ∨ k = 0 ∨ (1 ≤ x.2 ∧ x.2 ≤ k ∧ x.1 + x.2 ≤ n) }
def chG (n k j : Nat) : Pc n k :=
  if h : 1 ≤ k ∧ j * k < n then ⟨(j * k, min k (n - j * k)), .inr (.inr ⟨by omega, by simp only; omega, by simp only; omega⟩)⟩
  else ⟨(0, 1), by
    rcases Nat.eq_zero_or_pos n with h1 | h1
    · exact .inl h1
    · rcases Nat.eq_zero_or_pos k with h2 | h2
      · exact .inr (.inl h2)
      · exact .inr (.inr ⟨by omega, by simp only; omega, by simp only; omega⟩)⟩
theorem chG_val {n k j : Nat} (hk : 1 ≤ k) (h : j * k < n) : (chG n k j).1 = (j * k, min k (n - j * k)) := by
  unfold chG
  rw [dif_pos ⟨hk, h⟩]
def chU (n k m : Nat) : List (Pc n k) := (List.range m).map (chG n k)
theorem chU_succ (n k m : Nat) : chU n k (m + 1) = chU n k m ++ [chG n k m] := by simp [chU, List.range_succ]
theorem chU_length (n k m : Nat) : (chU n k m).length = m := by simp [chU]
def KP (s t : Nat) (A B : World) : Prop := B.cell? ⟨s, 0, none⟩ = A.cell? ⟨s, 0, none⟩ ∧ B.cell? ⟨t, 0, none⟩ = A.cell? ⟨t, 0, none⟩
theorem KP.trans {s t : Nat} {A B C : World} (h : KP s t A B) (g : KP s t B C) : KP s t A C := ⟨g.1.trans h.1, g.2.trans h.2⟩
def enS (b off : Nat) {n k : Nat} (x : Pc n k) : Array Value := #[.slice (some ⟨b, off + x.1.1, none⟩) x.1.2 x.1.2]
set_option maxHeartbeats 4000000 in
theorem chunk1_in (F : Fence) (N : Nat) (h7 : F.fn 20) (hro : F.round = none) (hN : 1 ≤ N) (l s t b off n c k : Nat) (hk : 1 ≤ k) (hk2 : k ≤ 4294967296) (hn2 : n ≤ 4294967296) (hnc : n ≤ c) (J Jx : List (Pc n k) → World → Prop) (hJd : ∀ u V, J u V → J u V.drew)
    (hY : ∀ pre x W, J pre W → pre.length < n → YieldAt F (N - 1) Try.prog l (enS b off x) W fun e W' =>
      (e = .returned (.bool true) ∧ J (pre ++ [x]) W' ∧ KP s t W W') ∨ (e = .returned (.bool false) ∧ Jx (pre ++ [x]) W'))
    (W : World) (hs : W.cell? ⟨s, 0, none⟩ = some (.slice (some ⟨b, off, none⟩) n c)) (ht : W.cell? ⟨t, 0, none⟩ = some (.int .i64 k)) (h0 : J [] W) :
    CallsIn F N Try.prog 20 #[.func (.yield l) #[] #[], .pointer (some ⟨s, 0, none⟩), .pointer (some ⟨t, 0, none⟩)] W fun e W' => (∃ v, e = .returned v) ∧
      ((∃ ys, (∃ m, ys = chU n k m ∧ n ≤ m * k ∧ ∀ i, i < m → i * k < n) ∧ J ys W') ∨ (∃ pre, True ∧ Jx pre W')) := by
  refine callsIn_of_wp Try.func20 rfl h7 ?_ hro
  simp only [Try.ntmps20, List.size_toArray, List.length_cons, List.length_nil, Nat.reduceAdd, Nat.reduceSub, Array.replicate_succ, Array.replicate_zero, List.push_toArray, List.append_toArray, List.nil_append, List.cons_append]
  gi_wp2
  gi_loopw [4] (fun i wr => ∃ m : Nat, (∀ i, i < m → i * k < n) ∧ i = .int .i64 ((m * k : Nat) : Int) ∧ m * k ≤ n + k ∧ J (chU n k m) wr ∧ wr.cell? ⟨s, 0, none⟩ = some (.slice (some ⟨b, off, none⟩) n c) ∧ wr.cell? ⟨t, 0, none⟩ = some (.int .i64 k))
    (fun i _ => n + k - (intOf i).toNat)
  case atStart => exact ⟨0, by simp, by simp, by simp, h0, hs, ht⟩
  case round =>
    obtain ⟨m, hm, rfl, hmk, hJs, hsr, htr⟩ := hrel
    by_cases hlt : m * k < n
    · have hmn : m < n := by
        rcases Nat.lt_or_ge m n with h | h
        · exact h
        · have := Nat.le_mul_of_pos_right m (show 0 < k by omega); omega
      obtain ⟨fn, tmps, assign, body, hy, hR⟩ := hY _ (chG n k m) wr.drew (hJd _ _ hJs) (by rw [chU_length]; exact hmn)
      have hcg := chG_val hk hlt
      simp only [enS, hcg] at hy hR
      have hsucc : (m + 1) * k = m * k + k := Nat.succ_mul m k
      have hms : ∀ i, i < m + 1 → i * k < n := fun i hi => by
        rcases Nat.lt_or_ge i m with h | h
        · exact hm i h
        · obtain rfl : i = m := by omega
          exact hlt
      have hUs := chU_succ n k m
      clear hcg
      generalize chG n k m = z at *
      generalize hq : m * k = q at *
      have h1 : (0 : Int) ≤ (q : Int) := by omega
      have h2 : (q : Int) ≤ (n : Int) := by omega
      have h3 : (q : Int) < (n : Int) := by omega
      have h4 : (n : Int) ≤ (c : Int) := by omega
      have hif : (if n - q < k then ((n - q : Nat) : Int) else (k : Int)) = ((min k (n - q) : Nat) : Int) := by
        split <;> omega
      have hmk' : min k (n - q) ≤ k := by omega
      have hmn' : q + min k (n - q) ≤ n := by omega
      have hpos : 1 ≤ min k (n - q) := by omega
      have hlast : q + k ≤ n + k := by omega
      generalize hme : min k (n - q) = e at *
      have h5 : (0 : Int) ≤ (q : Int) + (e : Int) := by omega
      have h6 : (q : Int) + (e : Int) ≤ (c : Int) := by omega
      have h7' : (q : Int) ≤ (q : Int) + (e : Int) := by omega
      have hsd : wr.drew.cell? ⟨s, 0, none⟩ = some (.slice (some ⟨b, off, none⟩) n c) := by simpa using hsr
      have htd : wr.drew.cell? ⟨t, 0, none⟩ = some (.int .i64 k) := by simpa using htr
      have hs3 : ∀ W3, KP s t wr.drew W3 → W3.cell? ⟨s, 0, none⟩ = some (.slice (some ⟨b, off, none⟩) n c) ∧ W3.cell? ⟨t, 0, none⟩ = some (.int .i64 k) := fun W3 h => ⟨h.1.trans hsd, h.2.trans htd⟩
      have he0 : ¬ e = 0 := by omega
      gi_wp2
      gi_region
      all_goals gi_wp2
      all_goals (refine hR.mono ?_)
      all_goals (rintro e3 W3 (⟨rfl, hJ3, hk3⟩ | ⟨rfl, hJx3⟩))
      all_goals first
        | (obtain ⟨hs4, ht4⟩ := hs3 W3 hk3
           gi_wp2
           go_roundw
           case rel => exact ⟨m + 1, hms, by rw [hsucc]; push_cast; rfl, by omega, by rw [hUs]; exact hJ3, hs4, ht4⟩
           case measure => simp [intOf]; omega)
        | (gi_wp2
           refine bodyPost_ret (results_none rfl _ _ _) rfl ?_
           exact ⟨⟨_, rfl⟩, .inr ⟨_, trivial, hJx3⟩⟩)
    · gi_wp2
      go_end0
      exact ⟨⟨_, rfl⟩, .inl ⟨_, ⟨m, rfl, by omega, hm⟩, hJs⟩⟩
end Go.Proofs.Ytokdjonnblbegaa
