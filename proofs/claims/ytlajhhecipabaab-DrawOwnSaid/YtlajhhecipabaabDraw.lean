/- Contracts of package draw. -/
import Derived.Test.YtlajhhecipabaabRows
import Derived.Test.YtlajhhecipabaabInt
import Derived.Test.YtlajhhecipabaabInts0
import Derived.Test.YtlajhhecipabaabShelf
import Derived.WalkKit
import Derived.ProofKit
import Derived.OpenShut
import Derived.WalkLawsBesides
import Derived.WalkSpells
import Derived.Lib.Hide
namespace Go.Proofs.Ytlajhhecipabaab
open Go.RowKit
set_option linter.unusedVariables false
set_option linter.unusedSimpArgs false

/-- Draws at block g: what is left of the list, and how many were drawn behind it; all its memory lies from lo on, below hi. -/
def DrIs (lo hi g : Nat) (W : World) (zs : List Int) (k : Int) : Prop :=
  (lo ≤ g ∧ g < hi ∧ hi ≤ W.heap.size) ∧ W.frozen? ⟨g, 0, none⟩ = false ∧ W.frozen? ⟨g, 1, none⟩ = false ∧ W.cell? ⟨g, 1, none⟩ = some (.int .u64 k) ∧
  ∃ A n c, W.cell? ⟨g, 0, none⟩ = some (.slice A n c) ∧ zs.length = n ∧ n ≤ c ∧ c ≤ 9223372036854775807 ∧
    (n = 0 ∨ ∃ b off, A = some ⟨b, off, none⟩ ∧ lo ≤ b ∧ b < hi ∧ b ≠ g ∧ ∀ i, i < n → W.cell? ⟨b, off + i, none⟩ = some (.int .i64 (zs.getD i 0)))

theorem DrIs.keep {lo hi g : Nat} {W W' : World} {zs : List Int} {k : Int} (h : DrIs lo hi g W zs k) (hs : W.heap.size ≤ W'.heap.size) (hk : ∀ i, lo ≤ i → i < hi → W'.heap[i]? = W.heap[i]?) : DrIs lo hi g W' zs k := by
  obtain ⟨⟨h1, h2, h3⟩, f0, f1, c1, A, n, c, c0, hl, hn, hc, hz⟩ := h
  have hg := hk g h1 h2
  refine ⟨⟨h1, h2, by omega⟩, (World.frozen?_of_block hg).trans f0, (World.frozen?_of_block hg).trans f1, (World.cell?_of_block hg).trans c1, A, n, c, (World.cell?_of_block hg).trans c0, hl, hn, hc, ?_⟩
  rcases hz with hz | ⟨b, off, e, b1, b2, b3, hcell⟩
  · exact .inl hz
  · exact .inr ⟨b, off, e, b1, b2, b3, fun i hi => (World.cell?_of_block (hk b b1 b2)).trans (hcell i hi)⟩
theorem DrIs.below {lo hi g B : Nat} {W W' : World} {zs : List Int} {k : Int} (h : DrIs lo hi g W zs k) (hb : Below B W W') (hB : hi ≤ B) (hs : W.heap.size ≤ W'.heap.size) : DrIs lo hi g W' zs k :=
  h.keep hs fun i _ hi => hb.block i (by omega)
theorem heap_other (W : World) (g o : Nat) (v : Value) (i : Nat) (h : i ≠ g) : (W.setCell ⟨g, o, none⟩ v).heap[i]? = W.heap[i]? := Below.heap_setCell W ⟨g, o, none⟩ v i h
theorem size_set (W : World) (p : Addr) (v : Value) : (W.setCell p v).heap.size = W.heap.size := by simp [World.setCell]
theorem DrIs.far {lo hi g h o : Nat} {W : World} {zs : List Int} {k : Int} {v : Value} (H : DrIs lo hi g W zs k) (hh : h < lo ∨ hi ≤ h) : DrIs lo hi g (W.setCell ⟨h, o, none⟩ v) zs k :=
  H.keep (by rw [size_set]; exact Nat.le_refl _) fun i h1 h2 => heap_other W h o v i (by omega)

def nxV (zs : List Int) (k m : Int) : Int := match zs with
  | x :: _ => x % m
  | [] => (k + 1) * 2654435761 / 128 % m
def nxK (zs : List Int) (k : Int) : Int := if zs = [] then k + 1 else k
def NxPost (lo hi g : Nat) (W : World) (zs : List Int) (k m : Int) (e : Ending) (w' : World) : Prop :=
  e = .returned (.int .i64 (nxV zs k m)) ∧ DrIs lo hi g w' zs.tail (nxK zs k) ∧ ∃ o u, w' = W.setCell ⟨g, o, none⟩ u

theorem tmod_cases (d n : Int) (hn : 0 < n) : ∃ q r, d.tmod n = q ∧ d % n = r ∧ 0 ≤ r ∧ r < n ∧ (0 ≤ q ∧ q = r ∨ q < 0 ∧ q + n = r) := by
  refine ⟨_, _, rfl, rfl, Int.emod_nonneg d (by omega), Int.emod_lt_of_pos d hn, ?_⟩
  rcases Int.lt_or_le d 0 with h | h
  · have e := Int.emod_nonneg d (b := n) (by omega)
    have l := Int.emod_lt_of_pos d hn
    have t := Int.tmod_eq_emod (a := d) (b := n)
    by_cases hd : n ∣ d
    · rw [if_pos (Or.inr hd)] at t
      left; omega
    · rw [if_neg (by omega)] at t
      have : (n.natAbs : Int) = n := by omega
      right; omega
  · left
    rw [Int.tmod_eq_emod_of_nonneg h]
    exact ⟨Int.emod_nonneg d (by omega), rfl⟩

theorem dnext_low (g : Nat) (m : Int) (W : World) (hm : m < 1) :
    Calls Try.prog 13 #[.pointer (some ⟨g, 0, none⟩), .int .i64 m] W fun e w' => e = .returned (.int .i64 0) ∧ W = w' := by
  go_enter Try.func13, Try.ntmps13
  go_wp2
  go_ret
  exact ⟨rfl, rfl⟩

theorem dnext_nil (lo hi g : Nat) (k m : Int) (W : World) (h : DrIs lo hi g W [] k) (hm : 1 ≤ m) (hm2 : m ≤ 9223372036854775807) (hk : 0 ≤ k ∧ k ≤ 1000) :
    Calls Try.prog 13 #[.pointer (some ⟨g, 0, none⟩), .int .i64 m] W (NxPost lo hi g W [] k m) := by
  obtain ⟨⟨h1, h2, h3⟩, f0, f1, c1, A, n, c, c0, hl, hn, hc, hz⟩ := h
  obtain rfl : n = 0 := by simpa using hl.symm
  obtain ⟨k0, k1⟩ := hk
  have hm0 : ¬ m = 0 := by omega
  have hd0 : 0 ≤ (k + 1) * 2654435761 / 128 := Int.ediv_nonneg (by omega) (by omega)
  have hd1 : (k + 1) * 2654435761 / 128 ≤ 30000000000 := by omega
  have hr0 : 0 ≤ (k + 1) * 2654435761 / 128 % m := Int.emod_nonneg _ hm0
  have hr1 : (k + 1) * 2654435761 / 128 % m < m := Int.emod_lt_of_pos _ (by omega)
  go_enter Try.func13, Try.ntmps13
  go_wp2
  go_ret
  refine ⟨rfl, ?_, 1, _, rfl⟩
  refine ⟨⟨h1, h2, by rw [size_set]; exact h3⟩, ?_, ?_, ?_, A, 0, c, ?_, rfl, hn, hc, .inl rfl⟩
  all_goals go_simp
  all_goals rfl

theorem addp (b off : Nat) (i : Nat) : (⟨b, off, none⟩ : Addr).add i = ⟨b, off + i, none⟩ := by unfold Addr.add; split <;> simp_all

theorem dnext_cons (lo hi g : Nat) (x : Int) (zs : List Int) (k m : Int) (W : World) (h : DrIs lo hi g W (x :: zs) k) (hm : 1 ≤ m) (hm2 : m ≤ 9223372036854775807) (hx : -9223372036854775808 ≤ x ∧ x ≤ 9223372036854775807) :
    Calls Try.prog 13 #[.pointer (some ⟨g, 0, none⟩), .int .i64 m] W (NxPost lo hi g W (x :: zs) k m) := by
  obtain ⟨⟨h1, h2, h3⟩, f0, f1, c1, A, n, c, c0, hl, hn, hc, hz⟩ := h
  have hl2 : zs.length + 1 = n := by simpa using hl
  rcases hz with hz | ⟨b, off, rfl, b1, b2, b3, hcell⟩
  · omega
  · have hx0 := hcell 0 (by omega)
    simp only [Nat.add_zero, List.getD_cons_zero] at hx0
    have HC := Lib.hid hcell; clear hcell
    have HL := Lib.hid hl2; clear hl hl2
    have hm0 : ¬ m = 0 := by omega
    obtain ⟨x1, x2⟩ := hx
    have n0 : ((n : Int) == 0) = false := by rw [beq_eq_false_iff_ne]; have := HL.out; omega
    have n1 : (1 : Int) ≤ n := by have := HL.out; omega
    have n2 : 0 < n := by omega
    have nc : (n : Int) ≤ c := by omega
    obtain ⟨q, r, hq, hr, r0, r1, hqr⟩ := tmod_cases x m (by omega)
    have hgb : ¬ g = b := fun e => b3 e.symm
    have HR := Lib.hid hr; clear hr
    by_cases hc1 : c = 1
    all_goals
      rcases hqr with ⟨q0, q1⟩ | ⟨q0, q1⟩
      all_goals
        first
          | (obtain rfl := q1)
          | (obtain rfl : r = q + m := q1.symm)
        go_enter Try.func13, Try.ntmps13
        go_wp2
        go_ret
        refine ⟨ret_int (by rw [nxV]; exact HR.out.symm), ?_, 0, _, rfl⟩
        have hk : nxK (x :: zs) k = k := by rw [nxK, if_neg (by simp)]
        rw [hk]
        first
          | (refine ⟨⟨h1, h2, by rw [size_set]; exact h3⟩, ?_, ?_, ?_, some ⟨b, off, none⟩, n - 1, 0, ?_, by have := HL.out; simp; omega, by have := HL.out; omega, by omega, .inl (by omega)⟩
             all_goals go_simp
             done)
          | (refine ⟨⟨h1, h2, by rw [size_set]; exact h3⟩, ?_, ?_, ?_, some ⟨b, off + 1, none⟩, n - 1, c - 1, ?_, by have := HL.out; simp; omega, by omega, by omega, ?_⟩
             · go_simp
             · go_simp
             · go_simp
             · go_simp
             · refine .inr ⟨b, off + 1, rfl, b1, b2, b3, fun i hi => ?_⟩
               have := HC.out (i + 1) (by omega)
               rw [World.cell?_of_block (heap_other W g 0 _ b b3)]
               simpa [Nat.add_assoc, Nat.add_comm 1 i] using this)
end Go.Proofs.Ytlajhhecipabaab
