/- Contracts of package draw, by blocks. -/
import Derived.Test.YtbmcgoodilomlaaRows
import Derived.Test.YtbmcgoodilomlaaInt
import Derived.Test.YtbmcgoodilomlaaInts0
import Derived.Test.YtbmcgoodilomlaaShelf
import Derived.WalkKit
import Derived.ProofKit
import Derived.OpenShut
import Derived.WalkLawsBesides
import Derived.WalkSpells
import Derived.Lib.Hide
namespace Go.Proofs.Ytbmcgoodilomlaa
open Go.RowKit
set_option linter.unusedVariables false
set_option linter.unusedSimpArgs false

theorem heap_other (W : World) (g o : Nat) (v : Value) (i : Nat) (h : i ≠ g) : (W.setCell ⟨g, o, none⟩ v).heap[i]? = W.heap[i]? := Below.heap_setCell W ⟨g, o, none⟩ v i h
theorem size_set (W : World) (p : Addr) (v : Value) : (W.setCell p v).heap.size = W.heap.size := by simp [World.setCell]
/-- Draws at block g: what is left of the list, in block b, and how many were drawn behind it. -/
def DrB (g b : Nat) (W : World) (zs : List Int) (k : Int) : Prop :=
  g < W.heap.size ∧ W.frozen? ⟨g, 0, none⟩ = false ∧ W.frozen? ⟨g, 1, none⟩ = false ∧ W.cell? ⟨g, 1, none⟩ = some (.int .u64 k) ∧
  ∃ A n c, W.cell? ⟨g, 0, none⟩ = some (.slice A n c) ∧ zs.length = n ∧ n ≤ c ∧ c ≤ 9223372036854775807 ∧
    ((A = none ∧ n = 0 ∧ c = 0) ∨ ∃ off, A = some ⟨b, off, none⟩ ∧ b < W.heap.size ∧ b ≠ g ∧ (∀ i, i < n → W.cell? ⟨b, off + i, none⟩ = some (.int .i64 (zs.getD i 0))) ∧ ∀ i, i < c → (W.cell? ⟨b, off + i, none⟩).isSome = true ∧ W.frozen? ⟨b, off + i, none⟩ = false)
theorem DrB.keep {g b : Nat} {W W' : World} {zs : List Int} {k : Int} (h : DrB g b W zs k) (hs : W.heap.size ≤ W'.heap.size) (hg : W'.heap[g]? = W.heap[g]?) (hb : b < W.heap.size → W'.heap[b]? = W.heap[b]?) : DrB g b W' zs k := by
  obtain ⟨h1, f0, f1, c1, A, n, c, c0, hl, hn, hc, hz⟩ := h
  refine ⟨Nat.lt_of_lt_of_le h1 hs, (World.frozen?_of_block hg).trans f0, (World.frozen?_of_block hg).trans f1, (World.cell?_of_block hg).trans c1, A, n, c, (World.cell?_of_block hg).trans c0, hl, hn, hc, ?_⟩
  rcases hz with hz | ⟨off, e, b1, b2, hcell, hsp⟩
  · exact .inl hz
  · have hb := hb b1
    exact .inr ⟨off, e, Nat.lt_of_lt_of_le b1 hs, b2, fun i hi => (World.cell?_of_block hb).trans (hcell i hi), fun i hi => ⟨by rw [World.cell?_of_block hb]; exact (hsp i hi).1, (World.frozen?_of_block hb).trans (hsp i hi).2⟩⟩
theorem DrB.below {g b : Nat} {W W' : World} {zs : List Int} {k : Int} (h : DrB g b W zs k) (hb : Below W.heap.size W W') : DrB g b W' zs k := h.keep hb.size (hb.block g h.1) (fun x => hb.block b x)
theorem DrB.far {g b h o : Nat} {W : World} {zs : List Int} {k : Int} {v : Value} (H : DrB g b W zs k) (hg : h ≠ g) (hb : h ≠ b) : DrB g b (W.setCell ⟨h, o, none⟩ v) zs k :=
  H.keep (by rw [size_set]; exact Nat.le_refl _) (heap_other W h o v g (Ne.symm hg)) (fun _ => heap_other W h o v b (Ne.symm hb))
def nxV (zs : List Int) (k m : Int) : Int := match zs with
  | x :: _ => x % m
  | [] => (k + 1) * 2654435761 / 128 % m
def nxK (zs : List Int) (k : Int) : Int := if zs = [] then k + 1 else k
def NxPost (g b : Nat) (W : World) (zs : List Int) (k m : Int) (e : Ending) (w' : World) : Prop :=
  e = .returned (.int .i64 (nxV zs k m)) ∧ DrB g b w' zs.tail (nxK zs k) ∧ ∃ o u, w' = W.setCell ⟨g, o, none⟩ u

theorem tmod_cases (d n : Int) (hn : 0 < n) : ∃ q r, d.tmod n = q ∧ d % n = r ∧ 0 ≤ r ∧ r < n ∧ (0 ≤ q ∧ q = r ∨ q < 0 ∧ q + n = r) := by
  refine ⟨_, _, rfl, rfl, Int.emod_nonneg d (by omega), Int.emod_lt_of_pos d hn, ?_⟩
  rcases Int.lt_or_le d 0 with h | h
  · have e := Int.emod_nonneg d (b := n) (by omega)
    have l := Int.emod_lt_of_pos d hn
    have t := Int.tmod_eq_emod (a := d) (b := n)
    by_cases hd : n ∣ d
    · rw [if_pos (Or.inr hd)] at t
      left; omega
    · rw [if_neg (by omega)] at t
      have : (n.natAbs : Int) = n := by omega
      right; omega
  · left
    rw [Int.tmod_eq_emod_of_nonneg h]
    exact ⟨Int.emod_nonneg d (by omega), rfl⟩

theorem dnext_low (g : Nat) (m : Int) (W : World) (hm : m < 1) :
    Calls Try.prog 11 #[.pointer (some ⟨g, 0, none⟩), .int .i64 m] W fun e w' => e = .returned (.int .i64 0) ∧ W = w' := by
  go_enter Try.func11, Try.ntmps11
  go_wp2
  go_ret
  exact ⟨rfl, rfl⟩

theorem addp (b off : Nat) (i : Nat) : (⟨b, off, none⟩ : Addr).add i = ⟨b, off + i, none⟩ := by unfold Addr.add; split <;> simp_all


theorem dnext_nil (g b : Nat) (k m : Int) (W : World) (h : DrB g b W [] k) (hm : 1 ≤ m) (hm2 : m ≤ 9223372036854775807) (hk : 0 ≤ k ∧ k ≤ 1000) :
    Calls Try.prog 11 #[.pointer (some ⟨g, 0, none⟩), .int .i64 m] W (NxPost g b W [] k m) := by
  have H0 := Lib.hid h
  obtain ⟨h1, f0, f1, c1, A, n, c, c0, hl, hn, hc, hz⟩ := h
  obtain rfl : n = 0 := by simpa using hl.symm
  have HZ := Lib.hid hz
  obtain ⟨k0, k1⟩ := hk
  have hm0 : ¬ m = 0 := by omega
  have hd0 : 0 ≤ (k + 1) * 2654435761 / 128 := Int.ediv_nonneg (by omega) (by omega)
  have hd1 : (k + 1) * 2654435761 / 128 ≤ 30000000000 := by omega
  have hr0 : 0 ≤ (k + 1) * 2654435761 / 128 % m := Int.emod_nonneg _ hm0
  have hr1 : (k + 1) * 2654435761 / 128 % m < m := Int.emod_lt_of_pos _ (by omega)
  clear hz
  go_enter Try.func11, Try.ntmps11
  go_wp2
  go_ret
  refine ⟨rfl, ?_, 1, _, rfl⟩
  refine ⟨by rw [size_set]; exact h1, ?_, ?_, ?_, A, 0, c, ?_, rfl, hn, hc, ?_⟩
  · go_simp
  · go_simp
  · go_simp; rfl
  · go_simp
  · rcases HZ.out with hz | ⟨off, e, b1, b2, hcell, hsp⟩
    · exact .inl ⟨hz.1, rfl, hz.2.2⟩
    · have hb := heap_other W g 1 (.int .u64 (k + 1)) b b2
      refine .inr ⟨off, e, by rw [size_set]; exact b1, b2, fun i hi => by omega, fun i hi => ⟨?_, ?_⟩⟩
      · rw [World.cell?_of_block (heap_other W g _ _ b b2)]; exact (hsp i hi).1
      · rw [World.frozen?_of_block (heap_other W g _ _ b b2)]; exact (hsp i hi).2
theorem dnext_cons (g b : Nat) (x : Int) (zs : List Int) (k m : Int) (W : World) (h : DrB g b W (x :: zs) k) (hm : 1 ≤ m) (hm2 : m ≤ 9223372036854775807) (hx : -9223372036854775808 ≤ x ∧ x ≤ 9223372036854775807) :
    Calls Try.prog 11 #[.pointer (some ⟨g, 0, none⟩), .int .i64 m] W (NxPost g b W (x :: zs) k m) := by
  obtain ⟨h1, f0, f1, c1, A, n, c, c0, hl, hn, hc, hz⟩ := h
  have hl2 : zs.length + 1 = n := by simpa using hl
  rcases hz with hz | ⟨off, rfl, b1, b3, hcell, hsp⟩
  · omega
  · have hx0 := hcell 0 (by omega)
    simp only [Nat.add_zero, List.getD_cons_zero] at hx0
    have HC := Lib.hid (And.intro hcell hsp); clear hcell hsp
    have HL := Lib.hid hl2; clear hl hl2
    have hm0 : ¬ m = 0 := by omega
    obtain ⟨x1, x2⟩ := hx
    have n0 : ((n : Int) == 0) = false := by rw [beq_eq_false_iff_ne]; have := HL.out; omega
    have n1 : (1 : Int) ≤ n := by have := HL.out; omega
    have n2 : 0 < n := by omega
    have nc : (n : Int) ≤ c := by omega
    obtain ⟨q, r, hq, hr, r0, r1, hqr⟩ := tmod_cases x m (by omega)
    have hgb : ¬ g = b := fun e => b3 e.symm
    have HR := Lib.hid hr; clear hr
    by_cases hc1 : c = 1
    all_goals
      rcases hqr with ⟨q0, q1⟩ | ⟨q0, q1⟩
      all_goals
        first
          | (obtain rfl := q1)
          | (obtain rfl : r = q + m := q1.symm)
        go_enter Try.func11, Try.ntmps11
        go_wp2
        go_ret
        refine ⟨ret_int (by rw [nxV]; exact HR.out.symm), ?_, 0, _, rfl⟩
        have hk : nxK (x :: zs) k = k := by rw [nxK, if_neg (by simp)]
        rw [hk]
        first
          | (refine ⟨by rw [size_set]; exact h1, ?_, ?_, ?_, some ⟨b, off, none⟩, n - 1, 0, ?_, by have := HL.out; simp; omega, by have := HL.out; omega, by omega, .inr ⟨off, rfl, by rw [size_set]; exact b1, b3, fun i hi => by have := HL.out; omega, fun i hi => by omega⟩⟩
             all_goals go_simp
             done)
          | (refine ⟨by rw [size_set]; exact h1, ?_, ?_, ?_, some ⟨b, off + 1, none⟩, n - 1, c - 1, ?_, by have := HL.out; simp; omega, by omega, by omega, ?_⟩
             · go_simp
             · go_simp
             · go_simp
             · go_simp
             · refine .inr ⟨off + 1, rfl, by rw [size_set]; exact b1, b3, fun i hi => ?_, fun i hi => ?_⟩
               · have := HC.out.1 (i + 1) (by omega)
                 rw [World.cell?_of_block (heap_other W g 0 _ b b3)]
                 simpa [Nat.add_assoc, Nat.add_comm 1 i] using this
               · have := HC.out.2 (i + 1) (by omega)
                 rw [World.cell?_of_block (heap_other W g 0 _ b b3), World.frozen?_of_block (heap_other W g 0 _ b b3)]
                 simpa [Nat.add_assoc, Nat.add_comm 1 i] using this)
theorem dnext_any (g b : Nat) (zs : List Int) (k m : Int) (W : World) (h : DrB g b W zs k) (hm : 1 ≤ m) (hm2 : m ≤ 9223372036854775807) (hk : 0 ≤ k ∧ k ≤ 1000) (hx : ∀ x ∈ zs, -9223372036854775808 ≤ x ∧ x ≤ 9223372036854775807) :
    Calls Try.prog 11 #[.pointer (some ⟨g, 0, none⟩), .int .i64 m] W (NxPost g b W zs k m) := by
  cases zs with
  | nil => exact dnext_nil g b k m W h hm hm2 hk
  | cons x zs => exact dnext_cons g b x zs k m W h hm hm2 (hx x (by simp))
theorem nxV_bd (zs : List Int) (k m : Int) (hm : 1 ≤ m) : 0 ≤ nxV zs k m ∧ nxV zs k m < m := by
  unfold nxV
  split
  · exact ⟨Int.emod_nonneg _ (by omega), Int.emod_lt_of_pos _ (by omega)⟩
  · exact ⟨Int.emod_nonneg _ (by omega), Int.emod_lt_of_pos _ (by omega)⟩
theorem nnext_any (m : Int) (W : World) : Calls Try.prog 11 #[.pointer none, .int .i64 m] W fun e w' => e = .returned (.int .i64 0) ∧ W = w' := by
  go_enter Try.func11, Try.ntmps11
  go_wp2
  go_ret
  exact ⟨rfl, rfl⟩
theorem nleft_any (W : World) : Calls Try.prog 12 #[.pointer none] W fun e w' => e = .returned (.int .i64 0) ∧ W = w' := by
  go_enter Try.func12, Try.ntmps12
  go_wp2
  go_ret
  exact ⟨rfl, rfl⟩
theorem nadd_any (v : Value) (W : World) : Calls Try.prog 13 #[.pointer none, v] W fun e w' => e = .returned (.tuple #[]) ∧ W = w' := by
  go_enter Try.func13, Try.ntmps13
  go_wp2
  go_end0
  exact ⟨rfl, rfl⟩
theorem dleft_any (g b : Nat) (zs : List Int) (k : Int) (W : World) (h : DrB g b W zs k) :
    Calls Try.prog 12 #[.pointer (some ⟨g, 0, none⟩)] W fun e w' => e = .returned (.int .i64 zs.length) ∧ W = w' := by
  obtain ⟨h1, f0, f1, c1, A, n, c, c0, hl, hn, hc, hz⟩ := h
  subst hl
  clear hz
  go_enter Try.func12, Try.ntmps12
  go_wp2
  go_ret
  exact ⟨rfl, rfl⟩
end Go.Proofs.Ytbmcgoodilomlaa
