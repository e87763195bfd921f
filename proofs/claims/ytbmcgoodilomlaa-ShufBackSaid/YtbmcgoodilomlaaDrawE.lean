/- The statement's own draws. -/
import Derived.Test.YtbmcgoodilomlaaDrawD
namespace Go.Proofs.Ytbmcgoodilomlaa
open Go.RowKit
set_option linter.unusedVariables false
set_option linter.unusedSimpArgs false

/-- A slice of integers, with its cells in block bl. -/
def LsB (bl : Nat) (W : World) (A : Option Addr) (n c : Nat) (zs : List Int) : Prop :=
  zs.length = n ∧ n ≤ c ∧ c ≤ 9223372036854775807 ∧ (A = none → n = 0 ∧ c = 0) ∧ (n = 0 ∨ ∃ off, A = some ⟨bl, off, none⟩ ∧ bl < W.heap.size ∧ ∀ i, i < n → W.cell? ⟨bl, off + i, none⟩ = some (.int .i64 (zs.getD i 0)))
theorem LsB.keep {bl : Nat} {W W' : World} {A : Option Addr} {n c : Nat} {zs : List Int} (h : LsB bl W A n c zs) (hs : W.heap.size ≤ W'.heap.size) (hb : n ≠ 0 → bl < W.heap.size → W'.heap[bl]? = W.heap[bl]?) : LsB bl W' A n c zs := by
  obtain ⟨h1, h2, h3, hn, h⟩ := h
  by_cases h0 : n = 0
  · exact ⟨h1, h2, h3, hn, .inl h0⟩
  · rcases h with h | ⟨off, e, hl, hc⟩
    · exact ⟨h1, h2, h3, hn, .inl h⟩
    · exact ⟨h1, h2, h3, hn, .inr ⟨off, e, Nat.lt_of_lt_of_le hl hs, fun i hi => (World.cell?_of_block (hb h0 hl)).trans (hc i hi)⟩⟩
theorem LsB.below {bl : Nat} {W W' : World} {A : Option Addr} {n c : Nat} {zs : List Int} (h : LsB bl W A n c zs) (hb : Below W.heap.size W W') : LsB bl W' A n c zs := h.keep hb.size (fun _ => hb.block bl)
theorem LsB.ints {bl : Nat} {W : World} {A : Option Addr} {n c : Nat} {zs : List Int} (h : LsB bl W A n c zs) : Ints .i64 W A n zs := by
  obtain ⟨h1, h2, h3, _, h | ⟨off, e, hl, hc⟩⟩ := h
  · exact ⟨h1, .inl h⟩
  · exact ⟨h1, .inr ⟨bl, off, e, hl, by omega, hc⟩⟩
def RnPost (bl : Nat) (W : World) (zs : List Int) (k m : Int) (e : Ending) (w' : World) : Prop :=
  ∃ A' n' c', e = .returned (.tuple #[.int .i64 (nxV zs k m), .agg #[.slice A' n' c', .int .u64 (nxK zs k)]]) ∧ LsB bl w' A' n' c' zs.tail ∧ Below W.heap.size W w'
theorem rnext_low (A : Option Addr) (n c : Nat) (k m : Int) (W : World) (hm : m < 1) :
    Calls Try.prog 10 #[.agg #[.slice A n c, .int .u64 k], .int .i64 m] W fun e w' => e = .returned (.tuple #[.int .i64 0, .agg #[.slice A n c, .int .u64 k]]) ∧ Below W.heap.size W w' := by
  go_enter Try.func10, Try.ntmps10
  go_wp2_with fail
  go_region
  all_goals
    go_wp2
    refine bodyPost_ret (v := .tuple #[.int .i64 0, .agg #[.slice A n c, .int .u64 k]]) (by simp [results, Try.results10, go_sem]) rfl ⟨rfl, (alc (alc0 _ _) _).drew⟩
set_option maxHeartbeats 800000 in
theorem rnext_nil (bl : Nat) (A : Option Addr) (n c : Nat) (k m : Int) (W : World) (h : LsB bl W A n c []) (hm : 1 ≤ m) (hm2 : m ≤ 9223372036854775807) (hk : 0 ≤ k ∧ k ≤ 1000) :
    Calls Try.prog 10 #[.agg #[.slice A n c, .int .u64 k], .int .i64 m] W (RnPost bl W [] k m) := by
  obtain rfl : n = 0 := by simpa using h.1.symm
  have HL := Lib.hid h; clear h
  obtain ⟨k0, k1⟩ := hk
  have hm0 : ¬ m = 0 := by omega
  have hd0 : 0 ≤ (k + 1) * 2654435761 / 128 := Int.ediv_nonneg (by omega) (by omega)
  have hd1 : (k + 1) * 2654435761 / 128 ≤ 30000000000 := by omega
  have hr0 : 0 ≤ (k + 1) * 2654435761 / 128 % m := Int.emod_nonneg _ hm0
  have hr1 : (k + 1) * 2654435761 / 128 % m < m := Int.emod_lt_of_pos _ (by omega)
  go_enter Try.func10, Try.ntmps10
  go_wp2_with fail
  go_region
  all_goals
    go_wp2
    refine bodyPost_ret (v := .tuple #[.int .i64 (nxV [] k m), .agg #[.slice A 0 c, .int .u64 (nxK [] k)]]) (by simp [results, Try.results10, go_sem, nxV, nxK]) rfl ⟨A, 0, c, rfl, HL.out.below ?_, ?_⟩
    all_goals
      first
        | exact (alc (alc0 _ _) _).drew
        | exact (((alc (alc0 _ _) _).setCell (by simp) _).setCell (by simp) _).drew
set_option maxHeartbeats 800000 in
theorem rnext_cons (bl : Nat) (A : Option Addr) (n c : Nat) (x : Int) (zs : List Int) (k m : Int) (W : World) (h : LsB bl W A n c (x :: zs)) (hm : 1 ≤ m) (hm2 : m ≤ 9223372036854775807) (hx : -9223372036854775808 ≤ x ∧ x ≤ 9223372036854775807) :
    Calls Try.prog 10 #[.agg #[.slice A n c, .int .u64 k], .int .i64 m] W (RnPost bl W (x :: zs) k m) := by
  have HL := Lib.hid h
  obtain ⟨hl, hn, hc, hnil, hz⟩ := h
  clear hnil
  have hl2 : zs.length + 1 = n := by simpa using hl
  rcases hz with hz | ⟨off, rfl, b1, hcell⟩
  · omega
  · have hx0 := hcell 0 (by omega)
    simp only [Nat.add_zero, List.getD_cons_zero] at hx0
    have HN := Lib.hid hl2; clear hl hl2 hcell
    have hm0 : ¬ m = 0 := by omega
    obtain ⟨x1, x2⟩ := hx
    have n1 : (1 : Int) ≤ n := by have := HN.out; omega
    have n2 : 0 < n := by omega
    have nc : (n : Int) ≤ c := by omega
    obtain ⟨q, r, hq, hr, r0, r1, hqr⟩ := tmod_cases x m (by omega)
    have HR := Lib.hid hr; clear hr
    by_cases hc1 : c = 1
    all_goals
      rcases hqr with ⟨q0, q1⟩ | ⟨q0, q1⟩
      all_goals
        first
          | (obtain rfl := q1)
          | (obtain rfl : r = q + m := q1.symm)
        go_enter Try.func10, Try.ntmps10
        go_wp2_with fail
        go_region
        all_goals
          go_wp2
          first
            | (refine bodyPost_ret (v := .tuple #[.int .i64 (nxV (x :: zs) k m), .agg #[.slice (some ⟨bl, off, none⟩) (n - 1) 0, .int .u64 (nxK (x :: zs) k)]]) (by simp [results, Try.results10, go_sem, nxV, nxK, HR.out]) rfl ⟨some ⟨bl, off, none⟩, n - 1, 0, rfl, ?_, (alc (alc0 _ _) _).drew⟩
               exact ⟨by have := HN.out; simp; omega, by have := HN.out; omega, by omega, fun h => (by cases h), .inr ⟨off, rfl, by show bl < ((W.alloc _).alloc _).heap.size; simp; omega, fun i hi => by have := HN.out; omega⟩⟩)
            | (refine bodyPost_ret (v := .tuple #[.int .i64 (nxV (x :: zs) k m), .agg #[.slice (some ⟨bl, off + 1, none⟩) (n - 1) (c - 1), .int .u64 (nxK (x :: zs) k)]]) (by simp [results, Try.results10, go_sem, nxV, nxK, HR.out]) rfl ⟨some ⟨bl, off + 1, none⟩, n - 1, c - 1, rfl, ?_, (alc (alc0 _ _) _).drew⟩
               have hl3 := HL.out.below (alc (alc0 W (.cells #[.slice (some ⟨bl, off, none⟩) n c, .int .u64 k] 27)) (.cells #[.slice (some ⟨bl, off + 1, none⟩) (n - 1) (c - 1), .int .u64 k] 27)).drew
               obtain ⟨_, _, _, _, h | ⟨off2, e, hlt, hcell⟩⟩ := hl3
               · omega
               · injection e with e
                 injection e with e1 e2
                 subst e2
                 refine ⟨by have := HN.out; simp; omega, by omega, by omega, fun h => (by cases h), .inr ⟨off + 1, rfl, hlt, fun i hi => ?_⟩⟩
                 have := hcell (i + 1) (by omega)
                 simpa [Nat.add_assoc, Nat.add_comm 1 i] using this)
theorem rnext_any (bl : Nat) (A : Option Addr) (n c : Nat) (zs : List Int) (k m : Int) (W : World) (h : LsB bl W A n c zs) (hm : 1 ≤ m) (hm2 : m ≤ 9223372036854775807) (hk : 0 ≤ k ∧ k ≤ 1000) (hx : ∀ x ∈ zs, -9223372036854775808 ≤ x ∧ x ≤ 9223372036854775807) :
    Calls Try.prog 10 #[.agg #[.slice A n c, .int .u64 k], .int .i64 m] W (RnPost bl W zs k m) := by
  cases zs with
  | nil => exact rnext_nil bl A n c k m W h hm hm2 hk
  | cons x zs => exact rnext_cons bl A n c x zs k m W h hm hm2 (hx x (by simp))
def vV (zs : List Int) (k m : Int) : Int := if m < 1 then 0 else nxV zs k m
def vZ (zs : List Int) (m : Int) : List Int := if m < 1 then zs else zs.tail
def vK (zs : List Int) (k m : Int) : Int := if m < 1 then k else nxK zs k
theorem vK_bd (zs : List Int) (k m : Int) : k ≤ vK zs k m ∧ vK zs k m ≤ k + 1 := by unfold vK nxK; repeat' split
                                                                                    all_goals omega
theorem vZ_mem (zs : List Int) (m : Int) (x : Int) (h : x ∈ vZ zs m) : x ∈ zs := by
  unfold vZ at h
  split at h
  · exact h
  · exact List.mem_of_mem_tail h
theorem vZ_len (zs : List Int) (m : Int) : (vZ zs m).length ≤ zs.length := by
  unfold vZ; split
  · exact Nat.le_refl _
  · simp
def RaPost (bl : Nat) (W : World) (zs : List Int) (k m : Int) (e : Ending) (w' : World) : Prop :=
  ∃ A' n' c', e = .returned (.tuple #[.int .i64 (vV zs k m), .agg #[.slice A' n' c', .int .u64 (vK zs k m)]]) ∧ LsB bl w' A' n' c' (vZ zs m) ∧ Below W.heap.size W w'
theorem rnext_all (bl : Nat) (A : Option Addr) (n c : Nat) (zs : List Int) (k m : Int) (W : World) (h : LsB bl W A n c zs) (hm2 : m ≤ 9223372036854775807) (hk : 0 ≤ k ∧ k ≤ 1000) (hx : ∀ x ∈ zs, -9223372036854775808 ≤ x ∧ x ≤ 9223372036854775807) :
    Calls Try.prog 10 #[.agg #[.slice A n c, .int .u64 k], .int .i64 m] W (RaPost bl W zs k m) := by
  by_cases hm : m < 1
  · refine (rnext_low A n c k m W hm).mono fun e w' ⟨he, hb⟩ => ⟨A, n, c, ?_, ?_, hb⟩
    · rw [he, vV, vK, if_pos hm, if_pos hm]
    · rw [vZ, if_pos hm]; exact h.below hb
  · refine (rnext_any bl A n c zs k m W h (by omega) hm2 hk hx).mono fun e w' ⟨A', n', c', he, hl, hb⟩ => ⟨A', n', c', ?_, ?_, hb⟩
    · rw [he, vV, vK, if_neg hm, if_neg hm]
    · rw [vZ, if_neg hm]; exact hl
def DaPost (g b : Nat) (W : World) (zs : List Int) (k m : Int) (e : Ending) (w' : World) : Prop :=
  e = .returned (.int .i64 (vV zs k m)) ∧ DrB g b w' (vZ zs m) (vK zs k m) ∧ w'.heap.size = W.heap.size ∧ (∀ i, i ≠ g → w'.heap[i]? = W.heap[i]?) ∧ ∀ L, L ≤ g → Below L W w'
theorem dnext_all (g b : Nat) (zs : List Int) (k m : Int) (W : World) (h : DrB g b W zs k) (hm2 : m ≤ 9223372036854775807) (hk : 0 ≤ k ∧ k ≤ 1000) (hx : ∀ x ∈ zs, -9223372036854775808 ≤ x ∧ x ≤ 9223372036854775807) :
    Calls Try.prog 11 #[.pointer (some ⟨g, 0, none⟩), .int .i64 m] W (DaPost g b W zs k m) := by
  by_cases hm : m < 1
  · refine (dnext_low g m W hm).mono fun e w' ⟨he, hw⟩ => ?_
    subst hw
    exact ⟨by rw [he, vV, if_pos hm], by rw [vZ, vK, if_pos hm, if_pos hm]; exact h, rfl, fun _ _ => rfl, fun _ _ => Below.refl _ _⟩
  · refine (dnext_any g b zs k m W h (by omega) hm2 hk hx).mono fun e w' ⟨he, hd, o, u, hw⟩ => ?_
    subst hw
    exact ⟨by rw [he, vV, if_neg hm], by rw [vZ, vK, if_neg hm, if_neg hm]; exact hd, size_set _ _ _, fun i hi => heap_other W g o u i hi, fun L hL => (Below.refl _ _).setCell hL _⟩
/-- What the loop keeps: the draws (at g, their list in b), the statement's own (at q, their list in bl). -/
def DN (B0 g q : Nat) (w wr : World) (Zd : List Int) (Kd : Int) (Zr : List Int) (Kr : Int) (b bl : Nat) (A : Option Addr) (n c : Nat) : Prop :=
  DrB g b wr Zd Kd ∧ LsB bl wr A n c Zr ∧ (wr.cell? ⟨q, 0, none⟩ = some (.slice A n c) ∧ wr.cell? ⟨q, 1, none⟩ = some (.int .u64 Kr) ∧ wr.frozen? ⟨q, 0, none⟩ = false ∧ wr.frozen? ⟨q, 1, none⟩ = false ∧ q < wr.heap.size) ∧
  (g ≠ q ∧ b ≠ q ∧ (n = 0 ∨ (bl ≠ g ∧ bl ≠ b ∧ bl ≠ q))) ∧ (B0 ≤ g ∧ B0 ≤ b ∧ B0 ≤ q ∧ B0 ≤ wr.heap.size ∧ b < wr.heap.size) ∧ Below B0 w wr ∧ (∀ x ∈ Zd, -9223372036854775808 ≤ x ∧ x ≤ 9223372036854775807)
section
variable {B0 g q : Nat} {w wr : World} {Zd Zr : List Int} {Kd Kr : Int} {b bl : Nat} {A : Option Addr} {n c : Nat} (h : DN B0 g q w wr Zd Kd Zr Kr b bl A n c)
include h
theorem DN.dr : DrB g b wr Zd Kd := by obtain ⟨h, _⟩ := h; exact h
theorem DN.ls : LsB bl wr A n c Zr := by obtain ⟨_, h, _⟩ := h; exact h
theorem DN.len : Zr.length = n := by obtain ⟨_, ⟨h, _⟩, _⟩ := h; exact h
theorem DN.qs : wr.cell? ⟨q, 0, none⟩ = some (.slice A n c) ∧ wr.cell? ⟨q, 1, none⟩ = some (.int .u64 Kr) ∧ wr.frozen? ⟨q, 0, none⟩ = false ∧ wr.frozen? ⟨q, 1, none⟩ = false ∧ q < wr.heap.size := by obtain ⟨_, _, h, _⟩ := h; exact h
theorem DN.base : B0 ≤ wr.heap.size := by obtain ⟨_, _, _, _, ⟨_, _, _, h, _⟩, _⟩ := h; exact h
theorem DN.bB : b < wr.heap.size := by obtain ⟨_, _, _, _, ⟨_, _, _, _, h⟩, _⟩ := h; exact h
theorem DN.bel : Below B0 w wr := by obtain ⟨_, _, _, _, _, h, _⟩ := h; exact h
theorem DN.bds : ∀ x ∈ Zd, -9223372036854775808 ≤ x ∧ x ≤ 9223372036854775807 := by obtain ⟨_, _, _, _, _, _, h⟩ := h; exact h
end
theorem q_store {q : Nat} {W : World} {v0 v1 u0 u1 : Value} (h0 : W.cell? ⟨q, 0, none⟩ = some u0) (h1 : W.cell? ⟨q, 1, none⟩ = some u1) :
    ((W.setCell ⟨q, 0, none⟩ v0).setCell ⟨q, 1, none⟩ v1).cell? ⟨q, 0, none⟩ = some v0 ∧ ((W.setCell ⟨q, 0, none⟩ v0).setCell ⟨q, 1, none⟩ v1).cell? ⟨q, 1, none⟩ = some v1 := by
  constructor
  · rw [World.cell?_setCell_other _ _ _ _ (by simp)]; exact World.cell?_setCell_same _ _ _ h0
  · exact World.cell?_setCell_same _ _ _ (by rw [World.cell?_setCell_other _ _ _ _ (by simp)]; exact h1)
theorem DN.next {B0 g q : Nat} {w wr w9 : World} {Zd Zr Z' : List Int} {Kd Kr K' : Int} {b bl : Nat} {A A' : Option Addr} {n c n' c' : Nat} (h : DN B0 g q w wr Zd Kd Zr Kr b bl A n c) (hb : Below wr.heap.size wr w9) (hl : LsB bl w9 A' n' c' Z') (hle : Z'.length ≤ Zr.length) :
    DN B0 g q w ((w9.setCell ⟨q, 0, none⟩ (.slice A' n' c')).setCell ⟨q, 1, none⟩ (.int .u64 K')) Zd Kd Z' K' b bl A' n' c' := by
  obtain ⟨h1, h2, ⟨c0, c1, f0, f1, hq⟩, ⟨s1, s2, s3⟩, ⟨t1, t2, t3, t4, t5⟩, h6, h7⟩ := h
  have n0 : n = Zr.length := h2.1.symm
  have n1 : n' = Z'.length := hl.1.symm
  have hs := hb.size
  obtain ⟨q0, q1⟩ := q_store (v0 := .slice A' n' c') (v1 := .int .u64 K') ((hb.cell (p := ⟨q, 0, none⟩) hq).trans c0) ((hb.cell (p := ⟨q, 1, none⟩) hq).trans c1)
  refine ⟨((h1.below hb).far (Ne.symm s1) (Ne.symm s2)).far (Ne.symm s1) (Ne.symm s2), hl.keep (by simp only [size_set]; exact Nat.le_refl _) (fun hn _ => ?_), ⟨q0, q1, ?_, ?_, by simp only [size_set]; omega⟩, ⟨s1, s2, ?_⟩, ⟨t1, t2, t3, by simp only [size_set]; omega, by simp only [size_set]; omega⟩, ((h6.trans (hb.mono t4)).setCell t3 _).setCell t3 _, h7⟩
  · have : bl ≠ q := s3.elim (fun h => by omega) (fun h => h.2.2)
    rw [heap_other _ q 1 _ bl this, heap_other _ q 0 _ bl this]
  · simpa using (hb.frozen (p := ⟨q, 0, none⟩) hq).trans f0
  · simpa using (hb.frozen (p := ⟨q, 1, none⟩) hq).trans f1
  · rcases s3 with h | h
    · exact .inl (by omega)
    · exact .inr h
theorem DN.drawn {B0 g q : Nat} {w wr w9 : World} {Zd Zr Z' : List Int} {Kd Kr K' : Int} {b bl : Nat} {A : Option Addr} {n c : Nat} (h : DN B0 g q w wr Zd Kd Zr Kr b bl A n c) (hd : DrB g b w9 Z' K') (hs : w9.heap.size = wr.heap.size) (ho : ∀ i, i ≠ g → w9.heap[i]? = wr.heap[i]?) (hb : ∀ L, L ≤ g → Below L wr w9) (hz : ∀ x ∈ Z', x ∈ Zd) :
    DN B0 g q w w9 Z' K' Zr Kr b bl A n c := by
  obtain ⟨h1, h2, ⟨c0, c1, f0, f1, hq⟩, ⟨s1, s2, s3⟩, ⟨t1, t2, t3, t4, t5⟩, h6, h7⟩ := h
  have eq := ho q (Ne.symm s1)
  exact ⟨hd, h2.keep (by omega) (fun hn _ => ho bl (s3.elim (fun h => absurd h hn) (fun h => h.1))), ⟨(World.cell?_of_block eq).trans c0, (World.cell?_of_block eq).trans c1, (World.frozen?_of_block eq).trans f0, (World.frozen?_of_block eq).trans f1, by omega⟩, ⟨s1, s2, s3⟩, ⟨t1, t2, t3, by omega, by omega⟩, h6.trans (hb B0 t1), fun x hx => h7 x (hz x hx)⟩
theorem DN.add {B0 g q : Nat} {w W w9 : World} {Zd Zr Z' : List Int} {Kd Kr : Int} {b b' bl : Nat} {A : Option Addr} {n c : Nat} (h : DN B0 g q w W Zd Kd Zr Kr b bl A n c) (hb' : b' = b ∨ W.heap.size ≤ b') (hbB : b' < w9.heap.size) (hd : DrB g b' w9 Z' Kd) (hs : W.heap.size ≤ w9.heap.size) (ho : ∀ i, i < W.heap.size → i ≠ g → i ≠ b → w9.heap[i]? = W.heap[i]?) (hb : ∀ L, L ≤ g → L ≤ b → L ≤ W.heap.size → Below L W w9) (hz : ∀ x ∈ Z', -9223372036854775808 ≤ x ∧ x ≤ 9223372036854775807) :
    DN B0 g q w w9 Z' Kd Zr Kr b' bl A n c := by
  obtain ⟨h1, h2, ⟨c0, c1, f0, f1, hq⟩, ⟨s1, s2, s3⟩, ⟨t1, t2, t3, t4, t5⟩, h6, h7⟩ := h
  have eq := ho q hq (Ne.symm s1) (Ne.symm s2)
  have hbl : n = 0 ∨ bl < W.heap.size := by
    obtain ⟨_, _, _, _, h | ⟨off, _, h, _⟩⟩ := h2
    · exact .inl h
    · exact .inr h
  refine ⟨hd, h2.keep hs (fun hn hl => ho bl hl (s3.elim (fun h => absurd h hn) (fun h => h.1)) (s3.elim (fun h => absurd h hn) (fun h => h.2.1))), ⟨(World.cell?_of_block eq).trans c0, (World.cell?_of_block eq).trans c1, (World.frozen?_of_block eq).trans f0, (World.frozen?_of_block eq).trans f1, by omega⟩, ⟨s1, by omega, ?_⟩, ⟨t1, by omega, t3, by omega, hbB⟩, h6.trans (hb B0 t1 t2 t4), hz⟩
  rcases s3 with h | ⟨h3, h4, h5⟩
  · exact .inl h
  · rcases hbl with h | h
    · exact .inl h
    · exact .inr ⟨h3, by omega, h5⟩
theorem DN.list {B0 g q : Nat} {w W w9 : World} {Zd Zr Z' : List Int} {Kd Kr : Int} {b bl : Nat} {A A' : Option Addr} {n c N c' : Nat} (h : DN B0 g q w W Zd Kd Zr Kr b bl A n c) (hb : Below W.heap.size W w9) (hl : Z'.length = N) (hown : w9.ownsRow W.heap.size 3 1 (.slice A' N c') N (Z'.map (Value.int .i64))) :
    ∃ bl', DN B0 g q w (w9.setCell ⟨q, 0, none⟩ (.slice A' N c')) Zd Kd Z' Kr b bl' A' N c' := by
  obtain ⟨h1, h2, ⟨c0, c1, f0, f1, hq⟩, ⟨s1, s2, s3⟩, ⟨t1, t2, t3, t4, t5⟩, h6, h7⟩ := h
  have hs := hb.size
  obtain ⟨bl', hB, A2, c2, e, hl2, hn2, hc2, hz2⟩ := rowB_of hl hown
  injection e with e1 e2 e3
  subst e1 e3
  have hne : bl' ≠ q := by omega
  refine ⟨bl', ((h1.below hb).far (Ne.symm s1) (Ne.symm s2)), ⟨hl, hn2, hc2, ?_, ?_⟩, ⟨World.cell?_setCell_same _ _ _ ((hb.cell (p := ⟨q, 0, none⟩) hq).trans c0), ?_, ?_, ?_, by rw [size_set]; omega⟩, ⟨s1, s2, .inr ⟨by have := h1.1; omega, by omega, hne⟩⟩, ⟨t1, t2, t3, by rw [size_set]; omega, by rw [size_set]; omega⟩, (h6.trans (hb.mono t4)).setCell t3 _, h7⟩
  · rintro rfl
    rcases hz2 with ⟨_, a, b⟩ | ⟨e, _⟩
    · exact ⟨a, b⟩
    · cases e
  · rcases hz2 with ⟨_, a, _⟩ | ⟨e, q1, q2, _⟩
    · exact .inl a
    · exact .inr ⟨0, e, by rw [size_set]; exact q1, fun i hi => by rw [World.cell?_of_block (heap_other w9 q 0 _ bl' hne), Nat.zero_add]; exact q2 i hi⟩
  · rw [World.cell?_setCell_other _ _ _ _ (by simp)]; exact (hb.cell (p := ⟨q, 1, none⟩) hq).trans c1
  · simpa using (hb.frozen (p := ⟨q, 0, none⟩) hq).trans f0
  · simpa using (hb.frozen (p := ⟨q, 1, none⟩) hq).trans f1
theorem DN.drew {B0 g q : Nat} {w wr : World} {Zd Zr : List Int} {Kd Kr : Int} {b bl : Nat} {A : Option Addr} {n c : Nat} (h : DN B0 g q w wr Zd Kd Zr Kr b bl A n c) : DN B0 g q w wr.drew Zd Kd Zr Kr b bl A n c := by
  obtain ⟨h1, h2, h3, h4, h5, h6, h7⟩ := h
  exact ⟨h1, h2, h3, h4, h5, h6.drew, h7⟩
theorem ints_one (w : World) (x : Int) (t : TypeId) : Ints .i64 (w.alloc (.cells #[.int .i64 x] t)) (some ⟨w.heap.size, 0, none⟩) 1 [x] := by
  refine ⟨rfl, .inr ⟨w.heap.size, 0, rfl, by simp, by omega, fun i hi => ?_⟩⟩
  obtain rfl : i = 0 := by omega
  simp
theorem set_below {a b : World} {B g o : Nat} {v : Value} (h : Below B a b) (hg : B ≤ g) : Below B a (b.setCell ⟨g, o, none⟩ v) := h.setCell hg v
theorem d22awake (w : World) :
    Calls Try.prog 14 #[] w fun e w' => e = .returned (.bool true) ∧ Below w.heap.size w w' := by
  go_enter Try.func14, Try.ntmps14
  go_wp2_with fail
  refine (dnew_b _ _ _ _ _ (ints_one w (-1) 3) (by omega)).mono ?_
  rintro e w1 ⟨g, b, rfl, hd, hg, hb0, hb3, hb1⟩
  have HD := Lib.hid hd; clear hd
  go_wp2_with fail
  refine (dnext_any _ _ _ _ _ _ HD.out (by omega) (by omega) (by omega) (by simp)).mono ?_
  rintro e w2 ⟨rfl, _, o, u, rfl⟩
  have h2 : nxV [-1] 0 3 = 2 := by decide
  rw [h2]
  have HB2 : Hid (Below w.heap.size w (w1.setCell ⟨g, o, none⟩ u)) := Lib.hid (set_below ((alc0 _ _).trans (hb1.mono (by simp))) (by simp at hg; omega))
  generalize w1.setCell ⟨g, o, none⟩ u = w2 at *
  clear hb1 hb0 hb3 hg h2
  go_wp2_with fail
  refine (dnew_b _ _ _ _ _ (ints_one w2 4 3) (by omega)).mono ?_
  rintro e w3 ⟨g3, b3, rfl, hd3, _, _, _, hb3⟩
  have HD3 := Lib.hid hd3; clear hd3
  go_wp2_with fail
  refine (dleft_any _ _ _ _ _ HD3.out).mono ?_
  rintro e w4 ⟨rfl, rfl⟩
  have HB3 := Lib.hid ((alc HB2.out _).trans (hb3.mono (by have := HB2.out.size; simp; omega)))
  clear hb3
  go_wp2
  go_ret
  exact ⟨rfl, HB3.out⟩
end Go.Proofs.Ytbmcgoodilomlaa
