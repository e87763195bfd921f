/- The store: Read. -/
import Derived.Test.YtgidnmjeifgciaaDoorSoE
namespace Go.Proofs.YtgidnmjeifgciaaDoor
set_option maxRecDepth 100000
open Go.RowKit Go.ChangeMaps Go.MapKept
open Go.Maps (Keyed)
set_option linter.unusedVariables false
set_option linter.unusedSimpArgs false

theorem STL.far {B g b D : Nat} {W W' : World} {l : List (Nat × Nat)} {c : Nat → Nat} (h : STL B g b W l c) (hs : W.heap.size ≤ W'.heap.size) (ho : ∀ i, i < W.heap.size → i ≠ D → W'.heap[i]? = W.heap[i]?) (hg : g ≠ D) (hb : b ≠ D) (hl : ∀ pq ∈ l, pq.2 ≠ D) : STL B g b W' l c := by
  obtain ⟨h1, ⟨h2, h3, h4, h5, h6⟩, h7, h8, h9⟩ := h
  exact ⟨(World.cell?_of_block (ho g h5 hg)).trans h1, ⟨h2, h3, h4, Nat.lt_of_lt_of_le h5 hs, Nat.lt_of_lt_of_le h6 hs⟩, h7.keep (ho b h6 hb), fun pq hpq => by
    obtain ⟨k1, k2, k3, k4⟩ := h8 pq hpq
    exact ⟨k1, k2, k3, k4.keep hs (ho pq.2 k4.1 (hl pq hpq))⟩, h9⟩
theorem PGn.congr {D n : Nat} {W : World} {f f' : Nat → Nat} (h : PGn D n W f) (e : ∀ j, j < n → f j = f' j) : PGn D n W f' := ⟨h.1, fun j hj => by rw [← e j hj]; exact h.2.1 j hj, h.2.2⟩
theorem sread_no (p : Option Addr) (a n : Int) (W : World) (h : p = none ∨ mayB a n = false) : Calls Tryd.prog 77 #[.pointer p, .int .i64 a, .int .i64 n] W fun e w' => e = .returned (.slice none 0 0) ∧ Below W.heap.size W w' := by
  have hf : (decide (p ≠ none) && mayB a n) = false := by
    rcases h with h | h
    · simp [h]
    · simp [h]
  have HF := Lib.hid hf
  clear h hf
  go_enter Tryd.func77, Tryd.ntmps77
  go_wp2_with fail
  with_reducible refine Calls.mono (smay p a n _) ?_
  rintro e w1 ⟨rfl, hb⟩
  rw [HF.out]
  have HB : Hid (Below W.heap.size W w1) := Lib.hid (thn (alc0 _ _) hb)
  clear hb
  go_wp2
  go_ret
  exact ⟨rfl, HB.out⟩
set_option maxRecDepth 100000 in
set_option maxHeartbeats 3200000 in
theorem sread_yes (B g : Nat) (W : World) (c : Nat → Nat) (h : ST B g W c) (a n : Nat) (hn : 0 < n) (ha : a + n ≤ 262144) : Calls Tryd.prog 77 #[.pointer (some ⟨g, 0, none⟩), .int .i64 (a : Int), .int .i64 (n : Int)] W fun e w' => (∃ D, e = .returned (.slice (some ⟨D, 0, none⟩) n n) ∧ W.heap.size ≤ D ∧ PGn D n w' (fun j => c (a + j))) ∧ Below W.heap.size W w' := by
  obtain ⟨b, l, h⟩ := h
  have H := Lib.hid h
  have HQ : Hid (g < W.heap.size ∧ b < W.heap.size ∧ ∀ pq ∈ l, pq.2 < W.heap.size) := Lib.hid ⟨h.2.1.2.2.2.1, h.2.1.2.2.2.2, fun pq hpq => (h.2.2.2.1 pq hpq).2.2.2.1⟩
  have hmay : (decide (some (⟨g, 0, none⟩ : Addr) ≠ none) && mayB (a : Int) (n : Int)) = true := by
    have : mayB (a : Int) (n : Int) = true := mayB_iff.2 (by omega)
    simp [this]
  have HM := Lib.hid hmay
  clear h hmay
  go_enter Tryd.func77, Tryd.ntmps77
  go_wp2_with fail
  with_reducible refine Calls.mono (smay _ _ _ _) ?_
  rintro e w1 ⟨rfl, hb⟩
  rw [HM.out]
  obtain ⟨x3, hx3⟩ : ∃ x3, W.heap.size = x3 := ⟨_, rfl⟩
  have hz1 : x3 < w1.heap.size := by have := hb.size; simp at this; omega
  have hc3 : w1.cell? ⟨x3, 0, none⟩ = some (.pointer (some ⟨g, 0, none⟩)) := by
    rw [← hx3]
    exact (hb.cell (p := ⟨W.heap.size, 0, none⟩) (by simp)).trans (by simp)
  have HC3 := Lib.hid hc3
  have HB1 : Hid (Below W.heap.size W w1) := Lib.hid (thn (alc0 _ _) hb)
  have HX3 := Lib.hid hx3
  try rw [hx3]
  clear hb hx3
  have hmk := fun W => mkN n (by omega) W
  go_wp2_with fail
  have hDW : W.heap.size ≤ w1.heap.size := HB1.out.size
  obtain ⟨w4, hw4⟩ : ∃ w4, (w1.alloc (.cells (madeCells #[.int .u8 0] n) 5)).alloc (.cells #[.slice (some ⟨w1.heap.size, 0, none⟩) n n] 35) = w4 := ⟨_, rfl⟩
  have hz4 : w4.heap.size = w1.heap.size + 2 := by rw [← hw4]; simp
  have hB4 : Below w1.heap.size w1 w4 := by rw [← hw4]; exact alc (alc0 _ _) _
  have hc7 : w4.cell? ⟨w1.heap.size + 1, 0, none⟩ = some (.slice (some ⟨w1.heap.size, 0, none⟩) n n) := by rw [← hw4]; simp
  have hPG : PGn w1.heap.size n w4 (fun _ => 0) := by
    rw [← hw4]
    refine PGn.keep (W := w1.alloc (.cells (madeCells #[.int .u8 0] n) 5)) ⟨by simp, fun j hj => made_cell w1 n _ j hj, fun o => made_frozen w1 n _ o⟩ (by simp) (Below.heap_alloc _ _ _ (by simp))
  obtain ⟨D, hD⟩ : ∃ D, w1.heap.size = D := ⟨_, rfl⟩
  rw [hw4]
  rw [hD] at hz4 hB4 hc7 hPG hDW hz1 ⊢
  have hx3D : x3 ≠ D := by omega
  have hQ := HQ.out
  have hx3W := HX3.out
  clear hmk
  have hBW4 : Below W.heap.size W w4 := HB1.out.trans (hB4.mono hDW)
  have hST4 : STL B g b w4 l c := H.out.below hBW4
  have hc34 : w4.cell? ⟨x3, 0, none⟩ = some (.pointer (some ⟨g, 0, none⟩)) := (hB4.cell (p := ⟨x3, 0, none⟩) hz1).trans HC3.out
  have key := eachR (.pointer (some ⟨x3, 0, none⟩)) (.pointer (some ⟨D + 1, 0, none⟩)) a n hn ha w4 (fun at_ w => STL B g b w l c ∧ w.cell? ⟨x3, 0, none⟩ = some (.pointer (some ⟨g, 0, none⟩)) ∧ w.cell? ⟨D + 1, 0, none⟩ = some (.slice (some ⟨D, 0, none⟩) n n) ∧ PGn D n w (fun j => if j < at_ - a then c (a + j) else 0) ∧ Below W.heap.size W w ∧ D + 2 ≤ w.heap.size)
    (fun at_ w w' ⟨k1, k2, k3, k4, k5, k6⟩ hb => ⟨k1.below hb, (hb.cell (p := ⟨x3, 0, none⟩) (by show x3 < w.heap.size; omega)).trans k2, (hb.cell (p := ⟨D + 1, 0, none⟩) (by show D + 1 < w.heap.size; omega)).trans k3, k4.keep hb.size (hb.block D (by omega)), k5.trans (hb.mono k5.size), Nat.le_trans k6 hb.size⟩)
    (fun at_ w ha1 ha2 hw ⟨k1, k2, k3, k4, k5, k6⟩ => by
      obtain ⟨R, hR⟩ : ∃ R, at_ % 256 = R := ⟨_, rfl⟩
      obtain ⟨T, hT⟩ : ∃ T, min 256 (R + (a + n - at_)) = T := ⟨_, rfl⟩
      rw [hR, hT]
      refine (readC B g b x3 (D + 1) D n (at_ / 256) R T (at_ - a) w l c _ k1 k2 k3 (by omega) k4 (by omega) (by omega) (by omega) (by omega) (by omega) (fun k hk => if_neg (by omega))).mono ?_
      rintro e w' ⟨rfl, hp, ho⟩
      refine ⟨rfl, ⟨k1.far ho.1 (fun i hi hD' => ho.2.1 i hi hD') (by omega) (by omega) (fun pq hpq => by have := hQ.2.2 pq hpq; omega), (World.cell?_of_block (ho.2.1 x3 (by omega) hx3D)).trans k2, (World.cell?_of_block (ho.2.1 (D + 1) (by omega) (by omega))).trans k3, hp.congr (fun j hj => ?_), k5.trans (ho.2.2 W.heap.size (by omega) k5.size), Nat.le_trans k6 ho.1⟩, ho.1, ho.2.1 _ hw (by omega)⟩
      by_cases h1 : at_ - a ≤ j ∧ j < at_ - a + (T - R)
      · rw [if_pos h1, if_pos (by omega)]
        exact congrArg c (by omega)
      · rw [if_neg h1]
        by_cases h2 : j < at_ - a
        · rw [if_pos h2, if_pos (by omega)]
        · rw [if_neg h2, if_neg (by omega)])
    (fun w5 hb => ⟨hST4.below hb, (hb.cell (p := ⟨x3, 0, none⟩) (by show x3 < w4.heap.size; omega)).trans hc34, (hb.cell (p := ⟨D + 1, 0, none⟩) (by show D + 1 < w4.heap.size; omega)).trans hc7, (hPG.keep hb.size (hb.block D (by omega))).congr (fun j hj => by rw [if_neg (by omega)]), hBW4.trans (hb.mono hBW4.size), by have := hb.size; omega⟩)
  have KEY := Lib.hid key
  have HDW := Lib.hid hDW
  clear key hPG hc7 hB4 hz4 hBW4 hST4 hc34 hx3D hQ hx3W hDW hw4 hD hz1
  with_reducible refine Calls.mono KEY.out ?_
  rintro e w6 ⟨rfl, k1, k2, k3, k4, k5, k6⟩
  have HP6 : Hid (PGn D n w6 (fun j => c (a + j))) := Lib.hid (k4.congr (fun j hj => by rw [if_pos (by omega)]))
  have HB6 := Lib.hid k5
  clear k1 k2 k4 k5 k6
  go_wp2
  go_ret
  exact ⟨⟨D, rfl, HDW.out, HP6.out⟩, HB6.out⟩
end Go.Proofs.YtgidnmjeifgciaaDoor
