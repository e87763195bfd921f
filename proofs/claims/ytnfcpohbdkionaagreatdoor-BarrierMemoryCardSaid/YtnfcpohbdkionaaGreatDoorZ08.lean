/- SoR. -/
import Derived.Test.YtnfcpohbdkionaaGreatDoorZ07
namespace Go.Proofs.YtnfcpohbdkionaaGreatDoor
set_option maxRecDepth 100000
open Go.RowKit Go.ChangeMaps Go.MapKept
open Go.Maps (Keyed)
set_option linter.unusedVariables false
set_option linter.unusedSimpArgs false
theorem map_erase {α β : Type} (f : α → β) : ∀ (l : List α) (j : Nat), (l.eraseIdx j).map f = (l.map f).eraseIdx j
  | [], j => by simp
  | x :: l, 0 => by simp
  | x :: l, j + 1 => by simp [map_erase f l j]
end Go.Proofs.YtnfcpohbdkionaaGreatDoor
namespace Go.Proofs.YtnfcpohbdkionaaGreatDoor
set_option maxRecDepth 100000
open Go.RowKit Go.ChangeMaps Go.MapKept
open Go.Maps (Keyed)
set_option linter.unusedVariables false
set_option linter.unusedSimpArgs false
/-- The pages l' are of l or new, and what is none of the store's own stands. -/
def FR (b : Nat) (l : List (Nat × Nat)) (W w' : World) (l' : List (Nat × Nat)) : Prop :=
  (∀ pq ∈ l', pq ∈ l ∨ W.heap.size ≤ pq.2) ∧ ∀ i, i < W.heap.size → i ≠ b → (∀ pq ∈ l, pq.2 ≠ i) → w'.heap[i]? = W.heap[i]?
set_option maxRecDepth 100000 in
set_option maxHeartbeats 3200000 in
theorem swriteL (B g b : Nat) (W : World) (l : List (Nat × Nat)) (c d : Nat → Nat) (h : STL B g b W l c) (a n sb so cb : Nat) (hn : 0 < n) (ha : a + n ≤ 262144) (hncb : n ≤ cb)
    (hs : ∀ i, i < n → W.cell? ⟨sb, so + i, none⟩ = some (.int .u8 (d i : Int))) (hsb : ∀ pq ∈ l, pq.2 ≠ sb) :
    Calls Tryz.prog 67 #[.pointer (some ⟨g, 0, none⟩), .int .i64 (a : Int), .slice (some ⟨sb, so, none⟩) n cb] W fun e w' => (e = .returned (.bool true) ∧ ∃ l', STL B g b w' l' (over c a n d) ∧ FR b l W w' l') ∧ W.heap.size ≤ w'.heap.size ∧ Below B W w' := by
  have hBW : B ≤ W.heap.size := by have := h.2.1.1; have := h.2.1.2.2.2.1; omega
  have hbz := h.2.1.2.2.2.2
  have hsbz := World.block_lt_of_cell? W _ (hs 0 hn)
  have hsbb : sb ≠ b := by
    intro e
    obtain ⟨es, ck, hm, _⟩ := h.2.2.1
    have h0 := hs 0 hn
    rw [e] at h0
    unfold World.cell? at h0
    rw [show (⟨b, so + 0, none⟩ : Addr).block = b from rfl, hm] at h0
    cases h0
  have hlW : ∀ pq ∈ l, pq.2 < W.heap.size := fun pq hpq => (h.2.2.2.1 pq hpq).2.2.2.1
  have hmay : (decide (some (⟨g, 0, none⟩ : Addr) ≠ none) && mayB (a : Int) (n : Int)) = true := by
    have : mayB (a : Int) (n : Int) = true := mayB_iff.2 (by omega)
    simp [this]
  have HM := Lib.hid hmay
  have H := Lib.hid h
  have HS := Lib.hid hs
  have HSB := Lib.hid hsb
  have HLW := Lib.hid hlW
  clear h hmay hs hsb hlW
  go_enter Tryz.func67, Tryz.ntmps67
  go_wp2_with fail
  with_reducible refine Calls.mono (smay _ _ _ _) ?_
  rintro e w1 ⟨rfl, hb⟩
  rw [HM.out]
  obtain ⟨x3, hx3⟩ : ∃ x3, W.heap.size = x3 := ⟨_, rfl⟩
  have hz1 : x3 + 2 ≤ w1.heap.size := by have := hb.size; simp at this; omega
  have hc3 : w1.cell? ⟨x3, 0, none⟩ = some (.pointer (some ⟨g, 0, none⟩)) := by
    rw [← hx3]
    refine (hb.cell (p := ⟨W.heap.size, 0, none⟩) (by simp <;> omega)).trans ?_
    simp
  have hc5 : w1.cell? ⟨x3 + 1, 0, none⟩ = some (.slice (some ⟨sb, so, none⟩) n cb) := by
    rw [← hx3]
    refine (hb.cell (p := ⟨W.heap.size + 1, 0, none⟩) (by simp <;> omega)).trans ?_
    simp
  have hB1 : Below W.heap.size W w1 := thn (alc (alc0 _ _) _) hb
  have HX3 := Lib.hid hx3
  try rw [hx3]
  clear hb hx3
  go_wp2_with fail
  have key := eachW (.pointer (some ⟨x3, 0, none⟩)) (.pointer (some ⟨x3 + 1, 0, none⟩)) a n hn ha w1 (fun at_ w => (∃ l', STL B g b w l' (over c a (at_ - a) d) ∧ ∀ pq ∈ l', pq ∈ l ∨ w1.heap.size < pq.2) ∧ w.cell? ⟨x3, 0, none⟩ = some (.pointer (some ⟨g, 0, none⟩)) ∧ w.cell? ⟨x3 + 1, 0, none⟩ = some (.slice (some ⟨sb, so, none⟩) n cb) ∧ (∀ i, i < n → w.cell? ⟨sb, so + i, none⟩ = some (.int .u8 (d i : Int))) ∧ Below B W w ∧ w1.heap.size ≤ w.heap.size ∧ (∀ i, i < W.heap.size → i ≠ b → (∀ pq ∈ l, pq.2 ≠ i) → w.heap[i]? = W.heap[i]?))
    (fun at_ w w' ⟨⟨l', k0, k1⟩, k2, k3, k4, k5, k6, k7⟩ hb => ⟨⟨l', k0.below hb, k1⟩, (hb.cell (p := ⟨x3, 0, none⟩) (by show x3 < w.heap.size; omega)).trans k2, (hb.cell (p := ⟨x3 + 1, 0, none⟩) (by show x3 + 1 < w.heap.size; omega)).trans k3, fun i hi => (hb.cell (p := ⟨sb, so + i, none⟩) (World.block_lt_of_cell? w _ (k4 i hi))).trans (k4 i hi), k5.trans (hb.mono (Nat.le_trans hBW (Nat.le_trans hB1.size k6))), Nat.le_trans k6 hb.size, fun i hi hib hil => (hb.block i (by have := hB1.size; omega)).trans (k7 i hi hib hil)⟩)
    (fun at_ w ha1 ha2 hw ⟨⟨l', k0, k1⟩, k2, k3, k4, k5, k6, k7⟩ => by
      have hx3W := HX3.out
      obtain ⟨R, hR⟩ : ∃ R, at_ % 256 = R := ⟨_, rfl⟩
      obtain ⟨T, hT⟩ : ∃ T, min 256 (R + (a + n - at_)) = T := ⟨_, rfl⟩
      rw [hR, hT]
      have hfree : ∀ i, i < w1.heap.size + 1 → i ≠ sb → W.heap.size ≤ i → ∀ pq ∈ l', pq.2 ≠ i := fun i hi _ hWi pq hpq => by
        rcases k1 pq hpq with h | h
        · have := HLW.out pq h; omega
        · omega
      have hfsb : ∀ pq ∈ l', pq.2 ≠ sb := fun pq hpq => by
        rcases k1 pq hpq with h | h
        · exact HSB.out pq h
        · have := hB1.size; omega
      refine (writeC B g b x3 (x3 + 1) sb so n cb (at_ / 256) R T (at_ - a) w l' _ d k0 k2 k3 k4 hncb (by omega) (by omega) hsbb (by omega) (by omega) (by omega) (by omega)).mono ?_
      rintro e w' ⟨rfl, ⟨l2, hs2, hl2⟩, hsz, hfr, hbl⟩
      have e1 : at_ / 256 * 256 + R = at_ := by omega
      rw [e1, over_over c d a at_ (T - R) ha1] at hs2
      refine ⟨rfl, ⟨⟨l2, hs2, fun pq hpq => ?_⟩, (World.cell?_of_block (hfr x3 (by omega) (by omega) (hfree x3 (by omega) (by omega) (by omega)))).trans k2, (World.cell?_of_block (hfr (x3 + 1) (by omega) (by omega) (hfree (x3 + 1) (by omega) (by omega) (by omega)))).trans k3, fun i hi => (World.cell?_of_block (a := ⟨sb, so + i, none⟩) (hfr sb (World.block_lt_of_cell? w _ (k4 i hi)) hsbb hfsb)).trans (k4 i hi), k5.trans hbl, Nat.le_trans k6 hsz, fun i hi hib hil => (hfr i (by have := hB1.size; omega) hib (fun pq hpq => by
        rcases k1 pq hpq with h | h
        · exact hil pq h
        · have := hB1.size; omega)).trans (k7 i hi hib hil)⟩, hsz, hfr _ hw (by have := hB1.size; omega) (hfree _ (by omega) (by have := hB1.size; omega) hB1.size)⟩
      rcases hl2 pq hpq with h | h
      · exact k1 pq h
      · exact .inr (by omega))
    (fun w5 hb => ⟨⟨l, by rw [Nat.sub_self, over_none]; exact (H.out.below hB1).below hb, fun pq h => .inl h⟩, (hb.cell (p := ⟨x3, 0, none⟩) (by show x3 < w1.heap.size; omega)).trans hc3, (hb.cell (p := ⟨x3 + 1, 0, none⟩) (by show x3 + 1 < w1.heap.size; omega)).trans hc5, fun i hi => (hb.cell (p := ⟨sb, so + i, none⟩) (by show sb < w1.heap.size; have := hB1.size; omega)).trans ((hB1.cell (p := ⟨sb, so + i, none⟩) hsbz).trans (HS.out i hi)), (hB1.mono hBW).trans (hb.mono (Nat.le_trans hBW hB1.size)), hb.size, fun i hi _ _ => (hb.block i (by have := hB1.size; omega)).trans (hB1.block i hi)⟩)
  have KEY := Lib.hid key
  have HB1 := Lib.hid hB1.size
  clear key hB1 hc3 hc5 hz1 hbz hsbz hsbb hBW
  with_reducible refine Calls.mono KEY.out ?_
  rintro e w6 ⟨rfl, ⟨l6, k0, kl⟩, _, _, _, k5, k6, k7⟩
  have HS6 : Hid (∃ l', STL B g b w6 l' (over c a n d) ∧ FR b l W w6 l') := Lib.hid ⟨l6, by rwa [Nat.add_sub_cancel_left] at k0, fun pq hpq => (kl pq hpq).imp id (fun h => by have := HB1.out; omega), k7⟩
  have HB6 := Lib.hid k5
  have HZ6 : Hid (W.heap.size ≤ w6.heap.size) := Lib.hid (Nat.le_trans HB1.out k6)
  clear k0 k5 k6 k7 kl
  go_wp2
  go_ret
  exact ⟨⟨rfl, HS6.out⟩, HZ6.out, HB6.out⟩
set_option maxRecDepth 100000 in
set_option maxHeartbeats 3200000 in
theorem sfillL (B g b : Nat) (W : World) (l : List (Nat × Nat)) (c : Nat → Nat) (h : STL B g b W l c) (a n x : Nat) (hn : 0 < n) (ha : a + n ≤ 262144) :
    Calls Tryz.prog 99 #[.pointer (some ⟨g, 0, none⟩), .int .i64 (a : Int), .int .i64 (n : Int), .int .u8 (x : Int)] W fun e w' => (e = .returned (.bool true) ∧ ∃ l', STL B g b w' l' (over c a n (fun _ => x)) ∧ FR b l W w' l') ∧ W.heap.size ≤ w'.heap.size ∧ Below B W w' := by
  have hBW : B ≤ W.heap.size := by have := h.2.1.1; have := h.2.1.2.2.2.1; omega
  have hbz := h.2.1.2.2.2.2
  have hlW : ∀ pq ∈ l, pq.2 < W.heap.size := fun pq hpq => (h.2.2.2.1 pq hpq).2.2.2.1
  have hmay : (decide (some (⟨g, 0, none⟩ : Addr) ≠ none) && mayB (a : Int) (n : Int)) = true := by
    have : mayB (a : Int) (n : Int) = true := mayB_iff.2 (by omega)
    simp [this]
  have HM := Lib.hid hmay
  have H := Lib.hid h
  have HLW := Lib.hid hlW
  clear h hmay hlW
  go_enter Tryz.func99, Tryz.ntmps99
  go_wp2_with fail
  with_reducible refine Calls.mono (smay _ _ _ _) ?_
  rintro e w1 ⟨rfl, hb⟩
  rw [HM.out]
  obtain ⟨x3, hx3⟩ : ∃ x3, W.heap.size = x3 := ⟨_, rfl⟩
  have hz1 : x3 + 2 ≤ w1.heap.size := by have := hb.size; simp at this; omega
  have hc3 : w1.cell? ⟨x3, 0, none⟩ = some (.pointer (some ⟨g, 0, none⟩)) := by
    rw [← hx3]
    refine (hb.cell (p := ⟨W.heap.size, 0, none⟩) (by simp <;> omega)).trans ?_
    simp
  have hc5 : w1.cell? ⟨x3 + 1, 0, none⟩ = some (.int .u8 (x : Int)) := by
    rw [← hx3]
    refine (hb.cell (p := ⟨W.heap.size + 1, 0, none⟩) (by simp <;> omega)).trans ?_
    simp
  have hB1 : Below W.heap.size W w1 := thn (alc (alc0 _ _) _) hb
  have HX3 := Lib.hid hx3
  try rw [hx3]
  clear hb hx3
  go_wp2_with fail
  have key := eachF (.pointer (some ⟨x3, 0, none⟩)) (.pointer (some ⟨x3 + 1, 0, none⟩)) a n hn ha w1 (fun at_ w => (∃ l', STL B g b w l' (over c a (at_ - a) (fun _ => x)) ∧ ∀ pq ∈ l', pq ∈ l ∨ w1.heap.size < pq.2) ∧ w.cell? ⟨x3, 0, none⟩ = some (.pointer (some ⟨g, 0, none⟩)) ∧ w.cell? ⟨x3 + 1, 0, none⟩ = some (.int .u8 (x : Int)) ∧ Below B W w ∧ w1.heap.size ≤ w.heap.size ∧ (∀ i, i < W.heap.size → i ≠ b → (∀ pq ∈ l, pq.2 ≠ i) → w.heap[i]? = W.heap[i]?))
    (fun at_ w w' ⟨⟨l', k0, k1⟩, k2, k3, k5, k6, k7⟩ hb => ⟨⟨l', k0.below hb, k1⟩, (hb.cell (p := ⟨x3, 0, none⟩) (by show x3 < w.heap.size; omega)).trans k2, (hb.cell (p := ⟨x3 + 1, 0, none⟩) (by show x3 + 1 < w.heap.size; omega)).trans k3, k5.trans (hb.mono (Nat.le_trans hBW (Nat.le_trans hB1.size k6))), Nat.le_trans k6 hb.size, fun i hi hib hil => (hb.block i (by have := hB1.size; omega)).trans (k7 i hi hib hil)⟩)
    (fun at_ w ha1 ha2 hw ⟨⟨l', k0, k1⟩, k2, k3, k5, k6, k7⟩ => by
      have hx3W := HX3.out
      obtain ⟨R, hR⟩ : ∃ R, at_ % 256 = R := ⟨_, rfl⟩
      obtain ⟨T, hT⟩ : ∃ T, min 256 (R + (a + n - at_)) = T := ⟨_, rfl⟩
      rw [hR, hT]
      have hfree : ∀ i, i < w1.heap.size + 1 → W.heap.size ≤ i → ∀ pq ∈ l', pq.2 ≠ i := fun i hi hWi pq hpq => by
        rcases k1 pq hpq with h | h
        · have := HLW.out pq h; omega
        · omega
      refine (fillC B g b x3 (x3 + 1) x (at_ / 256) R T _ w l' _ k0 k2 k3 (by omega) (by omega) (hfree (x3 + 1) (by omega) (by omega)) (by omega) (by omega) (by omega)).mono ?_
      rintro e w' ⟨rfl, ⟨l2, hs2, hl2⟩, hsz, hfr, hbl⟩
      have e1 : at_ / 256 * 256 + R = at_ := by omega
      have e2 := over_over c (fun _ => x) a at_ (T - R) ha1
      simp only [] at e2
      rw [e1, e2] at hs2
      refine ⟨rfl, ⟨⟨l2, hs2, fun pq hpq => ?_⟩, (World.cell?_of_block (hfr x3 (by omega) (by omega) (hfree x3 (by omega) (by omega)))).trans k2, (World.cell?_of_block (hfr (x3 + 1) (by omega) (by omega) (hfree (x3 + 1) (by omega) (by omega)))).trans k3, k5.trans hbl, Nat.le_trans k6 hsz, fun i hi hib hil => (hfr i (by have := hB1.size; omega) hib (fun pq hpq => by
        rcases k1 pq hpq with h | h
        · exact hil pq h
        · have := hB1.size; omega)).trans (k7 i hi hib hil)⟩, hsz, hfr _ hw (by have := hB1.size; omega) (hfree _ (by omega) hB1.size)⟩
      rcases hl2 pq hpq with h | h
      · exact k1 pq h
      · exact .inr (by omega))
    (fun w5 hb => ⟨⟨l, by rw [Nat.sub_self, over_none]; exact (H.out.below hB1).below hb, fun pq h => .inl h⟩, (hb.cell (p := ⟨x3, 0, none⟩) (by show x3 < w1.heap.size; omega)).trans hc3, (hb.cell (p := ⟨x3 + 1, 0, none⟩) (by show x3 + 1 < w1.heap.size; omega)).trans hc5, (hB1.mono hBW).trans (hb.mono (Nat.le_trans hBW hB1.size)), hb.size, fun i hi _ _ => (hb.block i (by have := hB1.size; omega)).trans (hB1.block i hi)⟩)
  have KEY := Lib.hid key
  have HB1 := Lib.hid hB1.size
  clear key hB1 hc3 hc5 hz1 hbz hBW
  with_reducible refine Calls.mono KEY.out ?_
  rintro e w6 ⟨rfl, ⟨l6, k0, kl⟩, _, _, k5, k6, k7⟩
  have HS6 : Hid (∃ l', STL B g b w6 l' (over c a n (fun _ => x)) ∧ FR b l W w6 l') := Lib.hid ⟨l6, by rwa [Nat.add_sub_cancel_left] at k0, fun pq hpq => (kl pq hpq).imp id (fun h => by have := HB1.out; omega), k7⟩
  have HB6 := Lib.hid k5
  have HZ6 : Hid (W.heap.size ≤ w6.heap.size) := Lib.hid (Nat.le_trans HB1.out k6)
  clear k0 k5 k6 k7 kl
  go_wp2
  go_ret
  exact ⟨⟨rfl, HS6.out⟩, HZ6.out, HB6.out⟩
theorem FR.before {b : Nat} {l : List (Nat × Nat)} {W w w' : World} {l' : List (Nat × Nat)} (hb : Below W.heap.size W w) (h : FR b l w w' l') : FR b l W w' l' :=
  ⟨fun pq hpq => (h.1 pq hpq).imp id (fun h => Nat.le_trans hb.size h), fun i hi hib hil => (h.2 i (Nat.lt_of_lt_of_le hi hb.size) hib hil).trans (hb.block i hi)⟩
end Go.Proofs.YtnfcpohbdkionaaGreatDoor
