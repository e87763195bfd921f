/- SoI, SoJ, SoL in one text: a claim holds at most 60 files. -/
import Derived.Test.YtljjcomedjdpaaaDoorSoG
import Derived.Carry
namespace Go.Proofs.YtljjcomedjdpaaaDoor
set_option maxRecDepth 100000
open Go.RowKit Go.ChangeMaps Go.MapKept
open Go.Maps (Keyed)
set_option linter.unusedVariables false
set_option linter.unusedSimpArgs false

theorem over_over (c d : Nat → Nat) (a at_ k : Nat) (h : a ≤ at_) : over (over c a (at_ - a) d) at_ k (fun i => d (at_ - a + i)) = over c a (at_ + k - a) d := by
  funext x
  simp only [over]
  by_cases h1 : at_ ≤ x ∧ x < at_ + k
  · rw [if_pos h1, if_pos (by omega), show at_ - a + (x - at_) = x - a by omega]
  · rw [if_neg h1]
    by_cases h2 : a ≤ x ∧ x < a + (at_ - a)
    · rw [if_pos h2, if_pos (by omega)]
    · rw [if_neg h2, if_neg (by omega)]
theorem over_none (c d : Nat → Nat) (a : Nat) : over c a 0 d = c := by
  funext x
  simp only [over]
  rw [if_neg (by omega)]
end Go.Proofs.YtljjcomedjdpaaaDoor
namespace Go.Proofs.YtljjcomedjdpaaaDoor
set_option maxRecDepth 100000
open Go.RowKit Go.ChangeMaps Go.MapKept
open Go.Maps (Keyed)
set_option linter.unusedVariables false
set_option linter.unusedSimpArgs false

theorem STL.lt {B g b : Nat} {W : World} {l : List (Nat × Nat)} {c : Nat → Nat} (h : STL B g b W l c) : ∀ pq ∈ l, pq.2 < W.heap.size := fun pq hpq => (h.2.2.2.1 pq hpq).2.2.2.1
theorem snew (W : World) : Calls Tryd.prog 44 #[] W fun e w' => ∃ g b, e = .returned (.pointer (some ⟨g, 0, none⟩)) ∧ STL W.heap.size g b w' [] (fun _ => 0) ∧ Below W.heap.size W w' := by
  have hmm := fun w => run_makeMap (P := Tryd.prog) 114 w
  go_enter Tryd.func44, Tryd.ntmps44
  go_wp2
  go_ret
  refine ⟨W.heap.size + 1, W.heap.size, by first | rfl | simp, ⟨by simp, ⟨by omega, by omega, by omega, by simp, by simp <;> omega⟩, ⟨#[], 0, ?_, by simp, by simp, by simp⟩, by simp, by simp, by simp⟩, ?_⟩
  · first | (simp; done) | (rw [Below.heap_alloc _ _ _ (by simp)]; show (W.heap.push _)[W.heap.size]? = _; simp)
  · exact alc (alc0 _ _) _
end Go.Proofs.YtljjcomedjdpaaaDoor
namespace Go.Proofs.YtljjcomedjdpaaaDoor
set_option maxRecDepth 100000
open Go.RowKit Go.ChangeMaps Go.MapKept
open Go.Maps (Keyed)
set_option linter.unusedVariables false
set_option linter.unusedSimpArgs false

theorem or_add (x V m : Nat) (hx : x < 2 ^ m) (hm : m ≤ 64) (a : Nat) (hV : V = a * 2 ^ m) (hV64 : V < 18446744073709551616) (hx64 : x + V < 18446744073709551616) : bits .or .u64 (x : Int) (V : Int) = ((x + V : Nat) : Int) := by
  have h1 : (BitVec.ofInt 64 (x : Int)).toNat = x := by rw [BitVec.ofInt_natCast, BitVec.toNat_ofNat]; exact Nat.mod_eq_of_lt (by omega)
  have h2 : (BitVec.ofInt 64 (V : Int)).toNat = V := by rw [BitVec.ofInt_natCast, BitVec.toNat_ofNat]; exact Nat.mod_eq_of_lt (by omega)
  show IntKind.u64.wrap ((BitVec.ofInt 64 (x : Int) ||| BitVec.ofInt 64 (V : Int)).toNat : Int) = _
  rw [BitVec.toNat_or, h1, h2, Nat.or_comm, hV, Nat.mul_comm, ← Nat.two_pow_add_eq_or_of_lt hx, IntKind.wrap_u64]
  rw [hV, Nat.mul_comm] at hx64
  omega
theorem wrap_shl (B m : Nat) : IntKind.u64.wrap ((B : Int) * 2 ^ m) = ((B * 2 ^ m % 18446744073709551616 : Nat) : Int) := by
  rw [IntKind.wrap_u64, Int.natCast_emod, Int.natCast_mul, Int.natCast_pow]
  rfl
/-- A number's bytes. -/
def wb (n : Nat) : Nat → Nat := fun j => n / 2 ^ (8 * j) % 256
/-- The number of i bytes. -/
def wn (f : Nat → Nat) : Nat → Nat
  | 0 => 0
  | i + 1 => wn f i + f i * 2 ^ (8 * i)
theorem wn_lt (f : Nat → Nat) (h : ∀ j, f j < 256) : ∀ i, wn f i < 2 ^ (8 * i)
  | 0 => by simp [wn]
  | i + 1 => by
    have h1 := wn_lt f h i
    have h2 := h i
    have e : 2 ^ (8 * (i + 1)) = 256 * 2 ^ (8 * i) := by rw [show 8 * (i + 1) = 8 + 8 * i by omega, Nat.pow_add]
    have h3 : f i * 2 ^ (8 * i) ≤ 255 * 2 ^ (8 * i) := Nat.mul_le_mul_right _ (by omega)
    rw [wn, e]
    omega
theorem PGn.set {D n : Nat} {W : World} {f : Nat → Nat} (h : PGn D n W f) (i x : Nat) (hi : i < n) : PGn D n (W.setCell ⟨D, i, none⟩ (.int .u8 (x : Int))) (fun j => if j = i then x else f j) := by
  refine ⟨by rw [show (W.setCell ⟨D, i, none⟩ (.int .u8 (x : Int))).heap.size = W.heap.size by simp [World.setCell]]; exact h.1, fun j hj => ?_, fun o => by rw [World.frozen?_setCell]; exact h.2.2 o⟩
  by_cases e : j = i
  · subst e
    simp only [if_true]
    exact World.cell?_setCell_same _ _ _ (h.2.1 j hj)
  · simp only [if_neg e]
    rw [World.cell?_setCell_other W ⟨D, i, none⟩ ⟨D, j, none⟩ _ (by intro e2; injection e2 with _ e2 _; exact e e2.symm)]
    exact h.2.1 j hj
end Go.Proofs.YtljjcomedjdpaaaDoor
namespace Go.Proofs.YtljjcomedjdpaaaDoor
set_option maxRecDepth 100000
open Go.RowKit Go.ChangeMaps Go.MapKept
open Go.Maps (Keyed)
set_option linter.unusedVariables false
set_option linter.unusedSimpArgs false

set_option maxRecDepth 100000 in
set_option maxHeartbeats 3200000 in
theorem fillC (B g b x3 x5 x P R T : Nat) (dn : Int) (w : World) (l : List (Nat × Nat)) (c : Nat → Nat) (h : STL B g b w l c) (hx3 : w.cell? ⟨x3, 0, none⟩ = some (.pointer (some ⟨g, 0, none⟩))) (hx5 : w.cell? ⟨x5, 0, none⟩ = some (.int .u8 (x : Int)))
    (hx3b : x3 ≠ b) (hx5b : x5 ≠ b) (hx5l : ∀ pq ∈ l, pq.2 ≠ x5) (hP : P < 1024) (hRT : R < T) (hT : T ≤ 256) :
    Calls Tryd.prog 85 #[.int .i64 (P : Int), .int .i64 (R : Int), .int .i64 (T : Int), .int .i64 dn, .pointer (some ⟨x3, 0, none⟩), .pointer (some ⟨x5, 0, none⟩)] w fun e w' => e = .returned (.tuple #[]) ∧ (∃ l', STL B g b w' l' (over c (P * 256 + R) (T - R) (fun _ => x)) ∧ ∀ pq ∈ l', pq ∈ l ∨ w.heap.size ≤ pq.2) ∧ w.heap.size ≤ w'.heap.size ∧ (∀ i, i < w.heap.size → i ≠ b → (∀ pq ∈ l, pq.2 ≠ i) → w'.heap[i]? = w.heap[i]?) ∧ Below B w w' := by
  have H := Lib.hid h
  have HBB : Hid (B ≤ b ∧ B ≤ w.heap.size) := Lib.hid ⟨h.2.1.2.1, by have := h.2.1.1; have := h.2.1.2.2.2.1; omega⟩
  clear h
  go_enter Tryd.func85, Tryd.ntmps85
  go_wp2_with fail
  with_reducible refine Calls.mono (page_any B g b w l c H.out P hP) ?_
  rintro e w1 ⟨⟨q, l', rfl, hq, hS1, hl'⟩, ho1⟩
  have hz5 : x5 < w.heap.size := World.block_lt_of_cell? w _ hx5
  have h15 : w1.cell? ⟨x5, 0, none⟩ = some (.int .u8 (x : Int)) := (World.cell?_of_block (ho1.2.1 x5 hz5 hx5b)).trans hx5
  have hPG := (hS1.2.2.2.1 (P, q) hq)
  have HF : Hid ((∀ pq ∈ l', pq ∈ l ∨ w.heap.size ≤ pq.2) ∧ w.heap.size ≤ w1.heap.size ∧ (∀ i, i < w.heap.size → i ≠ b → (∀ pq ∈ l, pq.2 ≠ i) → i ≠ q ∧ w1.heap[i]? = w.heap[i]?) ∧ Below B w w1) := Lib.hid ⟨fun pq hpq => (hl' pq hpq).imp id (fun e => by rw [e]; exact Nat.le_refl _), ho1.1, fun i hi hib hil => ⟨fun e => by
      rcases hl' (P, q) hq with h | h
      · exact hil (P, q) h e.symm
      · have h' : q = w.heap.size := h
        omega, ho1.2.1 i hi hib⟩, ho1.2.2 B HBB.out.1 HBB.out.2⟩
  have HQ := Lib.hid hq
  have HBQ : Hid (B ≤ q ∧ B ≤ w1.heap.size) := Lib.hid ⟨hPG.2.2.1, by have := ho1.1; have := HBB.out.2; omega⟩
  have H15 := Lib.hid h15
  have HX5Q : Hid (x5 ≠ q) := Lib.hid (fun e => by
    rcases hl' (P, q) hq with h | h
    · exact hx5l (P, q) h e.symm
    · have h' : q = w.heap.size := h
      omega)
  have HS0 : Hid (STL B g b w1 l' (over c (P * 256 + R) (R - R) (fun _ => x))) := Lib.hid (by rw [Nat.sub_self, over_none]; exact hS1)
  clear hPG ho1 hS1 hl' hq h15 hz5 HBB H hx3 hx5
  go_wp2_with fail
  go_loopw [11] (fun v11 wr => ∃ i : Nat, R ≤ i ∧ i ≤ T ∧ v11 = .int .i64 i ∧ Hid (STL B g b wr l' (over c (P * 256 + R) (i - R) (fun _ => x))) ∧ Hid (OB q w1 wr ∧ wr.heap.size = w1.heap.size)) (fun v11 _ => T - (intOf v11).toNat)
  case atStart => exact ⟨R, by omega, by omega, rfl, HS0, Lib.hid ⟨OB.of_below (Below.refl _ _), rfl⟩⟩
  case round =>
    clear HS0
    obtain ⟨i, hRi, hiT, rfl, HS, HO⟩ := hrel
    by_cases hlt : i < T
    · have i1 : (i : Int) < T := by omega
      have i2 : i < 256 := by omega
      have f1 : IntKind.i64.wrap ((i : Int) + 1) = ((i + 1 : Nat) : Int) := by rw [IntKind.wrap_i64]; omega
      have hPG := (HS.out.2.2.2.1 (P, q) HQ.out).2.2.2
      have ca := hPG.2.1 i i2
      have cf := hPG.2.2 i
      have h5 : wr.cell? ⟨x5, 0, none⟩ = some (.int .u8 (x : Int)) := (World.cell?_of_block (HO.out.1.2.1 x5 (World.block_lt_of_cell? w1 _ H15.out) HX5Q.out)).trans H15.out
      have hS2 := HS.out.write HQ.out i 1 (by omega) (fun _ => x)
      have e1 : over (over c (P * 256 + R) (i - R) (fun _ => x)) (P * 256 + i) 1 (fun _ => x) = over c (P * 256 + R) (i + 1 - R) (fun _ => x) := by
        have := over_over c (fun _ => x) (P * 256 + R) (P * 256 + i) 1 (by omega)
        rw [show P * 256 + i - (P * 256 + R) = i - R by omega, show P * 256 + i + 1 - (P * 256 + R) = i + 1 - R by omega] at this
        exact this
      rw [e1] at hS2
      have HS2 : Hid (STL B g b (wr.setCell ⟨q, i, none⟩ (.int .u8 (x : Int))) l' (over c (P * 256 + R) (i + 1 - R) (fun _ => x))) := Lib.hid hS2
      have HO2 : Hid (OB q w1 (wr.setCell ⟨q, i, none⟩ (.int .u8 (x : Int))) ∧ (wr.setCell ⟨q, i, none⟩ (.int .u8 (x : Int))).heap.size = w1.heap.size) := Lib.hid ⟨HO.out.1.trans (ob_set q i wr _) (.inl rfl), by rw [← HO.out.2]; simp [World.setCell]⟩
      clear hPG hS2 e1
      generalize over c (P * 256 + R) (i - R) (fun _ => x) = C at *
      go_wp2_with fail
      go_roundw
      case rel => exact ⟨i + 1, by omega, by omega, by go_num, HS2, HO2⟩
      case measure => simp [intOf] <;> omega
    · obtain rfl : i = T := by omega
      have i1 : ¬ (i : Int) < i := by omega
      go_wp2
      exact bodyPost_end (v := .tuple #[]) (by simp [results, Tryd.results85, go_sem]) rfl ⟨rfl, ⟨l', HS.out, fun a1 a2 ha => HF.out.1 (a1, a2) ha⟩, by rw [HO.out.2]; exact HF.out.2.1, fun j hj hjb hjl => by
        obtain ⟨k1, k2⟩ := HF.out.2.2.1 j hj hjb (fun pq hpq => hjl pq.1 pq.2 hpq)
        rw [HO.out.1.2.1 j (Nat.lt_of_lt_of_le hj HF.out.2.1) k1, k2], HF.out.2.2.2.trans (HO.out.1.2.2 B HBQ.out.1 HBQ.out.2)⟩
end Go.Proofs.YtljjcomedjdpaaaDoor
namespace Go.Proofs.YtljjcomedjdpaaaDoor
set_option maxRecDepth 100000
open Go.RowKit Go.ChangeMaps Go.MapKept
open Go.Maps (Keyed)
set_option linter.unusedVariables false
set_option linter.unusedSimpArgs false

theorem sfill_no (p : Option Addr) (a n : Int) (x : Nat) (W : World) (h : p = none ∨ mayB a n = false) : Calls Tryd.prog 72 #[.pointer p, .int .i64 a, .int .i64 n, .int .u8 (x : Int)] W fun e w' => e = .returned (.bool false) ∧ Below W.heap.size W w' := by
  have hf : (decide (p ≠ none) && mayB a n) = false := by
    rcases h with h | h
    · simp [h]
    · simp [h]
  have HF := Lib.hid hf
  clear h hf
  go_enter Tryd.func72, Tryd.ntmps72
  go_wp2_with fail
  with_reducible refine Calls.mono (smay p a n _) ?_
  rintro e w1 ⟨rfl, hb⟩
  rw [HF.out]
  have HB : Hid (Below W.heap.size W w1) := Lib.hid (thn (alc (alc0 _ _) _) hb)
  clear hb
  go_wp2
  go_ret
  exact ⟨rfl, HB.out⟩
set_option maxRecDepth 100000 in
set_option maxHeartbeats 3200000 in
theorem sfill_yes (B g : Nat) (W : World) (c : Nat → Nat) (h : ST B g W c) (a n x : Nat) (hn : 0 < n) (ha : a + n ≤ 262144) :
    Calls Tryd.prog 72 #[.pointer (some ⟨g, 0, none⟩), .int .i64 (a : Int), .int .i64 (n : Int), .int .u8 (x : Int)] W fun e w' => (e = .returned (.bool true) ∧ ST B g w' (over c a n (fun _ => x))) ∧ W.heap.size ≤ w'.heap.size ∧ Below B W w' := by
  obtain ⟨b, l, h⟩ := h
  have hBW : B ≤ W.heap.size := by have := h.2.1.1; have := h.2.1.2.2.2.1; omega
  have hbz := h.2.1.2.2.2.2
  have hlW : ∀ pq ∈ l, pq.2 < W.heap.size := fun pq hpq => (h.2.2.2.1 pq hpq).2.2.2.1
  have hmay : (decide (some (⟨g, 0, none⟩ : Addr) ≠ none) && mayB (a : Int) (n : Int)) = true := by
    have : mayB (a : Int) (n : Int) = true := mayB_iff.2 (by omega)
    simp [this]
  have HM := Lib.hid hmay
  have H := Lib.hid h
  have HLW := Lib.hid hlW
  clear h hmay hlW
  go_enter Tryd.func72, Tryd.ntmps72
  go_wp2_with fail
  with_reducible refine Calls.mono (smay _ _ _ _) ?_
  rintro e w1 ⟨rfl, hb⟩
  rw [HM.out]
  obtain ⟨x3, hx3⟩ : ∃ x3, W.heap.size = x3 := ⟨_, rfl⟩
  have hz1 : x3 + 2 ≤ w1.heap.size := by have := hb.size; simp at this; omega
  have hc3 : w1.cell? ⟨x3, 0, none⟩ = some (.pointer (some ⟨g, 0, none⟩)) := by
    rw [← hx3]
    refine (hb.cell (p := ⟨W.heap.size, 0, none⟩) (by simp <;> omega)).trans ?_
    simp
  have hc5 : w1.cell? ⟨x3 + 1, 0, none⟩ = some (.int .u8 (x : Int)) := by
    rw [← hx3]
    refine (hb.cell (p := ⟨W.heap.size + 1, 0, none⟩) (by simp <;> omega)).trans ?_
    simp
  have hB1 : Below W.heap.size W w1 := thn (alc (alc0 _ _) _) hb
  have HX3 := Lib.hid hx3
  try rw [hx3]
  clear hb hx3
  go_wp2_with fail
  have key := eachF (.pointer (some ⟨x3, 0, none⟩)) (.pointer (some ⟨x3 + 1, 0, none⟩)) a n hn ha w1 (fun at_ w => (∃ l', STL B g b w l' (over c a (at_ - a) (fun _ => x)) ∧ ∀ pq ∈ l', pq ∈ l ∨ w1.heap.size < pq.2) ∧ w.cell? ⟨x3, 0, none⟩ = some (.pointer (some ⟨g, 0, none⟩)) ∧ w.cell? ⟨x3 + 1, 0, none⟩ = some (.int .u8 (x : Int)) ∧ Below B W w ∧ w1.heap.size ≤ w.heap.size)
    (fun at_ w w' ⟨⟨l', k0, k1⟩, k2, k3, k5, k6⟩ hb => ⟨⟨l', k0.below hb, k1⟩, (hb.cell (p := ⟨x3, 0, none⟩) (by show x3 < w.heap.size; omega)).trans k2, (hb.cell (p := ⟨x3 + 1, 0, none⟩) (by show x3 + 1 < w.heap.size; omega)).trans k3, k5.trans (hb.mono (Nat.le_trans hBW (Nat.le_trans hB1.size k6))), Nat.le_trans k6 hb.size⟩)
    (fun at_ w ha1 ha2 hw ⟨⟨l', k0, k1⟩, k2, k3, k5, k6⟩ => by
      have hx3W := HX3.out
      obtain ⟨R, hR⟩ : ∃ R, at_ % 256 = R := ⟨_, rfl⟩
      obtain ⟨T, hT⟩ : ∃ T, min 256 (R + (a + n - at_)) = T := ⟨_, rfl⟩
      rw [hR, hT]
      have hfree : ∀ i, i < w1.heap.size + 1 → W.heap.size ≤ i → ∀ pq ∈ l', pq.2 ≠ i := fun i hi hWi pq hpq => by
        rcases k1 pq hpq with h | h
        · have := HLW.out pq h; omega
        · omega
      refine (fillC B g b x3 (x3 + 1) x (at_ / 256) R T _ w l' _ k0 k2 k3 (by omega) (by omega) (hfree (x3 + 1) (by omega) (by omega)) (by omega) (by omega) (by omega)).mono ?_
      rintro e w' ⟨rfl, ⟨l2, hs2, hl2⟩, hsz, hfr, hbl⟩
      have e1 : at_ / 256 * 256 + R = at_ := by omega
      have e2 := over_over c (fun _ => x) a at_ (T - R) ha1
      simp only [] at e2
      rw [e1, e2] at hs2
      refine ⟨rfl, ⟨⟨l2, hs2, fun pq hpq => ?_⟩, (World.cell?_of_block (hfr x3 (by omega) (by omega) (hfree x3 (by omega) (by omega)))).trans k2, (World.cell?_of_block (hfr (x3 + 1) (by omega) (by omega) (hfree (x3 + 1) (by omega) (by omega)))).trans k3, k5.trans hbl, Nat.le_trans k6 hsz⟩, hsz, hfr _ hw (by have := hB1.size; omega) (hfree _ (by omega) hB1.size)⟩
      rcases hl2 pq hpq with h | h
      · exact k1 pq h
      · exact .inr (by omega))
    (fun w5 hb => ⟨⟨l, by rw [Nat.sub_self, over_none]; exact (H.out.below hB1).below hb, fun pq h => .inl h⟩, (hb.cell (p := ⟨x3, 0, none⟩) (by show x3 < w1.heap.size; omega)).trans hc3, (hb.cell (p := ⟨x3 + 1, 0, none⟩) (by show x3 + 1 < w1.heap.size; omega)).trans hc5, (hB1.mono hBW).trans (hb.mono (Nat.le_trans hBW hB1.size)), hb.size⟩)
  have KEY := Lib.hid key
  have HB1 := Lib.hid hB1.size
  clear key hB1 hc3 hc5 hz1 hbz hBW
  with_reducible refine Calls.mono KEY.out ?_
  rintro e w6 ⟨rfl, ⟨l6, k0, _⟩, _, _, k5, k6⟩
  have HS6 : Hid (ST B g w6 (over c a n (fun _ => x))) := Lib.hid ⟨b, l6, by rwa [Nat.add_sub_cancel_left] at k0⟩
  have HB6 := Lib.hid k5
  have HZ6 : Hid (W.heap.size ≤ w6.heap.size) := Lib.hid (Nat.le_trans HB1.out k6)
  clear k0 k5 k6
  go_wp2
  go_ret
  exact ⟨⟨rfl, HS6.out⟩, HZ6.out, HB6.out⟩
end Go.Proofs.YtljjcomedjdpaaaDoor

