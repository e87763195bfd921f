/- The walk of StateNext. -/
import Derived.Test.YtbmcgoodilomlaaStateN
namespace Go.Proofs.Ytbmcgoodilomlaa
open Go.RowKit
set_option linter.unusedVariables false
set_option linter.unusedSimpArgs false

theorem or8_wf (a : Int) : (Lit.int .i64 (bits .or .i64 a 8)).wf = true := wf_wrap _ _
theorem or8_ne (a k : Int) (hk : 0 ≤ k ∧ k < 8) : ¬ bits .or .i64 a 8 = k := by
  intro h
  have h2 : IntKind.i64.wrap (((BitVec.ofInt 64 a ||| BitVec.ofInt 64 8).toNat : Nat) : Int) = k := h
  rw [IntKind.wrap_i64] at h2
  have hlt := (BitVec.ofInt 64 a ||| BitVec.ofInt 64 8).isLt
  have h3 : (BitVec.ofInt 64 a ||| BitVec.ofInt 64 8).toNat = k.toNat := by omega
  have hk2 : k = 0 ∨ k = 1 ∨ k = 2 ∨ k = 3 ∨ k = 4 ∨ k = 5 ∨ k = 6 ∨ k = 7 := by omega
  have h4 : (BitVec.ofInt 64 a ||| BitVec.ofInt 64 8).toNat.testBit 3 = true := by
    rw [← BitVec.getLsbD, BitVec.getLsbD_or]
    simp
  rw [h3] at h4
  rcases hk2 with rfl | rfl | rfl | rfl | rfl | rfl | rfl | rfl <;> revert h4 <;> decide
theorem wf_near (n : Int) (h0 : 0 ≤ n) (h1 : n ≤ 7) : (Lit.int .i64 (n - 1)).wf = true := by
  simp [Lit.wf, IntKind.min, IntKind.max, IntKind.signed, IntKind.bits]; omega
set_option maxRecDepth 8000 in
set_option maxHeartbeats 4000000 in
theorem sn2y (a b : Int) (wb : (Lit.int .i64 b).wf = true) (ea : bits .and .i64 a 7 = 2) (eb : bits .and .i64 b 7 = 2) (w : World) :
    Calls Try.prog 7 #[.int .i64 a, .int .i64 b] w fun e w' => e = .returned (.bool true) ∧ Below w.heap.size w w' := by
  obtain ⟨y, hy, wy, y1, y2, y3⟩ : ∃ y, bits .or .i64 a 8 = y ∧ (Lit.int .i64 y).wf = true ∧ ¬ y = 1 ∧ ¬ y = 2 ∧ ¬ y = 3 := ⟨_, rfl, or8_wf a, or8_ne a 1 (by omega), or8_ne a 2 (by omega), or8_ne a 3 (by omega)⟩
  have HY := Lib.hid (And.intro wy (And.intro y1 (And.intro y2 y3)))
  have WB := Lib.hid wb
  clear wy y1 y2 y3 wb
  go_enter Try.func7, Try.ntmps7
  go_wp2_with fail
  refine (next_is 1 1 rfl rfl 2 0 (by decide) (by decide) _).mono ?_
  rintro e w1 ⟨rfl, hb⟩
  have HB := Lib.hid hb
  clear hb
  go_wp2_with fail
  refine (next_is y b HY.out.1 WB.out 0 12 (nxt_zero y b (by have := HY.out; omega) (by have := HY.out; omega) (by have := HY.out; omega)) (by decide) _).mono ?_
  rintro e w2 ⟨rfl, hb⟩
  have HB2 := Lib.hid (thn HB.out hb)
  clear hb HB
  go_wp2_with fail
  refine (name1 _).mono ?_
  rintro e w3 ⟨rfl, rfl⟩
  have hu : (some undef : Option Value) = some (Value.tuple #[]) := rfl
  obtain ⟨w3, hw3⟩ : ∃ w3, w2.alloc (.cells #[.string ⟨#[102, 114, 101, 101]⟩, .string ⟨#[108, 105, 118, 101]⟩, .string ⟨#[104, 101, 108, 100]⟩] 9) = w3 := ⟨_, rfl⟩
  obtain ⟨p, hp⟩ : ∃ p, w2.heap.size = p := ⟨_, rfl⟩
  have HB3 := Lib.hid (alc HB2.out (.cells #[.string ⟨#[102, 114, 101, 101]⟩, .string ⟨#[108, 105, 118, 101]⟩, .string ⟨#[104, 101, 108, 100]⟩] 9))
  have HC3 : Hid (w3.cell? ⟨p, 0, none⟩ = some (.string ⟨#[102, 114, 101, 101]⟩) ∧ p < w3.heap.size) := Lib.hid (by rw [← hw3, ← hp]; exact ⟨by simp, by simp⟩)
  rw [hw3] at HB3 ⊢
  rw [hp]
  clear hw3 hp HB2
  go_wp2_with fail
  refine (s19awake _).mono ?_
  rintro e w4 ⟨rfl, hb⟩
  have HB4 := Lib.hid (thn HB3.out hb)
  have HC4 : Hid (w4.cell? ⟨p, 0, none⟩ = some (.string ⟨#[102, 114, 101, 101]⟩) ∧ p < w4.heap.size) := Lib.hid ⟨(hb.cell (p := ⟨p, _, none⟩) HC3.out.2).trans HC3.out.1, Nat.lt_of_lt_of_le HC3.out.2 hb.size⟩
  clear hb HB3 HC3
  go_wp2_with fail
  refine (can_is 1 1 rfl rfl true (by rw [show nxt 1 1 = 2 from by decide]; decide) _).mono ?_
  rintro e w5 ⟨rfl, hb⟩
  have HB5 := Lib.hid (thn HB4.out hb)
  have hc5 := (hb.cell (p := ⟨p, 0, none⟩) HC4.out.2).trans HC4.out.1
  clear hb HB4 HC4
  go_wp2
  go_ret
  exact ⟨rfl, HB5.out⟩
set_option maxRecDepth 8000 in
set_option maxHeartbeats 4000000 in
theorem sn3y (a b : Int) (wb : (Lit.int .i64 b).wf = true) (ea : bits .and .i64 a 7 = 3) (eb : bits .and .i64 b 7 = 3) (w : World) :
    Calls Try.prog 7 #[.int .i64 a, .int .i64 b] w fun e w' => e = .returned (.bool true) ∧ Below w.heap.size w w' := by
  obtain ⟨y, hy, wy, y1, y2, y3⟩ : ∃ y, bits .or .i64 a 8 = y ∧ (Lit.int .i64 y).wf = true ∧ ¬ y = 1 ∧ ¬ y = 2 ∧ ¬ y = 3 := ⟨_, rfl, or8_wf a, or8_ne a 1 (by omega), or8_ne a 2 (by omega), or8_ne a 3 (by omega)⟩
  have HY := Lib.hid (And.intro wy (And.intro y1 (And.intro y2 y3)))
  have WB := Lib.hid wb
  clear wy y1 y2 y3 wb
  go_enter Try.func7, Try.ntmps7
  go_wp2_with fail
  refine (next_is 2 2 rfl rfl 3 0 (by decide) (by decide) _).mono ?_
  rintro e w1 ⟨rfl, hb⟩
  have HB := Lib.hid hb
  clear hb
  go_wp2_with fail
  refine (next_is y b HY.out.1 WB.out 0 12 (nxt_zero y b (by have := HY.out; omega) (by have := HY.out; omega) (by have := HY.out; omega)) (by decide) _).mono ?_
  rintro e w2 ⟨rfl, hb⟩
  have HB2 := Lib.hid (thn HB.out hb)
  clear hb HB
  go_wp2_with fail
  refine (name2 _).mono ?_
  rintro e w3 ⟨rfl, rfl⟩
  have hu : (some undef : Option Value) = some (Value.tuple #[]) := rfl
  obtain ⟨w3, hw3⟩ : ∃ w3, w2.alloc (.cells #[.string ⟨#[102, 114, 101, 101]⟩, .string ⟨#[108, 105, 118, 101]⟩, .string ⟨#[104, 101, 108, 100]⟩] 9) = w3 := ⟨_, rfl⟩
  obtain ⟨p, hp⟩ : ∃ p, w2.heap.size = p := ⟨_, rfl⟩
  have HB3 := Lib.hid (alc HB2.out (.cells #[.string ⟨#[102, 114, 101, 101]⟩, .string ⟨#[108, 105, 118, 101]⟩, .string ⟨#[104, 101, 108, 100]⟩] 9))
  have HC3 : Hid (w3.cell? ⟨p, 1, none⟩ = some (.string ⟨#[108, 105, 118, 101]⟩) ∧ p < w3.heap.size) := Lib.hid (by rw [← hw3, ← hp]; exact ⟨by simp, by simp⟩)
  rw [hw3] at HB3 ⊢
  rw [hp]
  clear hw3 hp HB2
  go_wp2_with fail
  refine (s19awake _).mono ?_
  rintro e w4 ⟨rfl, hb⟩
  have HB4 := Lib.hid (thn HB3.out hb)
  have HC4 : Hid (w4.cell? ⟨p, 1, none⟩ = some (.string ⟨#[108, 105, 118, 101]⟩) ∧ p < w4.heap.size) := Lib.hid ⟨(hb.cell (p := ⟨p, _, none⟩) HC3.out.2).trans HC3.out.1, Nat.lt_of_lt_of_le HC3.out.2 hb.size⟩
  clear hb HB3 HC3
  go_wp2_with fail
  refine (can_is 2 2 rfl rfl true (by rw [show nxt 2 2 = 3 from by decide]; decide) _).mono ?_
  rintro e w5 ⟨rfl, hb⟩
  have HB5 := Lib.hid (thn HB4.out hb)
  have hc5 := (hb.cell (p := ⟨p, 1, none⟩) HC4.out.2).trans HC4.out.1
  clear hb HB4 HC4
  go_wp2
  go_ret
  exact ⟨rfl, HB5.out⟩
set_option maxRecDepth 8000 in
set_option maxHeartbeats 4000000 in
theorem sn4y (a b : Int) (wb : (Lit.int .i64 b).wf = true) (ea : bits .and .i64 a 7 = 4) (eb : bits .and .i64 b 7 = 4) (w : World) :
    Calls Try.prog 7 #[.int .i64 a, .int .i64 b] w fun e w' => e = .returned (.bool true) ∧ Below w.heap.size w w' := by
  obtain ⟨y, hy, wy, y1, y2, y3⟩ : ∃ y, bits .or .i64 a 8 = y ∧ (Lit.int .i64 y).wf = true ∧ ¬ y = 1 ∧ ¬ y = 2 ∧ ¬ y = 3 := ⟨_, rfl, or8_wf a, or8_ne a 1 (by omega), or8_ne a 2 (by omega), or8_ne a 3 (by omega)⟩
  have HY := Lib.hid (And.intro wy (And.intro y1 (And.intro y2 y3)))
  have WB := Lib.hid wb
  clear wy y1 y2 y3 wb
  go_enter Try.func7, Try.ntmps7
  go_wp2_with fail
  refine (next_is 3 3 rfl rfl 1 0 (by decide) (by decide) _).mono ?_
  rintro e w1 ⟨rfl, hb⟩
  have HB := Lib.hid hb
  clear hb
  go_wp2_with fail
  refine (next_is y b HY.out.1 WB.out 0 12 (nxt_zero y b (by have := HY.out; omega) (by have := HY.out; omega) (by have := HY.out; omega)) (by decide) _).mono ?_
  rintro e w2 ⟨rfl, hb⟩
  have HB2 := Lib.hid (thn HB.out hb)
  clear hb HB
  go_wp2_with fail
  refine (name3 _).mono ?_
  rintro e w3 ⟨rfl, rfl⟩
  have hu : (some undef : Option Value) = some (Value.tuple #[]) := rfl
  obtain ⟨w3, hw3⟩ : ∃ w3, w2.alloc (.cells #[.string ⟨#[102, 114, 101, 101]⟩, .string ⟨#[108, 105, 118, 101]⟩, .string ⟨#[104, 101, 108, 100]⟩] 9) = w3 := ⟨_, rfl⟩
  obtain ⟨p, hp⟩ : ∃ p, w2.heap.size = p := ⟨_, rfl⟩
  have HB3 := Lib.hid (alc HB2.out (.cells #[.string ⟨#[102, 114, 101, 101]⟩, .string ⟨#[108, 105, 118, 101]⟩, .string ⟨#[104, 101, 108, 100]⟩] 9))
  have HC3 : Hid (w3.cell? ⟨p, 2, none⟩ = some (.string ⟨#[104, 101, 108, 100]⟩) ∧ p < w3.heap.size) := Lib.hid (by rw [← hw3, ← hp]; exact ⟨by simp, by simp⟩)
  rw [hw3] at HB3 ⊢
  rw [hp]
  clear hw3 hp HB2
  go_wp2_with fail
  refine (s19awake _).mono ?_
  rintro e w4 ⟨rfl, hb⟩
  have HB4 := Lib.hid (thn HB3.out hb)
  have HC4 : Hid (w4.cell? ⟨p, 2, none⟩ = some (.string ⟨#[104, 101, 108, 100]⟩) ∧ p < w4.heap.size) := Lib.hid ⟨(hb.cell (p := ⟨p, _, none⟩) HC3.out.2).trans HC3.out.1, Nat.lt_of_lt_of_le HC3.out.2 hb.size⟩
  clear hb HB3 HC3
  go_wp2_with fail
  refine (can_is 3 3 rfl rfl true (by rw [show nxt 3 3 = 1 from by decide]; decide) _).mono ?_
  rintro e w5 ⟨rfl, hb⟩
  have HB5 := Lib.hid (thn HB4.out hb)
  have hc5 := (hb.cell (p := ⟨p, 2, none⟩) HC4.out.2).trans HC4.out.1
  clear hb HB4 HC4
  go_wp2
  go_ret
  exact ⟨rfl, HB5.out⟩
set_option maxRecDepth 8000 in
set_option maxHeartbeats 4000000 in
theorem sn0n (a b n : Int) (wb : (Lit.int .i64 b).wf = true) (ea : bits .and .i64 a 7 = 0) (eb : bits .and .i64 b 7 = n) (n0 : 0 ≤ n) (n1 : n ≤ 7) (w : World) :
    Calls Try.prog 7 #[.int .i64 a, .int .i64 b] w fun e w' => e = .returned (.bool true) ∧ Below w.heap.size w w' := by
  obtain ⟨y, hy, wy, y1, y2, y3⟩ : ∃ y, bits .or .i64 a 8 = y ∧ (Lit.int .i64 y).wf = true ∧ ¬ y = 1 ∧ ¬ y = 2 ∧ ¬ y = 3 := ⟨_, rfl, or8_wf a, or8_ne a 1 (by omega), or8_ne a 2 (by omega), or8_ne a 3 (by omega)⟩
  have HY := Lib.hid (And.intro wy (And.intro y1 (And.intro y2 y3)))
  have WB := Lib.hid wb
  clear wy y1 y2 y3 wb
  go_enter Try.func7, Try.ntmps7
  go_wp2_with fail
  refine (next_is (-1) (n - 1) rfl (wf_near n n0 n1) 0 12 (nxt_zero (-1) (n - 1) (by omega) (by omega) (by omega)) (by decide) _).mono ?_
  rintro e w1 ⟨rfl, hb⟩
  have HB := Lib.hid hb
  clear hb
  go_wp2_with fail
  refine (next_is y b HY.out.1 WB.out 0 12 (nxt_zero y b (by have := HY.out; omega) (by have := HY.out; omega) (by have := HY.out; omega)) (by decide) _).mono ?_
  rintro e w2 ⟨rfl, hb⟩
  have HB2 := Lib.hid (thn HB.out hb)
  clear hb HB
  go_wp2_with fail
  refine (name0 (-1) (by omega) (by omega) (by omega) _).mono ?_
  rintro e w3 ⟨rfl, rfl⟩
  have hu : (some undef : Option Value) = some (Value.tuple #[]) := rfl
  obtain ⟨w3, hw3⟩ : ∃ w3, w2.alloc (.cells #[.string ⟨#[102, 114, 101, 101]⟩, .string ⟨#[108, 105, 118, 101]⟩, .string ⟨#[104, 101, 108, 100]⟩] 9) = w3 := ⟨_, rfl⟩
  obtain ⟨p, hp⟩ : ∃ p, w2.heap.size = p := ⟨_, rfl⟩
  have HB3 := Lib.hid (alc HB2.out (.cells #[.string ⟨#[102, 114, 101, 101]⟩, .string ⟨#[108, 105, 118, 101]⟩, .string ⟨#[104, 101, 108, 100]⟩] 9))
  have HC3 : Hid (w3.cell? ⟨p, 0, none⟩ = some (.string ⟨#[102, 114, 101, 101]⟩) ∧ p < w3.heap.size) := Lib.hid (by rw [← hw3, ← hp]; exact ⟨by simp, by simp⟩)
  rw [hw3] at HB3 ⊢
  rw [hp]
  clear hw3 hp HB2
  go_wp2_with fail
  refine (s19awake _).mono ?_
  rintro e w4 ⟨rfl, hb⟩
  have HB4 := Lib.hid (thn HB3.out hb)
  have HC4 : Hid (w4.cell? ⟨p, 0, none⟩ = some (.string ⟨#[102, 114, 101, 101]⟩) ∧ p < w4.heap.size) := Lib.hid ⟨(hb.cell (p := ⟨p, _, none⟩) HC3.out.2).trans HC3.out.1, Nat.lt_of_lt_of_le HC3.out.2 hb.size⟩
  clear hb HB3 HC3
  go_wp2_with fail
  refine (can_is (-1) (n - 1) rfl (wf_near n n0 n1) false (by rw [show nxt (-1) (n - 1) = 0 from nxt_zero (-1) (n - 1) (by omega) (by omega) (by omega)]; decide) _).mono ?_
  rintro e w5 ⟨rfl, hb⟩
  have HB5 := Lib.hid (thn HB4.out hb)
  have hc5 := (hb.cell (p := ⟨p, 0, none⟩) HC4.out.2).trans HC4.out.1
  clear hb HB4 HC4
  go_wp2
  go_ret
  exact ⟨rfl, HB5.out⟩
set_option maxRecDepth 8000 in
set_option maxHeartbeats 4000000 in
theorem sn1n (a b n : Int) (wb : (Lit.int .i64 b).wf = true) (ea : bits .and .i64 a 7 = 1) (eb : bits .and .i64 b 7 = n) (n0 : 0 ≤ n) (n1 : n ≤ 7) (w : World) :
    Calls Try.prog 7 #[.int .i64 a, .int .i64 b] w fun e w' => e = .returned (.bool true) ∧ Below w.heap.size w w' := by
  obtain ⟨y, hy, wy, y1, y2, y3⟩ : ∃ y, bits .or .i64 a 8 = y ∧ (Lit.int .i64 y).wf = true ∧ ¬ y = 1 ∧ ¬ y = 2 ∧ ¬ y = 3 := ⟨_, rfl, or8_wf a, or8_ne a 1 (by omega), or8_ne a 2 (by omega), or8_ne a 3 (by omega)⟩
  have HY := Lib.hid (And.intro wy (And.intro y1 (And.intro y2 y3)))
  have WB := Lib.hid wb
  clear wy y1 y2 y3 wb
  go_enter Try.func7, Try.ntmps7
  go_wp2_with fail
  refine (next_is 0 (n - 1) rfl (wf_near n n0 n1) 0 12 (nxt_zero (0) (n - 1) (by omega) (by omega) (by omega)) (by decide) _).mono ?_
  rintro e w1 ⟨rfl, hb⟩
  have HB := Lib.hid hb
  clear hb
  go_wp2_with fail
  refine (next_is y b HY.out.1 WB.out 0 12 (nxt_zero y b (by have := HY.out; omega) (by have := HY.out; omega) (by have := HY.out; omega)) (by decide) _).mono ?_
  rintro e w2 ⟨rfl, hb⟩
  have HB2 := Lib.hid (thn HB.out hb)
  clear hb HB
  go_wp2_with fail
  refine (name0 (0) (by omega) (by omega) (by omega) _).mono ?_
  rintro e w3 ⟨rfl, rfl⟩
  have hu : (some undef : Option Value) = some (Value.tuple #[]) := rfl
  obtain ⟨w3, hw3⟩ : ∃ w3, w2.alloc (.cells #[.string ⟨#[102, 114, 101, 101]⟩, .string ⟨#[108, 105, 118, 101]⟩, .string ⟨#[104, 101, 108, 100]⟩] 9) = w3 := ⟨_, rfl⟩
  obtain ⟨p, hp⟩ : ∃ p, w2.heap.size = p := ⟨_, rfl⟩
  have HB3 := Lib.hid (alc HB2.out (.cells #[.string ⟨#[102, 114, 101, 101]⟩, .string ⟨#[108, 105, 118, 101]⟩, .string ⟨#[104, 101, 108, 100]⟩] 9))
  have HC3 : Hid (w3.cell? ⟨p, 0, none⟩ = some (.string ⟨#[102, 114, 101, 101]⟩) ∧ p < w3.heap.size) := Lib.hid (by rw [← hw3, ← hp]; exact ⟨by simp, by simp⟩)
  rw [hw3] at HB3 ⊢
  rw [hp]
  clear hw3 hp HB2
  go_wp2_with fail
  refine (s19awake _).mono ?_
  rintro e w4 ⟨rfl, hb⟩
  have HB4 := Lib.hid (thn HB3.out hb)
  have HC4 : Hid (w4.cell? ⟨p, 0, none⟩ = some (.string ⟨#[102, 114, 101, 101]⟩) ∧ p < w4.heap.size) := Lib.hid ⟨(hb.cell (p := ⟨p, _, none⟩) HC3.out.2).trans HC3.out.1, Nat.lt_of_lt_of_le HC3.out.2 hb.size⟩
  clear hb HB3 HC3
  go_wp2_with fail
  refine (can_is 0 (n - 1) rfl (wf_near n n0 n1) false (by rw [show nxt 0 (n - 1) = 0 from nxt_zero (0) (n - 1) (by omega) (by omega) (by omega)]; decide) _).mono ?_
  rintro e w5 ⟨rfl, hb⟩
  have HB5 := Lib.hid (thn HB4.out hb)
  have hc5 := (hb.cell (p := ⟨p, 0, none⟩) HC4.out.2).trans HC4.out.1
  clear hb HB4 HC4
  go_wp2
  go_ret
  exact ⟨rfl, HB5.out⟩
set_option maxRecDepth 8000 in
set_option maxHeartbeats 4000000 in
theorem sn2n (a b n : Int) (wb : (Lit.int .i64 b).wf = true) (ea : bits .and .i64 a 7 = 2) (eb : bits .and .i64 b 7 = n) (n0 : 0 ≤ n) (n1 : n ≤ 7) (hne : ¬ n - 1 = 1) (w : World) :
    Calls Try.prog 7 #[.int .i64 a, .int .i64 b] w fun e w' => e = .returned (.bool true) ∧ Below w.heap.size w w' := by
  obtain ⟨y, hy, wy, y1, y2, y3⟩ : ∃ y, bits .or .i64 a 8 = y ∧ (Lit.int .i64 y).wf = true ∧ ¬ y = 1 ∧ ¬ y = 2 ∧ ¬ y = 3 := ⟨_, rfl, or8_wf a, or8_ne a 1 (by omega), or8_ne a 2 (by omega), or8_ne a 3 (by omega)⟩
  have HY := Lib.hid (And.intro wy (And.intro y1 (And.intro y2 y3)))
  have WB := Lib.hid wb
  clear wy y1 y2 y3 wb
  go_enter Try.func7, Try.ntmps7
  go_wp2_with fail
  refine (next_is 1 (n - 1) rfl (wf_near n n0 n1) 0 12 (nxt_zero (1) (n - 1) (by omega) (by omega) (by omega)) (by decide) _).mono ?_
  rintro e w1 ⟨rfl, hb⟩
  have HB := Lib.hid hb
  clear hb
  go_wp2_with fail
  refine (next_is y b HY.out.1 WB.out 0 12 (nxt_zero y b (by have := HY.out; omega) (by have := HY.out; omega) (by have := HY.out; omega)) (by decide) _).mono ?_
  rintro e w2 ⟨rfl, hb⟩
  have HB2 := Lib.hid (thn HB.out hb)
  clear hb HB
  go_wp2_with fail
  refine (name1 _).mono ?_
  rintro e w3 ⟨rfl, rfl⟩
  have hu : (some undef : Option Value) = some (Value.tuple #[]) := rfl
  obtain ⟨w3, hw3⟩ : ∃ w3, w2.alloc (.cells #[.string ⟨#[102, 114, 101, 101]⟩, .string ⟨#[108, 105, 118, 101]⟩, .string ⟨#[104, 101, 108, 100]⟩] 9) = w3 := ⟨_, rfl⟩
  obtain ⟨p, hp⟩ : ∃ p, w2.heap.size = p := ⟨_, rfl⟩
  have HB3 := Lib.hid (alc HB2.out (.cells #[.string ⟨#[102, 114, 101, 101]⟩, .string ⟨#[108, 105, 118, 101]⟩, .string ⟨#[104, 101, 108, 100]⟩] 9))
  have HC3 : Hid (w3.cell? ⟨p, 0, none⟩ = some (.string ⟨#[102, 114, 101, 101]⟩) ∧ p < w3.heap.size) := Lib.hid (by rw [← hw3, ← hp]; exact ⟨by simp, by simp⟩)
  rw [hw3] at HB3 ⊢
  rw [hp]
  clear hw3 hp HB2
  go_wp2_with fail
  refine (s19awake _).mono ?_
  rintro e w4 ⟨rfl, hb⟩
  have HB4 := Lib.hid (thn HB3.out hb)
  have HC4 : Hid (w4.cell? ⟨p, 0, none⟩ = some (.string ⟨#[102, 114, 101, 101]⟩) ∧ p < w4.heap.size) := Lib.hid ⟨(hb.cell (p := ⟨p, _, none⟩) HC3.out.2).trans HC3.out.1, Nat.lt_of_lt_of_le HC3.out.2 hb.size⟩
  clear hb HB3 HC3
  go_wp2_with fail
  refine (can_is 1 (n - 1) rfl (wf_near n n0 n1) false (by rw [show nxt 1 (n - 1) = 0 from nxt_zero (1) (n - 1) (by omega) (by omega) (by omega)]; decide) _).mono ?_
  rintro e w5 ⟨rfl, hb⟩
  have HB5 := Lib.hid (thn HB4.out hb)
  have hc5 := (hb.cell (p := ⟨p, 0, none⟩) HC4.out.2).trans HC4.out.1
  clear hb HB4 HC4
  go_wp2
  go_ret
  exact ⟨rfl, HB5.out⟩
set_option maxRecDepth 8000 in
set_option maxHeartbeats 4000000 in
theorem sn3n (a b n : Int) (wb : (Lit.int .i64 b).wf = true) (ea : bits .and .i64 a 7 = 3) (eb : bits .and .i64 b 7 = n) (n0 : 0 ≤ n) (n1 : n ≤ 7) (hne : ¬ n - 1 = 2) (w : World) :
    Calls Try.prog 7 #[.int .i64 a, .int .i64 b] w fun e w' => e = .returned (.bool true) ∧ Below w.heap.size w w' := by
  obtain ⟨y, hy, wy, y1, y2, y3⟩ : ∃ y, bits .or .i64 a 8 = y ∧ (Lit.int .i64 y).wf = true ∧ ¬ y = 1 ∧ ¬ y = 2 ∧ ¬ y = 3 := ⟨_, rfl, or8_wf a, or8_ne a 1 (by omega), or8_ne a 2 (by omega), or8_ne a 3 (by omega)⟩
  have HY := Lib.hid (And.intro wy (And.intro y1 (And.intro y2 y3)))
  have WB := Lib.hid wb
  clear wy y1 y2 y3 wb
  go_enter Try.func7, Try.ntmps7
  go_wp2_with fail
  refine (next_is 2 (n - 1) rfl (wf_near n n0 n1) 0 12 (nxt_zero (2) (n - 1) (by omega) (by omega) (by omega)) (by decide) _).mono ?_
  rintro e w1 ⟨rfl, hb⟩
  have HB := Lib.hid hb
  clear hb
  go_wp2_with fail
  refine (next_is y b HY.out.1 WB.out 0 12 (nxt_zero y b (by have := HY.out; omega) (by have := HY.out; omega) (by have := HY.out; omega)) (by decide) _).mono ?_
  rintro e w2 ⟨rfl, hb⟩
  have HB2 := Lib.hid (thn HB.out hb)
  clear hb HB
  go_wp2_with fail
  refine (name2 _).mono ?_
  rintro e w3 ⟨rfl, rfl⟩
  have hu : (some undef : Option Value) = some (Value.tuple #[]) := rfl
  obtain ⟨w3, hw3⟩ : ∃ w3, w2.alloc (.cells #[.string ⟨#[102, 114, 101, 101]⟩, .string ⟨#[108, 105, 118, 101]⟩, .string ⟨#[104, 101, 108, 100]⟩] 9) = w3 := ⟨_, rfl⟩
  obtain ⟨p, hp⟩ : ∃ p, w2.heap.size = p := ⟨_, rfl⟩
  have HB3 := Lib.hid (alc HB2.out (.cells #[.string ⟨#[102, 114, 101, 101]⟩, .string ⟨#[108, 105, 118, 101]⟩, .string ⟨#[104, 101, 108, 100]⟩] 9))
  have HC3 : Hid (w3.cell? ⟨p, 1, none⟩ = some (.string ⟨#[108, 105, 118, 101]⟩) ∧ p < w3.heap.size) := Lib.hid (by rw [← hw3, ← hp]; exact ⟨by simp, by simp⟩)
  rw [hw3] at HB3 ⊢
  rw [hp]
  clear hw3 hp HB2
  go_wp2_with fail
  refine (s19awake _).mono ?_
  rintro e w4 ⟨rfl, hb⟩
  have HB4 := Lib.hid (thn HB3.out hb)
  have HC4 : Hid (w4.cell? ⟨p, 1, none⟩ = some (.string ⟨#[108, 105, 118, 101]⟩) ∧ p < w4.heap.size) := Lib.hid ⟨(hb.cell (p := ⟨p, _, none⟩) HC3.out.2).trans HC3.out.1, Nat.lt_of_lt_of_le HC3.out.2 hb.size⟩
  clear hb HB3 HC3
  go_wp2_with fail
  refine (can_is 2 (n - 1) rfl (wf_near n n0 n1) false (by rw [show nxt 2 (n - 1) = 0 from nxt_zero (2) (n - 1) (by omega) (by omega) (by omega)]; decide) _).mono ?_
  rintro e w5 ⟨rfl, hb⟩
  have HB5 := Lib.hid (thn HB4.out hb)
  have hc5 := (hb.cell (p := ⟨p, 1, none⟩) HC4.out.2).trans HC4.out.1
  clear hb HB4 HC4
  go_wp2
  go_ret
  exact ⟨rfl, HB5.out⟩
set_option maxRecDepth 8000 in
set_option maxHeartbeats 4000000 in
theorem sn4n (a b n : Int) (wb : (Lit.int .i64 b).wf = true) (ea : bits .and .i64 a 7 = 4) (eb : bits .and .i64 b 7 = n) (n0 : 0 ≤ n) (n1 : n ≤ 7) (hne : ¬ n - 1 = 3) (w : World) :
    Calls Try.prog 7 #[.int .i64 a, .int .i64 b] w fun e w' => e = .returned (.bool true) ∧ Below w.heap.size w w' := by
  obtain ⟨y, hy, wy, y1, y2, y3⟩ : ∃ y, bits .or .i64 a 8 = y ∧ (Lit.int .i64 y).wf = true ∧ ¬ y = 1 ∧ ¬ y = 2 ∧ ¬ y = 3 := ⟨_, rfl, or8_wf a, or8_ne a 1 (by omega), or8_ne a 2 (by omega), or8_ne a 3 (by omega)⟩
  have HY := Lib.hid (And.intro wy (And.intro y1 (And.intro y2 y3)))
  have WB := Lib.hid wb
  clear wy y1 y2 y3 wb
  go_enter Try.func7, Try.ntmps7
  go_wp2_with fail
  refine (next_is 3 (n - 1) rfl (wf_near n n0 n1) 0 12 (nxt_zero (3) (n - 1) (by omega) (by omega) (by omega)) (by decide) _).mono ?_
  rintro e w1 ⟨rfl, hb⟩
  have HB := Lib.hid hb
  clear hb
  go_wp2_with fail
  refine (next_is y b HY.out.1 WB.out 0 12 (nxt_zero y b (by have := HY.out; omega) (by have := HY.out; omega) (by have := HY.out; omega)) (by decide) _).mono ?_
  rintro e w2 ⟨rfl, hb⟩
  have HB2 := Lib.hid (thn HB.out hb)
  clear hb HB
  go_wp2_with fail
  refine (name3 _).mono ?_
  rintro e w3 ⟨rfl, rfl⟩
  have hu : (some undef : Option Value) = some (Value.tuple #[]) := rfl
  obtain ⟨w3, hw3⟩ : ∃ w3, w2.alloc (.cells #[.string ⟨#[102, 114, 101, 101]⟩, .string ⟨#[108, 105, 118, 101]⟩, .string ⟨#[104, 101, 108, 100]⟩] 9) = w3 := ⟨_, rfl⟩
  obtain ⟨p, hp⟩ : ∃ p, w2.heap.size = p := ⟨_, rfl⟩
  have HB3 := Lib.hid (alc HB2.out (.cells #[.string ⟨#[102, 114, 101, 101]⟩, .string ⟨#[108, 105, 118, 101]⟩, .string ⟨#[104, 101, 108, 100]⟩] 9))
  have HC3 : Hid (w3.cell? ⟨p, 2, none⟩ = some (.string ⟨#[104, 101, 108, 100]⟩) ∧ p < w3.heap.size) := Lib.hid (by rw [← hw3, ← hp]; exact ⟨by simp, by simp⟩)
  rw [hw3] at HB3 ⊢
  rw [hp]
  clear hw3 hp HB2
  go_wp2_with fail
  refine (s19awake _).mono ?_
  rintro e w4 ⟨rfl, hb⟩
  have HB4 := Lib.hid (thn HB3.out hb)
  have HC4 : Hid (w4.cell? ⟨p, 2, none⟩ = some (.string ⟨#[104, 101, 108, 100]⟩) ∧ p < w4.heap.size) := Lib.hid ⟨(hb.cell (p := ⟨p, _, none⟩) HC3.out.2).trans HC3.out.1, Nat.lt_of_lt_of_le HC3.out.2 hb.size⟩
  clear hb HB3 HC3
  go_wp2_with fail
  refine (can_is 3 (n - 1) rfl (wf_near n n0 n1) false (by rw [show nxt 3 (n - 1) = 0 from nxt_zero (3) (n - 1) (by omega) (by omega) (by omega)]; decide) _).mono ?_
  rintro e w5 ⟨rfl, hb⟩
  have HB5 := Lib.hid (thn HB4.out hb)
  have hc5 := (hb.cell (p := ⟨p, 2, none⟩) HC4.out.2).trans HC4.out.1
  clear hb HB4 HC4
  go_wp2
  go_ret
  exact ⟨rfl, HB5.out⟩
set_option maxRecDepth 8000 in
set_option maxHeartbeats 4000000 in
theorem sn5n (a b n : Int) (wb : (Lit.int .i64 b).wf = true) (ea : bits .and .i64 a 7 = 5) (eb : bits .and .i64 b 7 = n) (n0 : 0 ≤ n) (n1 : n ≤ 7) (w : World) :
    Calls Try.prog 7 #[.int .i64 a, .int .i64 b] w fun e w' => e = .returned (.bool true) ∧ Below w.heap.size w w' := by
  obtain ⟨y, hy, wy, y1, y2, y3⟩ : ∃ y, bits .or .i64 a 8 = y ∧ (Lit.int .i64 y).wf = true ∧ ¬ y = 1 ∧ ¬ y = 2 ∧ ¬ y = 3 := ⟨_, rfl, or8_wf a, or8_ne a 1 (by omega), or8_ne a 2 (by omega), or8_ne a 3 (by omega)⟩
  have HY := Lib.hid (And.intro wy (And.intro y1 (And.intro y2 y3)))
  have WB := Lib.hid wb
  clear wy y1 y2 y3 wb
  go_enter Try.func7, Try.ntmps7
  go_wp2_with fail
  refine (next_is 4 (n - 1) rfl (wf_near n n0 n1) 0 12 (nxt_zero (4) (n - 1) (by omega) (by omega) (by omega)) (by decide) _).mono ?_
  rintro e w1 ⟨rfl, hb⟩
  have HB := Lib.hid hb
  clear hb
  go_wp2_with fail
  refine (next_is y b HY.out.1 WB.out 0 12 (nxt_zero y b (by have := HY.out; omega) (by have := HY.out; omega) (by have := HY.out; omega)) (by decide) _).mono ?_
  rintro e w2 ⟨rfl, hb⟩
  have HB2 := Lib.hid (thn HB.out hb)
  clear hb HB
  go_wp2_with fail
  refine (name0 (4) (by omega) (by omega) (by omega) _).mono ?_
  rintro e w3 ⟨rfl, rfl⟩
  have hu : (some undef : Option Value) = some (Value.tuple #[]) := rfl
  obtain ⟨w3, hw3⟩ : ∃ w3, w2.alloc (.cells #[.string ⟨#[102, 114, 101, 101]⟩, .string ⟨#[108, 105, 118, 101]⟩, .string ⟨#[104, 101, 108, 100]⟩] 9) = w3 := ⟨_, rfl⟩
  obtain ⟨p, hp⟩ : ∃ p, w2.heap.size = p := ⟨_, rfl⟩
  have HB3 := Lib.hid (alc HB2.out (.cells #[.string ⟨#[102, 114, 101, 101]⟩, .string ⟨#[108, 105, 118, 101]⟩, .string ⟨#[104, 101, 108, 100]⟩] 9))
  have HC3 : Hid (w3.cell? ⟨p, 2, none⟩ = some (.string ⟨#[104, 101, 108, 100]⟩) ∧ p < w3.heap.size) := Lib.hid (by rw [← hw3, ← hp]; exact ⟨by simp, by simp⟩)
  rw [hw3] at HB3 ⊢
  rw [hp]
  clear hw3 hp HB2
  go_wp2_with fail
  refine (s19awake _).mono ?_
  rintro e w4 ⟨rfl, hb⟩
  have HB4 := Lib.hid (thn HB3.out hb)
  have HC4 : Hid (w4.cell? ⟨p, 2, none⟩ = some (.string ⟨#[104, 101, 108, 100]⟩) ∧ p < w4.heap.size) := Lib.hid ⟨(hb.cell (p := ⟨p, _, none⟩) HC3.out.2).trans HC3.out.1, Nat.lt_of_lt_of_le HC3.out.2 hb.size⟩
  clear hb HB3 HC3
  go_wp2_with fail
  refine (can_is 4 (n - 1) rfl (wf_near n n0 n1) false (by rw [show nxt 4 (n - 1) = 0 from nxt_zero (4) (n - 1) (by omega) (by omega) (by omega)]; decide) _).mono ?_
  rintro e w5 ⟨rfl, hb⟩
  have HB5 := Lib.hid (thn HB4.out hb)
  have hc5 := (hb.cell (p := ⟨p, 2, none⟩) HC4.out.2).trans HC4.out.1
  clear hb HB4 HC4
  go_wp2
  go_ret
  exact ⟨rfl, HB5.out⟩
set_option maxRecDepth 8000 in
set_option maxHeartbeats 4000000 in
theorem sn6n (a b n : Int) (wb : (Lit.int .i64 b).wf = true) (ea : bits .and .i64 a 7 = 6) (eb : bits .and .i64 b 7 = n) (n0 : 0 ≤ n) (n1 : n ≤ 7) (w : World) :
    Calls Try.prog 7 #[.int .i64 a, .int .i64 b] w fun e w' => e = .returned (.bool true) ∧ Below w.heap.size w w' := by
  obtain ⟨y, hy, wy, y1, y2, y3⟩ : ∃ y, bits .or .i64 a 8 = y ∧ (Lit.int .i64 y).wf = true ∧ ¬ y = 1 ∧ ¬ y = 2 ∧ ¬ y = 3 := ⟨_, rfl, or8_wf a, or8_ne a 1 (by omega), or8_ne a 2 (by omega), or8_ne a 3 (by omega)⟩
  have HY := Lib.hid (And.intro wy (And.intro y1 (And.intro y2 y3)))
  have WB := Lib.hid wb
  clear wy y1 y2 y3 wb
  go_enter Try.func7, Try.ntmps7
  go_wp2_with fail
  refine (next_is 5 (n - 1) rfl (wf_near n n0 n1) 0 12 (nxt_zero (5) (n - 1) (by omega) (by omega) (by omega)) (by decide) _).mono ?_
  rintro e w1 ⟨rfl, hb⟩
  have HB := Lib.hid hb
  clear hb
  go_wp2_with fail
  refine (next_is y b HY.out.1 WB.out 0 12 (nxt_zero y b (by have := HY.out; omega) (by have := HY.out; omega) (by have := HY.out; omega)) (by decide) _).mono ?_
  rintro e w2 ⟨rfl, hb⟩
  have HB2 := Lib.hid (thn HB.out hb)
  clear hb HB
  go_wp2_with fail
  refine (name0 (5) (by omega) (by omega) (by omega) _).mono ?_
  rintro e w3 ⟨rfl, rfl⟩
  have hu : (some undef : Option Value) = some (Value.tuple #[]) := rfl
  obtain ⟨w3, hw3⟩ : ∃ w3, w2.alloc (.cells #[.string ⟨#[102, 114, 101, 101]⟩, .string ⟨#[108, 105, 118, 101]⟩, .string ⟨#[104, 101, 108, 100]⟩] 9) = w3 := ⟨_, rfl⟩
  obtain ⟨p, hp⟩ : ∃ p, w2.heap.size = p := ⟨_, rfl⟩
  have HB3 := Lib.hid (alc HB2.out (.cells #[.string ⟨#[102, 114, 101, 101]⟩, .string ⟨#[108, 105, 118, 101]⟩, .string ⟨#[104, 101, 108, 100]⟩] 9))
  have HC3 : Hid (w3.cell? ⟨p, 2, none⟩ = some (.string ⟨#[104, 101, 108, 100]⟩) ∧ p < w3.heap.size) := Lib.hid (by rw [← hw3, ← hp]; exact ⟨by simp, by simp⟩)
  rw [hw3] at HB3 ⊢
  rw [hp]
  clear hw3 hp HB2
  go_wp2_with fail
  refine (s19awake _).mono ?_
  rintro e w4 ⟨rfl, hb⟩
  have HB4 := Lib.hid (thn HB3.out hb)
  have HC4 : Hid (w4.cell? ⟨p, 2, none⟩ = some (.string ⟨#[104, 101, 108, 100]⟩) ∧ p < w4.heap.size) := Lib.hid ⟨(hb.cell (p := ⟨p, _, none⟩) HC3.out.2).trans HC3.out.1, Nat.lt_of_lt_of_le HC3.out.2 hb.size⟩
  clear hb HB3 HC3
  go_wp2_with fail
  refine (can_is 5 (n - 1) rfl (wf_near n n0 n1) false (by rw [show nxt 5 (n - 1) = 0 from nxt_zero (5) (n - 1) (by omega) (by omega) (by omega)]; decide) _).mono ?_
  rintro e w5 ⟨rfl, hb⟩
  have HB5 := Lib.hid (thn HB4.out hb)
  have hc5 := (hb.cell (p := ⟨p, 2, none⟩) HC4.out.2).trans HC4.out.1
  clear hb HB4 HC4
  go_wp2
  go_ret
  exact ⟨rfl, HB5.out⟩
set_option maxRecDepth 8000 in
set_option maxHeartbeats 4000000 in
theorem sn7n (a b n : Int) (wb : (Lit.int .i64 b).wf = true) (ea : bits .and .i64 a 7 = 7) (eb : bits .and .i64 b 7 = n) (n0 : 0 ≤ n) (n1 : n ≤ 7) (w : World) :
    Calls Try.prog 7 #[.int .i64 a, .int .i64 b] w fun e w' => e = .returned (.bool true) ∧ Below w.heap.size w w' := by
  obtain ⟨y, hy, wy, y1, y2, y3⟩ : ∃ y, bits .or .i64 a 8 = y ∧ (Lit.int .i64 y).wf = true ∧ ¬ y = 1 ∧ ¬ y = 2 ∧ ¬ y = 3 := ⟨_, rfl, or8_wf a, or8_ne a 1 (by omega), or8_ne a 2 (by omega), or8_ne a 3 (by omega)⟩
  have HY := Lib.hid (And.intro wy (And.intro y1 (And.intro y2 y3)))
  have WB := Lib.hid wb
  clear wy y1 y2 y3 wb
  go_enter Try.func7, Try.ntmps7
  go_wp2_with fail
  refine (next_is 6 (n - 1) rfl (wf_near n n0 n1) 0 12 (nxt_zero (6) (n - 1) (by omega) (by omega) (by omega)) (by decide) _).mono ?_
  rintro e w1 ⟨rfl, hb⟩
  have HB := Lib.hid hb
  clear hb
  go_wp2_with fail
  refine (next_is y b HY.out.1 WB.out 0 12 (nxt_zero y b (by have := HY.out; omega) (by have := HY.out; omega) (by have := HY.out; omega)) (by decide) _).mono ?_
  rintro e w2 ⟨rfl, hb⟩
  have HB2 := Lib.hid (thn HB.out hb)
  clear hb HB
  go_wp2_with fail
  refine (name0 (6) (by omega) (by omega) (by omega) _).mono ?_
  rintro e w3 ⟨rfl, rfl⟩
  have hu : (some undef : Option Value) = some (Value.tuple #[]) := rfl
  obtain ⟨w3, hw3⟩ : ∃ w3, w2.alloc (.cells #[.string ⟨#[102, 114, 101, 101]⟩, .string ⟨#[108, 105, 118, 101]⟩, .string ⟨#[104, 101, 108, 100]⟩] 9) = w3 := ⟨_, rfl⟩
  obtain ⟨p, hp⟩ : ∃ p, w2.heap.size = p := ⟨_, rfl⟩
  have HB3 := Lib.hid (alc HB2.out (.cells #[.string ⟨#[102, 114, 101, 101]⟩, .string ⟨#[108, 105, 118, 101]⟩, .string ⟨#[104, 101, 108, 100]⟩] 9))
  have HC3 : Hid (w3.cell? ⟨p, 2, none⟩ = some (.string ⟨#[104, 101, 108, 100]⟩) ∧ p < w3.heap.size) := Lib.hid (by rw [← hw3, ← hp]; exact ⟨by simp, by simp⟩)
  rw [hw3] at HB3 ⊢
  rw [hp]
  clear hw3 hp HB2
  go_wp2_with fail
  refine (s19awake _).mono ?_
  rintro e w4 ⟨rfl, hb⟩
  have HB4 := Lib.hid (thn HB3.out hb)
  have HC4 : Hid (w4.cell? ⟨p, 2, none⟩ = some (.string ⟨#[104, 101, 108, 100]⟩) ∧ p < w4.heap.size) := Lib.hid ⟨(hb.cell (p := ⟨p, _, none⟩) HC3.out.2).trans HC3.out.1, Nat.lt_of_lt_of_le HC3.out.2 hb.size⟩
  clear hb HB3 HC3
  go_wp2_with fail
  refine (can_is 6 (n - 1) rfl (wf_near n n0 n1) false (by rw [show nxt 6 (n - 1) = 0 from nxt_zero (6) (n - 1) (by omega) (by omega) (by omega)]; decide) _).mono ?_
  rintro e w5 ⟨rfl, hb⟩
  have HB5 := Lib.hid (thn HB4.out hb)
  have hc5 := (hb.cell (p := ⟨p, 2, none⟩) HC4.out.2).trans HC4.out.1
  clear hb HB4 HC4
  go_wp2
  go_ret
  exact ⟨rfl, HB5.out⟩
theorem walkStateNext (a0 : Int) (a1 : Int) (w : World) (w0 : (Lit.int .i64 a0).wf = true) (w1 : (Lit.int .i64 a1).wf = true) :
    Calls Try.prog 7 #[.int .i64 a0, .int .i64 a1] w fun e w' => e = .returned (.bool true) ∧ Below w.heap.size w w' := by
  have ea := and7 a0
  have eb := and7 a1
  have a00 : 0 ≤ a0 % 8 := Int.emod_nonneg _ (by decide)
  have a01 : a0 % 8 < 8 := Int.emod_lt_of_pos _ (by decide)
  have b00 : 0 ≤ a1 % 8 := Int.emod_nonneg _ (by decide)
  have b01 : a1 % 8 < 8 := Int.emod_lt_of_pos _ (by decide)
  have hs : a0 % 8 = 0 ∨ a0 % 8 = 1 ∨ a0 % 8 = 2 ∨ a0 % 8 = 3 ∨ a0 % 8 = 4 ∨ a0 % 8 = 5 ∨ a0 % 8 = 6 ∨ a0 % 8 = 7 := by omega
  rcases hs with h | h | h | h | h | h | h | h
  · rw [h] at ea
    exact sn0n a0 a1 (a1 % 8) w1 ea eb b00 (by omega) w
  · rw [h] at ea
    exact sn1n a0 a1 (a1 % 8) w1 ea eb b00 (by omega) w
  · rw [h] at ea
    by_cases hx : a1 % 8 = 2
    · rw [hx] at eb
      exact sn2y a0 a1 w1 ea eb w
    · exact sn2n a0 a1 (a1 % 8) w1 ea eb b00 (by omega) (by omega) w
  · rw [h] at ea
    by_cases hx : a1 % 8 = 3
    · rw [hx] at eb
      exact sn3y a0 a1 w1 ea eb w
    · exact sn3n a0 a1 (a1 % 8) w1 ea eb b00 (by omega) (by omega) w
  · rw [h] at ea
    by_cases hx : a1 % 8 = 4
    · rw [hx] at eb
      exact sn4y a0 a1 w1 ea eb w
    · exact sn4n a0 a1 (a1 % 8) w1 ea eb b00 (by omega) (by omega) w
  · rw [h] at ea
    exact sn5n a0 a1 (a1 % 8) w1 ea eb b00 (by omega) w
  · rw [h] at ea
    exact sn6n a0 a1 (a1 % 8) w1 ea eb b00 (by omega) w
  · rw [h] at ea
    exact sn7n a0 a1 (a1 % 8) w1 ea eb b00 (by omega) w
end Go.Proofs.Ytbmcgoodilomlaa
