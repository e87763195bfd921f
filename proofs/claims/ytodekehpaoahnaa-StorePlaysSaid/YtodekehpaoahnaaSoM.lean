/- The store: SetWord; the law's may. -/
import Derived.Test.YtodekehpaoahnaaSoL
namespace Go.Proofs.Ytodekehpaoahnaa
open Go.RowKit Go.ChangeMaps Go.MapKept
open Go.Maps (Keyed)
set_option linter.unusedVariables false
set_option linter.unusedSimpArgs false

theorem sset_no (p : Option Addr) (a : Int) (n : Nat) (W : World) (hn : n < 18446744073709551616) (h : p = none ∨ mayB a 8 = false) : Calls Try.prog 9 #[.pointer p, .int .i64 a, .int .u64 (n : Int)] W fun e w' => e = .returned (.bool false) ∧ Below W.heap.size W w' :=
  sset_any p a n W hn _ fun w hb hp => (swrite_no p a _ 8 8 w (by simpa using h)).mono fun e w' ⟨he, hb2⟩ => ⟨false, he, he, thn hb hb2⟩
theorem sset_yes (B g : Nat) (W : World) (c : Nat → Nat) (h : ST B g W c) (a n : Nat) (hn : n < 18446744073709551616) (ha : a + 8 ≤ 262144) : Calls Try.prog 9 #[.pointer (some ⟨g, 0, none⟩), .int .i64 (a : Int), .int .u64 (n : Int)] W fun e w' => (e = .returned (.bool true) ∧ ST B g w' (over c a 8 (wb n))) ∧ W.heap.size ≤ w'.heap.size ∧ Below B W w' := by
  obtain ⟨b, l, h⟩ := h
  have hBW : B ≤ W.heap.size := by have := h.2.1.1; have := h.2.1.2.2.2.1; omega
  exact sset_any _ a n W hn _ fun w hb hp => (swrite_yes B g b w l c (wb n) (h.below hb) a 8 W.heap.size 0 8 (by decide) ha (by decide) (fun i hi => by rw [Nat.zero_add]; exact hp.2.1 i hi) (fun pq hpq => by have := h.lt pq hpq; omega)).mono fun e w' ⟨⟨he, hs⟩, hz, hb2⟩ => ⟨true, he, ⟨he, hs⟩, Nat.le_trans hb.size hz, (hb.mono hBW).trans hb2⟩
theorem lmay (a k : Int) (W : World) (hk : k ≤ 262144) : Calls Try.prog 15 #[.int .i64 a, .int .i64 k] W fun e w' => e = .returned (.bool (mayB a k)) ∧ Below W.heap.size W w' := by
  go_enter Try.func15, Try.ntmps15
  by_cases h0 : 0 ≤ a
  · by_cases h1 : a < 262144
    · by_cases h2 : 0 < k
      · have f1 : IntKind.i64.wrap (262144 - a) = 262144 - a := by rw [IntKind.wrap_i64]; omega
        by_cases h3 : k ≤ 262144 - a
        · have hm : mayB a k = true := mayB_iff.2 (by omega)
          have HM := Lib.hid hm
          clear hm
          go_wp2
          try go_ret
          exact ⟨by rw [HM.out]; rfl, Below.refl _ _⟩
        · have hm : mayB a k = false := by rw [← Bool.not_eq_true, mayB_iff]; omega
          have HM := Lib.hid hm
          clear hm
          go_wp2
          try go_ret
          exact ⟨by rw [HM.out]; rfl, Below.refl _ _⟩
      · have hm : mayB a k = false := by rw [← Bool.not_eq_true, mayB_iff]; omega
        have HM := Lib.hid hm
        clear hm
        go_wp2
        try go_ret
        exact ⟨by rw [HM.out]; rfl, Below.refl _ _⟩
    · have hm : mayB a k = false := by rw [← Bool.not_eq_true, mayB_iff]; omega
      have HM := Lib.hid hm
      clear hm
      go_wp2
      try go_ret
      exact ⟨by rw [HM.out]; rfl, Below.refl _ _⟩
  · have hm : mayB a k = false := by rw [← Bool.not_eq_true, mayB_iff]; omega
    have HM := Lib.hid hm
    clear hm
    go_wp2
    try go_ret
    exact ⟨by rw [HM.out]; rfl, Below.refl _ _⟩
theorem k_lt (x : Nat) : over (fun _ => 0) 0 8 (wb 258) x < 256 := by
  unfold over
  split
  · exact Nat.mod_lt _ (by decide)
  · exact Nat.zero_lt_succ 255
theorem awake_ok (W : World) : Calls Try.prog 13 #[] W fun e w' => e = .returned (.bool true) ∧ Below W.heap.size W w' := by
  go_enter Try.func13, Try.ntmps13
  go_wp2_with fail
  with_reducible refine Calls.mono (snew W) ?_
  rintro e w1 ⟨g, b, rfl, hs, hb⟩
  have HB1 := Lib.hid hb
  have k1 : Calls Try.prog 9 #[.pointer (some ⟨g, 0, none⟩), .int .i64 0, .int .u64 258] w1 _ := sset_yes W.heap.size g w1 _ ⟨b, _, hs⟩ 0 258 (by decide) (by decide)
  have K1 := Lib.hid k1
  clear k1 hs hb
  go_wp2_with fail
  with_reducible refine Calls.mono K1.out ?_
  rintro e w2 ⟨⟨rfl, hs⟩, hz, hb⟩
  have HB2 : Hid (Below W.heap.size W w2) := Lib.hid (HB1.out.trans hb)
  have HS := Lib.hid hs
  have k2 : Calls Try.prog 14 #[.pointer (some ⟨g, 0, none⟩), .int .i64 0] w2 fun e w' => e = .returned (.int .u8 2) ∧ Below w2.heap.size w2 w' := sget_yes W.heap.size g w2 _ hs 0 (by decide)
  have K2 := Lib.hid k2
  clear k2 hz hb hs K1
  go_wp2_with fail
  with_reducible refine Calls.mono K2.out ?_
  rintro e w3 ⟨rfl, hb⟩
  have hs := HS.out.below hb
  have HB3 : Hid (Below W.heap.size W w3) := Lib.hid (thn HB2.out hb)
  have HS3 := Lib.hid hs
  have k2 : Calls Try.prog 14 #[.pointer (some ⟨g, 0, none⟩), .int .i64 1] w3 fun e w' => e = .returned (.int .u8 1) ∧ Below w3.heap.size w3 w' := sget_yes W.heap.size g w3 _ hs 1 (by decide)
  have K3 := Lib.hid k2
  clear k2 hb hs K2 HS HB2
  go_wp2_with fail
  with_reducible refine Calls.mono K3.out ?_
  rintro e w4 ⟨rfl, hb⟩
  have hs := HS3.out.below hb
  have HB4 : Hid (Below W.heap.size W w4) := Lib.hid (thn HB3.out hb)
  have HS4 := Lib.hid hs
  have k2 : Calls Try.prog 10 #[.pointer (some ⟨g, 0, none⟩), .int .i64 0] w4 fun e w' => e = .returned (.int .u64 258) ∧ Below w4.heap.size w4 w' := sword_yes W.heap.size g w4 _ hs k_lt 0 (by decide)
  have K4 := Lib.hid k2
  clear k2 hb hs K3 HS3 HB3
  go_wp2_with fail
  with_reducible refine Calls.mono K4.out ?_
  rintro e w5 ⟨rfl, hb⟩
  have hs := HS4.out.below hb
  have HB5 : Hid (Below W.heap.size W w5) := Lib.hid (thn HB4.out hb)
  have k2 := sread_yes W.heap.size g w5 _ hs 0 3 (by decide) (by decide)
  have K5 : Hid (Calls Try.prog 12 #[.pointer (some ⟨g, 0, none⟩), .int .i64 0, .int .i64 3] w5 fun e w' => ∃ D : Nat, e = .returned (.slice (some ⟨D, 0, none⟩) 3 3) ∧ Below w5.heap.size w5 w') := Lib.hid (k2.mono fun e w' ⟨⟨D, he, _⟩, hb2⟩ => ⟨D, he, hb2⟩)
  clear k2 hb hs K4 HS4 HB4
  go_wp2_with fail
  with_reducible refine Calls.mono K5.out ?_
  rintro e w6 ⟨D, rfl, hb⟩
  have HB6 : Hid (Below W.heap.size W w6) := Lib.hid (thn HB5.out hb)
  clear hb
  go_wp2
  try go_ret
  exact ⟨rfl, HB6.out⟩
end Go.Proofs.Ytodekehpaoahnaa
