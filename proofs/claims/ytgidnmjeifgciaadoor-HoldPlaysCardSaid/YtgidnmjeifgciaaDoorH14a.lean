/- H14, H14a in one text: a claim holds at most 60 files. -/
import Derived.Test.YtgidnmjeifgciaaDoorRfB
import Derived.Test.YtgidnmjeifgciaaDoorCkL
import Derived.Test.YtgidnmjeifgciaaDoorHdC
import Derived.Test.YtgidnmjeifgciaaDoorMmN
import Derived.Deep.RegionHeld3
namespace Go.Proofs.YtgidnmjeifgciaaDoor
set_option maxRecDepth 100000
open Go.RowKit Go.ChangeMaps Go.MapKept
set_option linter.unusedVariables false
set_option linter.unusedSimpArgs false

/-- What a granule is refused for, by the document's memory. -/
def slotR (r : RS) (b l c p t : Int) (v : Bool) (q : Int) : Int := if accR r b l c p t v 16 q = 0 then (if c % 16 = 0 then 0 else 10) else accR r b l c p t v 16 q
theorem accR_nat {r : RS} {b l c p t : Int} {v : Bool} {n q : Int} (h : accR r b l c p t v n q = 0) : 0 ≤ c ∧ c ≤ 262144 := by
  unfold accR at h
  cases h1 : aliveR r b l c p t v with
  | false => rw [h1] at h; cases h
  | true =>
    cases h2 : bits .and .i64 p q == q with
    | false => rw [h1, h2] at h; cases h
    | true =>
      cases h3 : insideB b l c n with
      | false => rw [h1, h2, h3] at h; cases h
      | true =>
        simp only [insideB, Bool.and_eq_true, mayB_iff, decide_eq_true_eq] at h3
        omega
set_option maxHeartbeats 3200000 in
theorem rslot (res : Int) (r : RS) (hr : r.One) (b l c p t : Int) (v : Bool) (q : Int) (W : World) (hres : slotR r b l c p t v q = res) :
    Calls Tryd.prog 36 #[.agg r.l.toArray, .agg #[.int .i64 b, .int .i64 l, .int .i64 c, .int .i64 p, .int .i64 t, .bool v], .int .i64 q] W fun e w' => e = .returned (.int .i64 res) ∧ Below W.heap.size W w' := by
  have HRA0 := Lib.hid ((RAt.new W r 34).below (alc0 _ (.cells #[.int .i64 b, .int .i64 l, .int .i64 c, .int .i64 p, .int .i64 t, .bool v] 31)))
  have HRG := Lib.hid HRA0.out.range
  have hLs : r.l.toArray.size = 3080 := by rw [List.size_toArray, RS.len]
  have hL1 := RS.one hr
  have HX0 := Lib.hid (CapAt.new2' W (.cells r.l.toArray 34) b l c p t v 31)
  have HI1 := Lib.hid (RS.info r)
  have HBW := Lib.hid (alc (alc0 W (.cells r.l.toArray 34)) (.cells #[.int .i64 b, .int .i64 l, .int .i64 c, .int .i64 p, .int .i64 t, .bool v] 31))
  unfold slotR at hres
  by_cases h0 : accR r b l c p t v 16 q = 0
  · rw [if_pos h0] at hres
    have HC := Lib.hid (fun W => raccess 0 r hr b l c p t v 16 q W h0)
    have HN := Lib.hid (accR_nat h0)
    obtain ⟨b0, b1⟩ := accR_nat h0
    clear hr h0
    generalize hL : r.l.toArray = L at *
    have HL := Lib.hid hL
    clear hL
    by_cases hc : c % 16 = 0
    · rw [if_pos hc] at hres
      obtain rfl : 0 = res := hres
      have g1 : (c.tmod 16 != 0) = false := by
        rw [Int.tmod_eq_emod_of_nonneg b0, hc]; rfl
      have g2 : (c % 16 != 0) = false := by rw [hc]; rfl
      clear hc
      go_enter Tryd.func36, Tryd.ntmps36
      go_wp2_with (refine wpList_load_mid rfl 34 (.tmp 3) rfl W.heap.size 0 rfl r.l _ HRG.out Tryd.underlying34 rfl HI1.out ?_)
      rw [HL.out]
      refine (HC.out _).mono ?_
      rintro e w1 ⟨rfl, hb⟩
      have HB := Lib.hid (thn HBW.out hb)
      obtain ⟨-, c0, c1, c2, c3, c4, c5, -⟩ := HX0.out.below hb
      clear hb HRA0 HX0 HBW HRG
      go_wp2
      go_ret
      exact ⟨rfl, HB.out⟩
    · rw [if_neg hc] at hres
      obtain rfl : 10 = res := hres
      have g2 : (c % 16 != 0) = true := by simpa using hc
      have g1 : (c.tmod 16 != 0) = true := by
        rw [Int.tmod_eq_emod_of_nonneg b0]; exact g2
      clear hc
      go_enter Tryd.func36, Tryd.ntmps36
      go_wp2_with (refine wpList_load_mid rfl 34 (.tmp 3) rfl W.heap.size 0 rfl r.l _ HRG.out Tryd.underlying34 rfl HI1.out ?_)
      rw [HL.out]
      refine (HC.out _).mono ?_
      rintro e w1 ⟨rfl, hb⟩
      have HB := Lib.hid (thn HBW.out hb)
      obtain ⟨-, c0, c1, c2, c3, c4, c5, -⟩ := HX0.out.below hb
      clear hb HRA0 HX0 HBW HRG
      go_wp2
      go_ret
      exact ⟨rfl, HB.out⟩
  · rw [if_neg h0] at hres
    rw [hres] at h0
    have h6 : (res != 0) = true := by simpa using h0
    have HC := Lib.hid (fun W => raccess res r hr b l c p t v 16 q W hres)
    clear hr h0 hres
    generalize hL : r.l.toArray = L at *
    have HL := Lib.hid hL
    clear hL
    go_enter Tryd.func36, Tryd.ntmps36
    go_wp2_with (refine wpList_load_mid rfl 34 (.tmp 3) rfl W.heap.size 0 rfl r.l _ HRG.out Tryd.underlying34 rfl HI1.out ?_)
    rw [HL.out]
    refine (HC.out _).mono ?_
    rintro e w1 ⟨rfl, hb⟩
    have HB := Lib.hid (thn HBW.out hb)
    clear hb HRA0 HX0 HBW HRG
    go_wp2
    go_ret
    exact ⟨rfl, HB.out⟩
theorem slot_same {σ : MS} {r : RS} (h1 : ∀ y, y < 8 → σ.pg y = r.o y) (h2 : ∀ y, 8 ≤ y → σ.pg y = false) (h3 : ∀ g, g < 128 → r.t g = (σ.f g : Int)) (b l c p t : Int) (v : Bool) (q : Int) (hq : pmayB q = true) : slotE σ b l c p t v q = slotR r b l c p t v q := by
  unfold slotE slotR
  rw [acc_same h1 h2 h3 b l c p t v 16 q hq]
end Go.Proofs.YtgidnmjeifgciaaDoor
namespace Go.Proofs.YtgidnmjeifgciaaDoor
set_option maxRecDepth 100000
open Go.RowKit Go.ChangeMaps Go.MapKept
set_option linter.unusedVariables false
set_option linter.unusedSimpArgs false

theorem cntF_zero (n : Nat) : cntF (fun _ => false) n = 0 := by
  induction n with
  | zero => rfl
  | succ n ih => rw [cntF, ih]; rfl
def s14 : MS := { newS 1 with pg := onF (newS 1).pg 0 1, peak := max (newS 1).peak ((cntF (newS 1).pg 1024 : Nat) + 1) }
def s14b : MS := { s14 with f := setF s14.f (grF 32) (grN 32 64) 3 }
theorem s14_open : openB s14.pg 32 64 = true := by decide +kernel
theorem s14_slot8 : slotE s14b 32 64 48 31 3 true 8 = 0 := by decide +kernel
theorem s14_alive : aliveB s14b (32 : Nat) (64 : Nat) 48 (31 : Nat) (3 : Nat) true = true := by decide +kernel
def s14c : MS := keepS s14b 48 (codeF 32 64 1048592 31 3)
theorem s14_slot4 : slotE s14c 32 64 48 31 3 true 4 = 0 := by decide +kernel
theorem s14_alive2 : aliveB s14c (32 : Nat) (64 : Nat) 48 (31 : Nat) (3 : Nat) true = true := by decide +kernel
theorem s14_ok : codeOk (codeF 32 64 1048592 31 3) = true ∧ get3 (codeF 32 64 1048592 31 3) 1 = 32 ∧ get3 (codeF 32 64 1048592 31 3) 4 = 64 ∧ ((32 : Nat) : Int) + get3 (codeF 32 64 1048592 31 3) 7 - 1048576 = 48 ∧ codeF 32 64 1048592 31 3 10 = 31 ∧ codeF 32 64 1048592 31 3 11 = 3 := by decide +kernel
set_option maxHeartbeats 3200000 in
theorem w14awake (w : World) (ht : TzTab w) :
    Calls Tryd.prog 34 #[] w fun e w' => e = .returned (.bool true) ∧ Below w.heap.size w w' := by
  have T := Lib.hid ht; clear ht
  go_enter Tryd.func34, Tryd.ntmps34
  go_wp2_with fail
  refine (mnew 1 1 _ T.out (by decide)).mono ?_
  rintro e v1 ⟨M, col, rfl, hm1, hb1⟩
  have HM1 := Lib.hid hm1
  have HB1 := Lib.hid hb1
  clear hm1 hb1
  have K1 := Lib.hid (mmap_free 0 1 HM1.out (by decide) (fun y _ _ => rfl))
  go_wp2_with fail
  refine K1.out.mono ?_
  rintro e v2 (⟨h, _⟩ | ⟨-, rfl, hs2, -⟩)
  · exfalso
    have : cntF (newS 1).pg 1024 = 0 := cntF_zero 1024
    rw [this] at h
    revert h
    decide
  obtain ⟨col2, hm2, -, -, hb2⟩ := hs2
  have HB2 : Hid (Below w.heap.size w v2) := Lib.hid (HB1.out.trans hb2)
  have HM2 : Hid (MEM w.heap.size col2 M v2 s14) := Lib.hid hm2
  clear hb2 hm2 K1
  go_wp2_with fail
  refine (msettag_ok 32 64 3 HM2.out (by decide) s14_open).mono ?_
  rintro e v3 ⟨rfl, col3, hm3, -, -, hb3⟩
  have HB3 : Hid (Below w.heap.size w v3) := Lib.hid (HB2.out.trans hb3)
  have HM3 : Hid (MEM w.heap.size col3 M v3 s14b) := Lib.hid hm3
  clear hb3 hm3
  go_upto_region 5 with (fail)
  have HX0 := Lib.hid (CapAt.new v3 32 64 48 31 3 true 31)
  have HM4 := Lib.hid (HM3.out.later (alc0 v3 (.cells #[.int .i64 32, .int .i64 64, .int .i64 48, .int .i64 31, .int .i64 3, .bool true] 31)))
  have HB4 := Lib.hid (HB3.out.trans ((alc0 v3 (.cells #[.int .i64 32, .int .i64 64, .int .i64 48, .int .i64 31, .int .i64 3, .bool true] 31)).mono HM3.out.size))
  have HC4 : Hid (col3 v3.heap.size = 0) := Lib.hid (HM3.out.old (Nat.le_refl _))
  clear HM3 HB3
  generalize hx : v3.heap.size = x at *
  generalize hW : World.alloc v3 _ = v4 at *
  clear hW hx
  obtain ⟨-, x0, x1, x2, x3, x4, x5, -⟩ := HX0.out
  go_wp2_with fail
  refine (hstore_yes 32 64 31 3 48 true 32 64 1048592 31 3 48 HM4.out s14_slot8 s14_alive (by decide)).mono ?_
  rintro e v5 ⟨rfl, col5, hm5, hc5, ho5, hb5⟩
  have HX5 := Lib.hid (HX0.out.keep hb5.size (ho5 _ HX0.out.1 (by rw [HC4.out]; decide)))
  have HB5 := Lib.hid (HB4.out.trans hb5)
  have HM5 : Hid (MEM w.heap.size col5 M v5 s14c) := Lib.hid hm5
  clear hb5 hm5 hc5 ho5 x0 x1 x2 x3 x4 x5
  obtain ⟨-, x0, x1, x2, x3, x4, x5, -⟩ := HX5.out
  go_wp2_with fail
  refine (hload_live 32 64 48 31 3 true 3 (codeF 32 64 1048592 31 3) HM5.out s14_slot4 (by decide) (by decide +kernel) (fun i hi => rfl) (codeF_lt _ _ _ _ _ (by decide) (by decide)) 32 64 31 3 48 ⟨s14_ok.1, s14_ok.2.1, s14_ok.2.2.1, s14_ok.2.2.2.1, s14_ok.2.2.2.2.1, s14_ok.2.2.2.2.2, s14_alive2⟩).mono ?_
  rintro e v6 ⟨rfl, hb6⟩
  have HX6 := Lib.hid (HX5.out.below hb6)
  have HB6 := Lib.hid (HB5.out.trans (hb6.mono HM5.out.size))
  clear hb6 x0 x1 x2 x3 x4 x5
  obtain ⟨hx6, x0, x1, x2, x3, x4, x5, -⟩ := HX6.out
  have hn6 : ¬ x = v6.heap.size := by omega
  have hn7 : ¬ v6.heap.size = x := by omega
  go_wp2
  go_ret
  exact ⟨rfl, HB6.out.alloc (by have := HB6.out.size; omega) _⟩
end Go.Proofs.YtgidnmjeifgciaaDoor
