/- The walk of TraceAny. -/
import Derived.Test.YtahggokeelgjdaaTsB
import Derived.Test.YtahggokeelgjdaaTrT
import Derived.Test.YtahggokeelgjdaaTrQ
import Derived.Test.YtahggokeelgjdaaTrY
import Derived.Deep.RegionHeld3
namespace Go.Proofs.Ytahggokeelgjdaa
open Go.RowKit
set_option linter.unusedVariables false
set_option linter.unusedSimpArgs false

theorem flat_inj : ∀ (l l2 : List OV), l.length = l2.length → (∀ p ∈ l, p.o.ok ∧ p.d.length ≤ 4096) → (∀ p ∈ l2, p.o.ok ∧ p.d.length ≤ 4096) → flat l = flat l2 → odOf l = odOf l2
  | [], [], _, _, _, _ => rfl
  | p :: l, q :: l2, hl, h1, h2, h => by
    have e1 : flat (p :: l) = oneB p.o p.d ++ flat l := by simp [flat]
    have e2 : flat (q :: l2) = oneB q.o q.d ++ flat l2 := by simp [flat]
    have hp := h1 p (by simp)
    have hq := h2 q (by simp)
    have r1 := rdO_one p.o p.d (flat l) hp.1 (by omega)
    have r2 := rdO_one q.o q.d (flat l2) hq.1 (by omega)
    rw [← e1, h, e2, r2] at r1
    injection r1 with r1
    injection r1 with r3 r4
    injection r4 with r4 r5
    have ho : p.o = q.o := by
      obtain ⟨⟨k, t, a, b, v, n, m⟩, d, dv⟩ := p
      obtain ⟨⟨k', t', a', b', v', n', m'⟩, d', dv'⟩ := q
      simp only [Op7.l, List.cons.injEq, and_true] at r3
      simp only [Op7.mk.injEq]
      exact ⟨r3.1.symm, r3.2.1.symm, r3.2.2.1.symm, r3.2.2.2.1.symm, r3.2.2.2.2.1.symm, r3.2.2.2.2.2.1.symm, r3.2.2.2.2.2.2.symm⟩
    have ih := flat_inj l l2 (by simpa using hl) (fun x hx => h1 x (by simp [hx])) (fun x hx => h2 x (by simp [hx])) r5.symm
    simp only [odOf, List.map_cons] at ih ⊢
    rw [ho, ← r4, ih]
theorem can_mk {xs : List Nat} {l : List OV} (h1 : mayB l = true) (h2 : ∀ p ∈ l, p.o.ok) (h3 : bytesB l = xs) : CAN xs l := And.intro h1 (And.intro h2 h3)
theorem can_inj {xs : List Nat} {l l2 : List OV} (h : CAN xs l) (h2 : CAN xs l2) : odOf l = odOf l2 := by
  have e := num_inj h.len h2.len (h.tail.symm.trans h2.tail)
  exact flat_inj l l2 (by omega) (fun p hp => ⟨h.2.1 p hp, h.may.2 p hp⟩) (fun p hp => ⟨h2.2.1 p hp, h2.may.2 p hp⟩) e.2
set_option maxHeartbeats 6400000 in
theorem walkTraceAny (A0 : Option Addr) (c0 : Nat) (b : List Nat) (w : World) (h0 : RD w (.slice A0 b.length c0) b) (hcap : b.length ≤ c0) (hx : ∀ x ∈ b, x < 256) :
    Calls Try.prog 5 #[.slice A0 b.length c0] w fun e w' => e = .returned (.bool true) ∧ Below w.heap.size w w' := by
  have HD0 := Lib.hid h0
  have HX := Lib.hid hx
  clear h0 hx
  go_enter Try.func5, Try.ntmps5
  go_wp2_with fail
  with_reducible refine Calls.mono (awake54 _) ?_
  rintro e w1 ⟨rfl, hB1⟩
  have HW1 := Lib.hid hB1
  clear hB1
  go_wp2_with fail
  by_cases hcan : ∃ l, CAN b l
  rotate_left
  · have HNC := Lib.hid hcan
    clear hcan
    with_reducible refine Calls.mono (trRead_no _ b w1 (HD0.out.keep HW1.out) HX.out (fun l h1 h2 h3 => absurd (Exists.intro l (can_mk h1 h2 h3)) HNC.out)) ?_
    rintro e w2 ⟨rfl, hB2⟩
    have HW2 : Hid (Below w.heap.size w w2) := Lib.hid (HW1.out.trans (hB2.mono HW1.out.size))
    clear hB2
    go_wp2_with fail
    with_reducible refine Calls.mono (refRead A0 c0 b w2 (HD0.out.keep HW2.out) hcap HX.out) ?_
    rintro e w3 ⟨⟨v', l, rfl, _, _, hc⟩ | ⟨rfl, _⟩, hB3⟩
    · exact absurd ⟨l, hc⟩ HNC.out
    have HW3 : Hid (Below w.heap.size w w3) := Lib.hid (HW2.out.trans (hB3.mono HW2.out.size))
    clear hB3 hcap
    go_wp2_with fail
    go_loopw [7] (fun v7 wr => v7 = .int .i64 0 ∧ w3 = wr) (fun _ _ => 0)
    case atStart => exact ⟨rfl, rfl⟩
    case round =>
      obtain ⟨rfl, rfl⟩ := hrel
      go_upto_region 12 with (fail)
      refine wp_region_held_drew (S := fun w' => Hid (Below w3.heap.size w3 w')) (by kernel_rfl) ?_ (fun hHeld => ?_)
      · exact Lib.hid (Below.refl _ _).drew
      refine wpAnyH_take (i := 0) (v := ?_) rfl (by kernel_rfl) (by kernel_rfl) (by kernel_rfl) (fun _ _ _ h => h) (Or.inl ⟨by kernel_rfl, ?_⟩) (by assumption) ?_
      rotate_left
      · (intro w hSw; (try dsimp only at hSw); go_simp)
        try (with_reducible rfl)
      rotate_left
      try simp (maxSteps := 4000000) only [Act.put, List.setIfInBounds_toArray, List.set_cons_zero, List.set_cons_succ, List.getElem_toArray, List.getElem_cons_zero, List.getElem_cons_succ]
      refine wpAnyH_take (i := 1) (v := ?_) rfl (by kernel_rfl) (by kernel_rfl) (by kernel_rfl) (fun _ _ _ h => h) (Or.inl ⟨by kernel_rfl, ?_⟩) (by assumption) ?_
      rotate_left
      · (intro w hSw; (try dsimp only at hSw); go_simp)
        try (with_reducible rfl)
      rotate_left
      try simp (maxSteps := 4000000) only [Act.put, List.setIfInBounds_toArray, List.set_cons_zero, List.set_cons_succ, List.getElem_toArray, List.getElem_cons_zero, List.getElem_cons_succ]
      refine wpAnyH_take (i := 2) (v := ?_) rfl (by kernel_rfl) (by kernel_rfl) (by kernel_rfl) (fun _ _ _ h => h) (Or.inl ⟨by kernel_rfl, ?_⟩) (by assumption) ?_
      rotate_left
      · (intro w hSw; (try dsimp only at hSw); go_simp)
        try (with_reducible rfl)
      rotate_left
      try simp (maxSteps := 4000000) only [Act.put, List.setIfInBounds_toArray, List.set_cons_zero, List.set_cons_succ, List.getElem_toArray, List.getElem_cons_zero, List.getElem_cons_succ]
      refine wpAnyH_take (i := 3) (v := undef) rfl (by kernel_rfl) (by kernel_rfl) (by kernel_rfl) (fun _ _ _ h => h) (Or.inr ⟨by kernel_rfl, rfl⟩) (by assumption) ?_
      try simp (maxSteps := 4000000) only [Act.put, List.setIfInBounds_toArray, List.set_cons_zero, List.set_cons_succ, List.getElem_toArray, List.getElem_cons_zero, List.getElem_cons_succ]
      refine wpAnyH_take (i := 4) (v := undef) rfl (by kernel_rfl) (by kernel_rfl) (by kernel_rfl) (fun _ _ _ h => h) (Or.inr ⟨by kernel_rfl, rfl⟩) (by assumption) ?_
      try simp (maxSteps := 4000000) only [Act.put, List.setIfInBounds_toArray, List.set_cons_zero, List.set_cons_succ, List.getElem_toArray, List.getElem_cons_zero, List.getElem_cons_succ]
      refine wpAnyH_take (i := 5) (v := undef) rfl (by kernel_rfl) (by kernel_rfl) (by kernel_rfl) (fun _ _ _ h => h) (Or.inr ⟨by kernel_rfl, rfl⟩) (by assumption) ?_
      try simp (maxSteps := 4000000) only [Act.put, List.setIfInBounds_toArray, List.set_cons_zero, List.set_cons_succ, List.getElem_toArray, List.getElem_cons_zero, List.getElem_cons_succ]
      refine wpAnyH_take (i := 6) (v := undef) rfl (by kernel_rfl) (by kernel_rfl) (by kernel_rfl) (fun _ _ _ h => h) (Or.inr ⟨by kernel_rfl, rfl⟩) (by assumption) ?_
      try simp (maxSteps := 4000000) only [Act.put, List.setIfInBounds_toArray, List.set_cons_zero, List.set_cons_succ, List.getElem_toArray, List.getElem_cons_zero, List.getElem_cons_succ]
      refine wpAnyH_take (i := 7) (v := undef) rfl (by kernel_rfl) (by kernel_rfl) (by kernel_rfl) (fun _ _ _ h => h) (Or.inr ⟨by kernel_rfl, rfl⟩) (by assumption) ?_
      try simp (maxSteps := 4000000) only [Act.put, List.setIfInBounds_toArray, List.set_cons_zero, List.set_cons_succ, List.getElem_toArray, List.getElem_cons_zero, List.getElem_cons_succ]
      refine wpAnyH_take (i := 8) (v := undef) rfl (by kernel_rfl) (by kernel_rfl) (by kernel_rfl) (fun _ _ _ h => h) (Or.inr ⟨by kernel_rfl, rfl⟩) (by assumption) ?_
      try simp (maxSteps := 4000000) only [Act.put, List.setIfInBounds_toArray, List.set_cons_zero, List.set_cons_succ, List.getElem_toArray, List.getElem_cons_zero, List.getElem_cons_succ]
      refine wpAnyH_take (i := 9) (v := ?_) rfl (by kernel_rfl) (by kernel_rfl) (by kernel_rfl) (fun _ _ _ h => h) (Or.inl ⟨by kernel_rfl, ?_⟩) (by assumption) ?_
      rotate_left
      · (intro w hSw; (try dsimp only at hSw); go_simp)
        try (with_reducible rfl)
      rotate_left
      try simp (maxSteps := 4000000) only [Act.put, List.setIfInBounds_toArray, List.set_cons_zero, List.set_cons_succ, List.getElem_toArray, List.getElem_cons_zero, List.getElem_cons_succ]
      refine wpAnyH_take (i := 10) (v := ?_) rfl (by kernel_rfl) (by kernel_rfl) (by kernel_rfl) (fun _ _ _ h => h) (Or.inl ⟨by kernel_rfl, ?_⟩) (by assumption) ?_
      rotate_left
      · (intro w hSw; (try dsimp only at hSw); go_simp)
        try (with_reducible rfl)
      rotate_left
      try simp (maxSteps := 4000000) only [Act.put, List.setIfInBounds_toArray, List.set_cons_zero, List.set_cons_succ, List.getElem_toArray, List.getElem_cons_zero, List.getElem_cons_succ]
      refine wpAnyH_done (by kernel_rfl) ?_ _
      go_wp2
      go_ret
      exact ⟨rfl, HW3.out.trans (hHeld.out.mono HW3.out.size)⟩
  · obtain ⟨l, hl⟩ := hcan
    have HC := Lib.hid hl
    obtain ⟨hc1, hc2, hbl⟩ : mayB l = true ∧ (∀ p ∈ l, p.o.ok) ∧ bytesB l = b := hl
    have HC1 := Lib.hid hc1
    have HC2 := Lib.hid hc2
    have HBL := Lib.hid hbl
    have HRl : Hid (RD w1 (.slice A0 b.length c0) (bytesB l)) := Lib.hid (by rw [hbl]; exact HD0.out.keep HW1.out)
    have HXl : Hid (∀ x ∈ bytesB l, x < 256) := Lib.hid (by rw [hbl]; exact HX.out)
    clear hbl hc1 hc2
    with_reducible refine Calls.mono (trRead_ok _ l w1 HRl.out HC1.out HC2.out HXl.out) ?_
    rintro e w2 ⟨⟨v3, l3, rfl, ho3, hod⟩, hB2⟩
    have HW2 : Hid (Below w.heap.size w w2) := Lib.hid (HW1.out.trans (hB2.mono HW1.out.size))
    have HO3' := Lib.hid ho3
    have HOD' := Lib.hid hod
    obtain ⟨A3, c3, rfl, -, -⟩ := ho3
    clear hB2 hod
    go_wp2_with fail
    with_reducible refine Calls.mono (refRead A0 c0 b w2 (HD0.out.keep HW2.out) hcap HX.out) ?_
    rintro e w3 ⟨⟨v5, l5, rfl, ho5, hb5, hc5⟩ | ⟨rfl, hno⟩, hB3⟩
    rotate_left
    · exact absurd HC.out (hno l)
    have HW3 : Hid (Below w.heap.size w w3) := Lib.hid (HW2.out.trans (hB3.mono HW2.out.size))
    have hod35 : odOf l3 = odOf l5 := HOD'.out.trans (can_inj HC.out hc5)
    have HOD := Lib.hid hod35
    have hll : l3.length = l5.length := by have := congrArg List.length hod35; simpa [odOf] using this
    have HLB := Lib.hid hb5
    have HO3 : Hid (OPS w3 (.slice A3 l3.length c3) l3) := Lib.hid (HO3'.out.keep hB3)
    have HO5 := Lib.hid ho5
    have HM3 : Hid (mayB l3 = true ∧ bytesB l3 = b) := Lib.hid ⟨by rw [mayB_od HOD'.out]; exact HC1.out, by rw [bytesB_od HOD'.out]; exact HBL.out⟩
    obtain ⟨A5, c5, rfl, -, -⟩ := ho5
    have h500 : l3.length ≤ 500 := by
      have := HM3.out.1
      rw [mayB, decide_eq_true_iff] at this
      exact this.1
    rw [← hll] at HO5 ⊢
    obtain ⟨n, hn⟩ : ∃ n, l3.length = n := ⟨_, rfl⟩
    have HN3 := Lib.hid hn
    have HN5 : Hid (l5.length = n) := Lib.hid (by rw [← hll, hn])
    rw [hn] at HO3 HO5 h500 ⊢
    clear hB3 hod35 hll hb5 hc5 hn hcap HRl HXl HO3' HOD'
    go_wp2_with fail
    go_loopw [7] (fun v7 wr => ∃ i : Nat, i ≤ n ∧ v7 = .int .i64 i ∧ Hid (Below w3.heap.size w3 wr)) (fun v7 _ => n - (intOf v7).toNat)
    case atStart => exact ⟨0, by omega, rfl, Lib.hid (Below.refl _ _)⟩
    case round =>
      obtain ⟨i, hi, rfl, HBl⟩ := hrel
      have HBw : Hid (Below w.heap.size w wr) := Lib.hid (HW3.out.trans (HBl.out.mono HW3.out.size))
      by_cases hlt : i < n
      · obtain ⟨py, hpy⟩ : ∃ p, l5[i]? = some p := ⟨_, List.getElem?_eq_getElem (by rw [HN5.out]; exact hlt)⟩
        obtain ⟨px, hpx⟩ : ∃ p, l3[i]? = some p := ⟨_, List.getElem?_eq_getElem (by rw [HN3.out]; exact hlt)⟩
        obtain ⟨yb, yo, yc, ey, hyz, hyc, hyr, hyk⟩ := (HO5.out.keep HBl.out).at_ i py hpy
        obtain ⟨xb, xo, xc, ex, hxz, hxc, hxr, hxk⟩ := (HO3.out.keep HBl.out).at_ i px hpx
        injection ey with ey el2 ec2
        injection ex with ex el1 ec1
        clear el1 el2
        subst ey
        subst ex
        subst ec1
        subst ec2
        obtain ⟨ho, hd⟩ := od_at HOD.out i py px hpy hpx
        have HEQ := Lib.hid (And.intro ho hd)
        have HXR := Lib.hid hxr
        have HYR := Lib.hid hyr
        have HXD : Hid (∀ x ∈ px.d, x < 256) := Lib.hid (by rw [hd]; exact HLB.out py (List.mem_of_getElem? hpy))
        have HYD : Hid (∀ x ∈ py.d, x < 256) := Lib.hid (HLB.out py (List.mem_of_getElem? hpy))
        have i1 : (i : Int) < n := by omega
        have id1 : decide ((i : Int) < n) = true := decide_eq_true i1
        have id0 : (0 : Int) ≤ i := by omega
        have id2 : decide (i < n) = true := decide_eq_true hlt
        obtain ⟨y0, y1, y2, y3, y4, y5, y6, y7⟩ := hyc
        obtain ⟨x0, x1, x2, x3, x4, x5, x6, x7⟩ := hxc
        have HXZ := Lib.hid hxz
        have HYZ := Lib.hid hyz
        clear hxz hyz hpx hpy hxr hyr hxk hyk ho hd
        go_upto_region 10 with (fail)
        refine wp_region_held_drew (S := fun w' => w'.cell? ⟨xb, xo + i * 8, none⟩ = some (.int .i64 px.o.k) ∧ w'.cell? ⟨xb, xo + i * 8 + 1, none⟩ = some (.int .i64 px.o.t) ∧ w'.cell? ⟨xb, xo + i * 8 + 2, none⟩ = some (.int .i64 px.o.a) ∧ w'.cell? ⟨xb, xo + i * 8 + 3, none⟩ = some (.int .i64 px.o.b) ∧ w'.cell? ⟨xb, xo + i * 8 + 4, none⟩ = some (.int .i64 px.o.v) ∧ w'.cell? ⟨xb, xo + i * 8 + 5, none⟩ = some (.int .i64 px.o.n) ∧ w'.cell? ⟨xb, xo + i * 8 + 6, none⟩ = some (.int .i64 px.o.m) ∧ w'.cell? ⟨xb, xo + i * 8 + 7, none⟩ = some (px.dv) ∧ w'.cell? ⟨yb, yo + i * 8, none⟩ = some (.int .i64 py.o.k) ∧ w'.cell? ⟨yb, yo + i * 8 + 1, none⟩ = some (.int .i64 py.o.t) ∧ w'.cell? ⟨yb, yo + i * 8 + 2, none⟩ = some (.int .i64 py.o.a) ∧ w'.cell? ⟨yb, yo + i * 8 + 3, none⟩ = some (.int .i64 py.o.b) ∧ w'.cell? ⟨yb, yo + i * 8 + 4, none⟩ = some (.int .i64 py.o.v) ∧ w'.cell? ⟨yb, yo + i * 8 + 5, none⟩ = some (.int .i64 py.o.n) ∧ w'.cell? ⟨yb, yo + i * 8 + 6, none⟩ = some (.int .i64 py.o.m) ∧ w'.cell? ⟨yb, yo + i * 8 + 7, none⟩ = some (py.dv) ∧ Hid (Below wr.heap.size wr w')) (by kernel_rfl) ?_ (fun hHeld => ?_)
        · exact ⟨x0, x1, x2, x3, x4, x5, x6, x7, y0, y1, y2, y3, y4, y5, y6, y7, Lib.hid (Below.refl _ _).drew⟩
        clear x0 x1 x2 x3 x4 x5 x6 x7 y0 y1 y2 y3 y4 y5 y6 y7
        refine wpAnyH_take (i := 0) (v := ?_) rfl (by kernel_rfl) (by kernel_rfl) (by kernel_rfl) (fun _ _ _ h => h) (Or.inl ⟨by kernel_rfl, ?_⟩) (by assumption) ?_
        rotate_left
        · (intro w hSw; (try dsimp only at hSw); go_simp)
          try (with_reducible rfl)
        rotate_left
        try simp (maxSteps := 4000000) only [Act.put, List.setIfInBounds_toArray, List.set_cons_zero, List.set_cons_succ, List.getElem_toArray, List.getElem_cons_zero, List.getElem_cons_succ]
        refine wpAnyH_take (i := 1) (v := ?_) rfl (by kernel_rfl) (by kernel_rfl) (by kernel_rfl) (fun _ _ _ h => h) (Or.inl ⟨by kernel_rfl, ?_⟩) (by assumption) ?_
        rotate_left
        · (intro w hSw; (try dsimp only at hSw); go_simp)
          try (with_reducible rfl)
        rotate_left
        try simp (maxSteps := 4000000) only [Act.put, List.setIfInBounds_toArray, List.set_cons_zero, List.set_cons_succ, List.getElem_toArray, List.getElem_cons_zero, List.getElem_cons_succ]
        refine wpAnyH_take (i := 2) (v := ?_) rfl (by kernel_rfl) (by kernel_rfl) (by kernel_rfl) (fun _ _ _ h => h) (Or.inl ⟨by kernel_rfl, ?_⟩) (by assumption) ?_
        rotate_left
        · (intro w hSw; (try dsimp only at hSw); go_simp)
          try (with_reducible rfl)
        rotate_left
        try simp (maxSteps := 4000000) only [Act.put, List.setIfInBounds_toArray, List.set_cons_zero, List.set_cons_succ, List.getElem_toArray, List.getElem_cons_zero, List.getElem_cons_succ]
        refine wpAnyH_take (i := 3) (v := ?_) rfl (by kernel_rfl) (by kernel_rfl) (by kernel_rfl) (fun _ _ _ h => h) (Or.inl ⟨by kernel_rfl, ?_⟩) (by assumption) ?_
        rotate_left
        · (intro w hSw; (try dsimp only at hSw); go_simp)
          try (with_reducible rfl)
        rotate_left
        try simp (maxSteps := 4000000) only [Act.put, List.setIfInBounds_toArray, List.set_cons_zero, List.set_cons_succ, List.getElem_toArray, List.getElem_cons_zero, List.getElem_cons_succ]
        refine wpAnyH_take (i := 4) (v := ?_) rfl (by kernel_rfl) (by kernel_rfl) (by kernel_rfl) (fun _ _ _ h => h) (Or.inl ⟨by kernel_rfl, ?_⟩) (by assumption) ?_
        rotate_left
        · (intro w hSw; (try dsimp only at hSw); go_simp)
          try (with_reducible rfl)
        rotate_left
        try simp (maxSteps := 4000000) only [Act.put, List.setIfInBounds_toArray, List.set_cons_zero, List.set_cons_succ, List.getElem_toArray, List.getElem_cons_zero, List.getElem_cons_succ]
        refine wpAnyH_take (i := 5) (v := ?_) rfl (by kernel_rfl) (by kernel_rfl) (by kernel_rfl) (fun _ _ _ h => h) (Or.inl ⟨by kernel_rfl, ?_⟩) (by assumption) ?_
        rotate_left
        · (intro w hSw; (try dsimp only at hSw); go_simp)
          try (with_reducible rfl)
        rotate_left
        try simp (maxSteps := 4000000) only [Act.put, List.setIfInBounds_toArray, List.set_cons_zero, List.set_cons_succ, List.getElem_toArray, List.getElem_cons_zero, List.getElem_cons_succ]
        refine wpAnyH_take (i := 6) (v := ?_) rfl (by kernel_rfl) (by kernel_rfl) (by kernel_rfl) (fun _ _ _ h => h) (Or.inl ⟨by kernel_rfl, ?_⟩) (by assumption) ?_
        rotate_left
        · (intro w hSw; (try dsimp only at hSw); go_simp)
          try (with_reducible rfl)
        rotate_left
        try simp (maxSteps := 4000000) only [Act.put, List.setIfInBounds_toArray, List.set_cons_zero, List.set_cons_succ, List.getElem_toArray, List.getElem_cons_zero, List.getElem_cons_succ]
        refine wpAnyH_take (i := 7) (v := ?_) rfl (by kernel_rfl) (by kernel_rfl) (by kernel_rfl) (fun _ _ _ h => h) (Or.inl ⟨by kernel_rfl, ?_⟩) (by assumption) ?_
        rotate_left
        · (intro w hSw; (try dsimp only at hSw); go_simp)
          try (with_reducible rfl)
        rotate_left
        try simp (maxSteps := 4000000) only [Act.put, List.setIfInBounds_toArray, List.set_cons_zero, List.set_cons_succ, List.getElem_toArray, List.getElem_cons_zero, List.getElem_cons_succ]
        refine wpAnyH_ready (rs := [8]) (by kernel_rfl) (by simp) ?_
        refine AllReadyH.cons rfl (fun K2 hK2 => ?_) AllReadyH.nil
        go_simp
        have HBh := Lib.hid hHeld.2.2.2.2.2.2.2.2.2.2.2.2.2.2.2.2.out
        with_reducible refine Calls.mono (refSame px.o py.o px.dv py.dv px.d py.d _ true (HXR.out.keep HBh.out) (HYR.out.keep HBh.out) HXD.out HYD.out (by simp [HEQ.out])) ?_
        rintro e w4 ⟨rfl, hB4⟩
        refine hK2.out _ _ ?_ (fun hHeld2 => ?_)
        · have hxz := Nat.lt_of_lt_of_le HXZ.out HBh.out.size
          have hyz := Nat.lt_of_lt_of_le HYZ.out HBh.out.size
          exact ⟨(hB4.cell (p := ⟨xb, xo + i * 8, none⟩) hxz).trans hHeld.1, (hB4.cell (p := ⟨xb, xo + i * 8 + 1, none⟩) hxz).trans hHeld.2.1, (hB4.cell (p := ⟨xb, xo + i * 8 + 2, none⟩) hxz).trans hHeld.2.2.1, (hB4.cell (p := ⟨xb, xo + i * 8 + 3, none⟩) hxz).trans hHeld.2.2.2.1, (hB4.cell (p := ⟨xb, xo + i * 8 + 4, none⟩) hxz).trans hHeld.2.2.2.2.1, (hB4.cell (p := ⟨xb, xo + i * 8 + 5, none⟩) hxz).trans hHeld.2.2.2.2.2.1, (hB4.cell (p := ⟨xb, xo + i * 8 + 6, none⟩) hxz).trans hHeld.2.2.2.2.2.2.1, (hB4.cell (p := ⟨xb, xo + i * 8 + 7, none⟩) hxz).trans hHeld.2.2.2.2.2.2.2.1, (hB4.cell (p := ⟨yb, yo + i * 8, none⟩) hyz).trans hHeld.2.2.2.2.2.2.2.2.1, (hB4.cell (p := ⟨yb, yo + i * 8 + 1, none⟩) hyz).trans hHeld.2.2.2.2.2.2.2.2.2.1, (hB4.cell (p := ⟨yb, yo + i * 8 + 2, none⟩) hyz).trans hHeld.2.2.2.2.2.2.2.2.2.2.1, (hB4.cell (p := ⟨yb, yo + i * 8 + 3, none⟩) hyz).trans hHeld.2.2.2.2.2.2.2.2.2.2.2.1, (hB4.cell (p := ⟨yb, yo + i * 8 + 4, none⟩) hyz).trans hHeld.2.2.2.2.2.2.2.2.2.2.2.2.1, (hB4.cell (p := ⟨yb, yo + i * 8 + 5, none⟩) hyz).trans hHeld.2.2.2.2.2.2.2.2.2.2.2.2.2.1, (hB4.cell (p := ⟨yb, yo + i * 8 + 6, none⟩) hyz).trans hHeld.2.2.2.2.2.2.2.2.2.2.2.2.2.2.1, (hB4.cell (p := ⟨yb, yo + i * 8 + 7, none⟩) hyz).trans hHeld.2.2.2.2.2.2.2.2.2.2.2.2.2.2.2.1, Lib.hid (thn hHeld.2.2.2.2.2.2.2.2.2.2.2.2.2.2.2.2.out hB4)⟩
        clear hB4
        clear hK2 K2 hHeld
        have hHeld := hHeld2
        clear hHeld2
        try simp (maxSteps := 4000000) only [Act.put, List.setIfInBounds_toArray, List.set_cons_zero, List.set_cons_succ]
        refine wpAnyH_take (i := 9) (v := ?_) rfl (by kernel_rfl) (by kernel_rfl) (by kernel_rfl) (fun _ _ _ h => h) (Or.inl ⟨by kernel_rfl, ?_⟩) (by assumption) ?_
        rotate_left
        · (intro w hSw; (try dsimp only at hSw); go_simp)
          try (with_reducible rfl)
        rotate_left
        try simp (maxSteps := 4000000) only [Act.put, List.setIfInBounds_toArray, List.set_cons_zero, List.set_cons_succ, List.getElem_toArray, List.getElem_cons_zero, List.getElem_cons_succ]
        refine wpAnyH_done (by kernel_rfl) ?_ _
        have HB5 : Hid (Below w3.heap.size w3 w4) := Lib.hid (HBl.out.trans (hHeld.2.2.2.2.2.2.2.2.2.2.2.2.2.2.2.2.out.mono HBl.out.size))
        clear hHeld
        go_wp2_with fail
        go_roundw
        case rel => first | exact ⟨i + 1, by omega, by go_num, HB5⟩ | exact ⟨i + 1, by omega, by go_num⟩
        case measure => simp [intOf] <;> omega
      · obtain rfl : i = n := by omega
        have hRb : RD wr (.slice A0 b.length c0) b := HD0.out.keep HBw.out
        have HRb := Lib.hid hRb
        have HTAKE := Lib.hid (fun w' (h : Hid (Below wr.heap.size wr w')) => conv_bs w' _ b (HRb.out.keep h.out) HX.out)
        have HOx : Hid (OPS wr (.slice A3 i c3) l3) := Lib.hid (HO3.out.keep HBl.out)
        clear hRb
        go_upto_region 12 with (fail)
        refine wp_region_held_drew (S := fun w' => Hid (Below wr.heap.size wr w')) (by kernel_rfl) ?_ (fun hHeld => ?_)
        · exact Lib.hid (Below.refl _ _).drew
        refine wpAnyH_take (i := 0) (v := ?_) rfl (by kernel_rfl) (by kernel_rfl) (by kernel_rfl) (fun _ _ _ h => h) (Or.inl ⟨by kernel_rfl, ?_⟩) (by assumption) ?_
        rotate_left
        · (intro w hSw; (try dsimp only at hSw); (try have hTk := Hid.out HTAKE _ hSw); go_simp)
          try (with_reducible rfl)
        rotate_left
        try simp (maxSteps := 4000000) only [Act.put, List.setIfInBounds_toArray, List.set_cons_zero, List.set_cons_succ, List.getElem_toArray, List.getElem_cons_zero, List.getElem_cons_succ]
        refine wpAnyH_take (i := 1) (v := ?_) rfl (by kernel_rfl) (by kernel_rfl) (by kernel_rfl) (fun _ _ _ h => h) (Or.inl ⟨by kernel_rfl, ?_⟩) (by assumption) ?_
        rotate_left
        · (intro w hSw; (try dsimp only at hSw); (try have hTk := Hid.out HTAKE _ hSw); go_simp)
          try (with_reducible rfl)
        rotate_left
        try simp (maxSteps := 4000000) only [Act.put, List.setIfInBounds_toArray, List.set_cons_zero, List.set_cons_succ, List.getElem_toArray, List.getElem_cons_zero, List.getElem_cons_succ]
        refine wpAnyH_take (i := 2) (v := ?_) rfl (by kernel_rfl) (by kernel_rfl) (by kernel_rfl) (fun _ _ _ h => h) (Or.inl ⟨by kernel_rfl, ?_⟩) (by assumption) ?_
        rotate_left
        · (intro w hSw; (try dsimp only at hSw); (try have hTk := Hid.out HTAKE _ hSw); go_simp)
          try (with_reducible rfl)
        rotate_left
        try simp (maxSteps := 4000000) only [Act.put, List.setIfInBounds_toArray, List.set_cons_zero, List.set_cons_succ, List.getElem_toArray, List.getElem_cons_zero, List.getElem_cons_succ]
        refine wpAnyH_take (i := 3) (v := ?_) rfl (by kernel_rfl) (by kernel_rfl) (by kernel_rfl) (fun _ _ _ h => h) (Or.inl ⟨by kernel_rfl, ?_⟩) (by assumption) ?_
        rotate_left
        · (intro w hSw; (try dsimp only at hSw); (try have hTk := Hid.out HTAKE _ hSw); go_simp)
          try (with_reducible rfl)
        rotate_left
        try simp (maxSteps := 4000000) only [Act.put, List.setIfInBounds_toArray, List.set_cons_zero, List.set_cons_succ, List.getElem_toArray, List.getElem_cons_zero, List.getElem_cons_succ]
        refine wpAnyH_take (i := 6) (v := ?_) rfl (by kernel_rfl) (by kernel_rfl) (by kernel_rfl) (fun _ _ _ h => h) (Or.inl ⟨by kernel_rfl, ?_⟩) (by assumption) ?_
        rotate_left
        · (intro w hSw; (try dsimp only at hSw); (try have hTk := Hid.out HTAKE _ hSw); go_simp)
          try (with_reducible rfl)
        rotate_left
        try simp (maxSteps := 4000000) only [Act.put, List.setIfInBounds_toArray, List.set_cons_zero, List.set_cons_succ, List.getElem_toArray, List.getElem_cons_zero, List.getElem_cons_succ]
        refine wpAnyH_take (i := 7) (v := ?_) rfl (by kernel_rfl) (by kernel_rfl) (by kernel_rfl) (fun _ _ _ h => h) (Or.inl ⟨by kernel_rfl, ?_⟩) (by assumption) ?_
        rotate_left
        · (intro w hSw; (try dsimp only at hSw); (try have hTk := Hid.out HTAKE _ hSw); go_simp)
          try (with_reducible rfl)
        rotate_left
        try simp (maxSteps := 4000000) only [Act.put, List.setIfInBounds_toArray, List.set_cons_zero, List.set_cons_succ, List.getElem_toArray, List.getElem_cons_zero, List.getElem_cons_succ]
        refine wpAnyH_ready (rs := [4]) (by kernel_rfl) (by simp) ?_
        refine AllReadyH.cons rfl (fun K2 hK2 => ?_) AllReadyH.nil
        go_simp
        with_reducible refine Calls.mono (trBytes _ l3 _ (HOx.out.keep hHeld.out)) ?_
        rintro e w5 (⟨_, bn, vn, rfl, hbn, hvn, hb5, _⟩ | ⟨hf, _⟩)
        rotate_left
        · rw [HM3.out.1] at hf; cases hf
        rw [HM3.out.2] at hvn
        have hcv := conv_by bn w5 vn b hvn HX.out
        obtain ⟨An, cn, rfl, -⟩ := hvn
        refine hK2.out _ _ ?_ (fun hHeld2 => ?_)
        · exact Lib.hid (thn hHeld.out hb5)
        clear hbn hb5 hK2 K2 hHeld
        have hHeld := hHeld2
        clear hHeld2
        try simp (maxSteps := 4000000) only [Act.put, List.setIfInBounds_toArray, List.set_cons_zero, List.set_cons_succ]
        refine wpAnyH_ready (rs := [5]) (by kernel_rfl) (by simp) ?_
        refine AllReadyH.cons rfl (fun K2 hK2 => ?_) AllReadyH.nil
        go_simp
        refine hK2.out _ _ hHeld (fun hHeld2 => ?_)
        clear hK2 K2 hHeld
        have hHeld := hHeld2
        clear hHeld2
        try simp (maxSteps := 4000000) only [Act.put, List.setIfInBounds_toArray, List.set_cons_zero, List.set_cons_succ]
        refine wpAnyH_take (i := 8) (v := ?_) rfl (by kernel_rfl) (by kernel_rfl) (by kernel_rfl) (fun _ _ _ h => h) (Or.inl ⟨by kernel_rfl, ?_⟩) (by assumption) ?_
        rotate_left
        · (intro w hSw; (try dsimp only at hSw); (try have hTk := Hid.out HTAKE _ hSw); go_simp)
          try (with_reducible rfl)
        rotate_left
        try simp (maxSteps := 4000000) only [Act.put, List.setIfInBounds_toArray, List.set_cons_zero, List.set_cons_succ, List.getElem_toArray, List.getElem_cons_zero, List.getElem_cons_succ]
        refine wpAnyH_take (i := 9) (v := ?_) rfl (by kernel_rfl) (by kernel_rfl) (by kernel_rfl) (fun _ _ _ h => h) (Or.inl ⟨by kernel_rfl, ?_⟩) (by assumption) ?_
        rotate_left
        · (intro w hSw; (try dsimp only at hSw); (try have hTk := Hid.out HTAKE _ hSw); go_simp)
          try (with_reducible rfl)
        rotate_left
        try simp (maxSteps := 4000000) only [Act.put, List.setIfInBounds_toArray, List.set_cons_zero, List.set_cons_succ, List.getElem_toArray, List.getElem_cons_zero, List.getElem_cons_succ]
        refine wpAnyH_take (i := 10) (v := ?_) rfl (by kernel_rfl) (by kernel_rfl) (by kernel_rfl) (fun _ _ _ h => h) (Or.inl ⟨by kernel_rfl, ?_⟩) (by assumption) ?_
        rotate_left
        · (intro w hSw; (try dsimp only at hSw); (try have hTk := Hid.out HTAKE _ hSw); go_simp)
          try (with_reducible rfl)
        rotate_left
        try simp (maxSteps := 4000000) only [Act.put, List.setIfInBounds_toArray, List.set_cons_zero, List.set_cons_succ, List.getElem_toArray, List.getElem_cons_zero, List.getElem_cons_succ]
        refine wpAnyH_done (by kernel_rfl) ?_ _
        go_wp2
        go_ret
        exact ⟨by first | rfl | simp, HBw.out.trans (hHeld.out.mono HBw.out.size)⟩
end Go.Proofs.Ytahggokeelgjdaa
