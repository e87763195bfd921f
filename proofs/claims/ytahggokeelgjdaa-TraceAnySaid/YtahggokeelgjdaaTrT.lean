/- The walk of TraceBack. -/
import Derived.Test.YtahggokeelgjdaaTrS
import Derived.Deep.RegionHeld3
namespace Go.Proofs.Ytahggokeelgjdaa
open Go.RowKit
set_option linter.unusedVariables false
set_option linter.unusedSimpArgs false

/-- The cells of thing i of a list. -/
theorem OPS.at_ {W : World} {v : Value} {l : List OV} (h : OPS W v l) (i : Nat) (p : OV) (hp : l[i]? = some p) : ∃ b off c, v = .slice (some ⟨b, off, none⟩) l.length c ∧ b < W.heap.size ∧ OvAt W b (off + i * 8) p := by
  obtain ⟨A, c, e, _, rfl | ⟨b, off, rfl, hb, hc⟩⟩ := h
  · simp at hp
  · exact ⟨b, off, c, e, hb, hc i p hp⟩
theorem od_at {l l' : List OV} (h : odOf l' = odOf l) (i : Nat) (p p' : OV) (hp : l[i]? = some p) (hp' : l'[i]? = some p') : p'.o = p.o ∧ p'.d = p.d := by
  have h1 := congrArg (fun q => q[i]?) h
  simp only [odOf, List.getElem?_map, hp, hp', Option.map_some] at h1
  injection h1 with h1
  injection h1 with h2 h3
  exact ⟨h2, h3⟩
set_option maxHeartbeats 6400000 in
theorem walkTraceBack (A0 : Option Addr) (l : List OV) (c0 : Nat) (w : World) (h0 : OPS w (.slice A0 l.length c0) l) (hl : ∀ p ∈ l, ∀ x ∈ p.d, x < 256) :
    Calls Try.prog 4 #[.slice A0 l.length c0] w fun e w' => e = .returned (.bool true) ∧ Below w.heap.size w w' := by
  have HO0 := Lib.hid h0
  have HL := Lib.hid hl
  clear h0 hl
  go_enter Try.func4, Try.ntmps4
  go_wp2_with fail
  with_reducible refine Calls.mono (awake54 _) ?_
  rintro e w1 ⟨rfl, hB1⟩
  have HW1 := Lib.hid hB1
  clear hB1
  go_wp2_with fail
  with_reducible refine Calls.mono (refMay _ l w1 (HO0.out.keep HW1.out)) ?_
  rintro e w1' ⟨rfl, rfl⟩
  cases hm : mayB l with
  | false =>
    go_wp2
    go_ret
    exact ⟨rfl, HW1.out⟩
  | true =>
    have HM := Lib.hid hm
    clear hm
    go_wp2_with fail
    with_reducible refine Calls.mono (trBytes _ l w1 (HO0.out.keep HW1.out)) ?_
    rintro e w2 (⟨_, b2, v2, rfl, hb2, hv2, hB2, _⟩ | ⟨hf, _⟩)
    rotate_left
    · rw [HM.out] at hf; cases hf
    have HR2 : Hid (RD w2 v2 (bytesB l)) := Lib.hid (BY.rd hv2 (by have := bytesB_len l HM.out HO0.out.oks; omega))
    have HW2 : Hid (Below w.heap.size w w2) := Lib.hid (HW1.out.trans (hB2.mono HW1.out.size))
    clear hb2 hv2 hB2
    go_wp2_with fail
    with_reducible refine Calls.mono (trRead_ok v2 l w2 HR2.out HM.out HO0.out.oks (bytesB_lt l HL.out)) ?_
    rintro e w3 ⟨⟨v3, l3, rfl, ho3, hod⟩, hB3⟩
    have HW3 : Hid (Below w.heap.size w w3) := Lib.hid (HW2.out.trans (hB3.mono HW2.out.size))
    have hll : l3.length = l.length := by have := congrArg List.length hod; simpa [odOf] using this
    have HOD := Lib.hid hod
    have HO3 := Lib.hid ho3
    obtain ⟨A3, c3, rfl, _, _⟩ := ho3
    rw [hll] at HO3 ⊢
    have HLL := Lib.hid hll
    clear hod hB3 hll
    go_wp2_with fail
    go_loopw [5] (fun v5 wr => ∃ i : Nat, i ≤ l.length ∧ v5 = .int .i64 i ∧ Hid (Below w3.heap.size w3 wr)) (fun v5 _ => l.length - (intOf v5).toNat)
    case atStart => exact ⟨0, by omega, rfl, Lib.hid (Below.refl _ _)⟩
    case round =>
      obtain ⟨i, hi, rfl, HBl⟩ := hrel
      have HBw : Hid (Below w.heap.size w wr) := Lib.hid (HW3.out.trans (HBl.out.mono HW3.out.size))
      by_cases hlt : i < l.length
      · obtain ⟨py, hpy⟩ : ∃ p, l[i]? = some p := ⟨_, List.getElem?_eq_getElem hlt⟩
        obtain ⟨px, hpx⟩ : ∃ p, l3[i]? = some p := ⟨_, List.getElem?_eq_getElem (by rw [HLL.out]; exact hlt)⟩
        obtain ⟨yb, yo, yc, ey, hyz, hyc, hyr, hyk⟩ := (HO0.out.keep HBw.out).at_ i py hpy
        obtain ⟨xb, xo, xc, ex, hxz, hxc, hxr, hxk⟩ := (HO3.out.keep HBl.out).at_ i px hpx
        injection ey with ey _ _
        injection ex with ex _ _
        subst ey
        subst ex
        obtain ⟨ho, hd⟩ := od_at HOD.out i py px hpy hpx
        have HEQ := Lib.hid (And.intro ho hd)
        have HXR := Lib.hid hxr
        have HYR := Lib.hid hyr
        have HXD : Hid (∀ x ∈ px.d, x < 256) := Lib.hid (by rw [hd]; exact HL.out py (List.mem_of_getElem? hpy))
        have HYD : Hid (∀ x ∈ py.d, x < 256) := Lib.hid (HL.out py (List.mem_of_getElem? hpy))
        have i1 : (i : Int) < l.length := by omega
        have id1 : decide ((i : Int) < l.length) = true := decide_eq_true i1
        have id0 : (0 : Int) ≤ i := by omega
        have idn : i < l.length := by omega
        have id2 : decide (i < l.length) = true := decide_eq_true idn
        obtain ⟨y0, y1, y2, y3, y4, y5, y6, y7⟩ := hyc
        obtain ⟨x0, x1, x2, x3, x4, x5, x6, x7⟩ := hxc
        have HXZ := Lib.hid hxz
        have HYZ := Lib.hid hyz
        clear hxz hyz hpx hpy hxr hyr hxk hyk ho hd
        go_upto_region 11 with (fail)
        refine wp_region_held_drew (S := fun w' => w'.cell? ⟨xb, xo + i * 8, none⟩ = some (.int .i64 px.o.k) ∧ w'.cell? ⟨xb, xo + i * 8 + 1, none⟩ = some (.int .i64 px.o.t) ∧ w'.cell? ⟨xb, xo + i * 8 + 2, none⟩ = some (.int .i64 px.o.a) ∧ w'.cell? ⟨xb, xo + i * 8 + 3, none⟩ = some (.int .i64 px.o.b) ∧ w'.cell? ⟨xb, xo + i * 8 + 4, none⟩ = some (.int .i64 px.o.v) ∧ w'.cell? ⟨xb, xo + i * 8 + 5, none⟩ = some (.int .i64 px.o.n) ∧ w'.cell? ⟨xb, xo + i * 8 + 6, none⟩ = some (.int .i64 px.o.m) ∧ w'.cell? ⟨xb, xo + i * 8 + 7, none⟩ = some (px.dv) ∧ w'.cell? ⟨yb, yo + i * 8, none⟩ = some (.int .i64 py.o.k) ∧ w'.cell? ⟨yb, yo + i * 8 + 1, none⟩ = some (.int .i64 py.o.t) ∧ w'.cell? ⟨yb, yo + i * 8 + 2, none⟩ = some (.int .i64 py.o.a) ∧ w'.cell? ⟨yb, yo + i * 8 + 3, none⟩ = some (.int .i64 py.o.b) ∧ w'.cell? ⟨yb, yo + i * 8 + 4, none⟩ = some (.int .i64 py.o.v) ∧ w'.cell? ⟨yb, yo + i * 8 + 5, none⟩ = some (.int .i64 py.o.n) ∧ w'.cell? ⟨yb, yo + i * 8 + 6, none⟩ = some (.int .i64 py.o.m) ∧ w'.cell? ⟨yb, yo + i * 8 + 7, none⟩ = some (py.dv) ∧ Hid (Below wr.heap.size wr w')) (by kernel_rfl) ?_ (fun hHeld => ?_)
        · exact ⟨x0, x1, x2, x3, x4, x5, x6, x7, y0, y1, y2, y3, y4, y5, y6, y7, Lib.hid (Below.refl _ _).drew⟩
        clear x0 x1 x2 x3 x4 x5 x6 x7 y0 y1 y2 y3 y4 y5 y6 y7
        refine wpAnyH_take (i := 0) (v := ?_) rfl (by kernel_rfl) (by kernel_rfl) (by kernel_rfl) (fun _ _ _ h => h) (Or.inl ⟨by kernel_rfl, ?_⟩) (by assumption) ?_
        rotate_left
        · (intro w hSw; (try dsimp only at hSw); go_simp)
          try (with_reducible rfl)
        rotate_left
        try simp (maxSteps := 4000000) only [Act.put, List.setIfInBounds_toArray, List.set_cons_zero, List.set_cons_succ, List.getElem_toArray, List.getElem_cons_zero, List.getElem_cons_succ]
        refine wpAnyH_take (i := 1) (v := ?_) rfl (by kernel_rfl) (by kernel_rfl) (by kernel_rfl) (fun _ _ _ h => h) (Or.inl ⟨by kernel_rfl, ?_⟩) (by assumption) ?_
        rotate_left
        · (intro w hSw; (try dsimp only at hSw); go_simp)
          try (with_reducible rfl)
        rotate_left
        try simp (maxSteps := 4000000) only [Act.put, List.setIfInBounds_toArray, List.set_cons_zero, List.set_cons_succ, List.getElem_toArray, List.getElem_cons_zero, List.getElem_cons_succ]
        refine wpAnyH_take (i := 2) (v := ?_) rfl (by kernel_rfl) (by kernel_rfl) (by kernel_rfl) (fun _ _ _ h => h) (Or.inl ⟨by kernel_rfl, ?_⟩) (by assumption) ?_
        rotate_left
        · (intro w hSw; (try dsimp only at hSw); go_simp)
          try (with_reducible rfl)
        rotate_left
        try simp (maxSteps := 4000000) only [Act.put, List.setIfInBounds_toArray, List.set_cons_zero, List.set_cons_succ, List.getElem_toArray, List.getElem_cons_zero, List.getElem_cons_succ]
        refine wpAnyH_take (i := 3) (v := ?_) rfl (by kernel_rfl) (by kernel_rfl) (by kernel_rfl) (fun _ _ _ h => h) (Or.inl ⟨by kernel_rfl, ?_⟩) (by assumption) ?_
        rotate_left
        · (intro w hSw; (try dsimp only at hSw); go_simp)
          try (with_reducible rfl)
        rotate_left
        try simp (maxSteps := 4000000) only [Act.put, List.setIfInBounds_toArray, List.set_cons_zero, List.set_cons_succ, List.getElem_toArray, List.getElem_cons_zero, List.getElem_cons_succ]
        refine wpAnyH_take (i := 4) (v := ?_) rfl (by kernel_rfl) (by kernel_rfl) (by kernel_rfl) (fun _ _ _ h => h) (Or.inl ⟨by kernel_rfl, ?_⟩) (by assumption) ?_
        rotate_left
        · (intro w hSw; (try dsimp only at hSw); go_simp)
          try (with_reducible rfl)
        rotate_left
        try simp (maxSteps := 4000000) only [Act.put, List.setIfInBounds_toArray, List.set_cons_zero, List.set_cons_succ, List.getElem_toArray, List.getElem_cons_zero, List.getElem_cons_succ]
        refine wpAnyH_take (i := 5) (v := ?_) rfl (by kernel_rfl) (by kernel_rfl) (by kernel_rfl) (fun _ _ _ h => h) (Or.inl ⟨by kernel_rfl, ?_⟩) (by assumption) ?_
        rotate_left
        · (intro w hSw; (try dsimp only at hSw); go_simp)
          try (with_reducible rfl)
        rotate_left
        try simp (maxSteps := 4000000) only [Act.put, List.setIfInBounds_toArray, List.set_cons_zero, List.set_cons_succ, List.getElem_toArray, List.getElem_cons_zero, List.getElem_cons_succ]
        refine wpAnyH_take (i := 6) (v := ?_) rfl (by kernel_rfl) (by kernel_rfl) (by kernel_rfl) (fun _ _ _ h => h) (Or.inl ⟨by kernel_rfl, ?_⟩) (by assumption) ?_
        rotate_left
        · (intro w hSw; (try dsimp only at hSw); go_simp)
          try (with_reducible rfl)
        rotate_left
        try simp (maxSteps := 4000000) only [Act.put, List.setIfInBounds_toArray, List.set_cons_zero, List.set_cons_succ, List.getElem_toArray, List.getElem_cons_zero, List.getElem_cons_succ]
        refine wpAnyH_take (i := 7) (v := ?_) rfl (by kernel_rfl) (by kernel_rfl) (by kernel_rfl) (fun _ _ _ h => h) (Or.inl ⟨by kernel_rfl, ?_⟩) (by assumption) ?_
        rotate_left
        · (intro w hSw; (try dsimp only at hSw); go_simp)
          try (with_reducible rfl)
        rotate_left
        try simp (maxSteps := 4000000) only [Act.put, List.setIfInBounds_toArray, List.set_cons_zero, List.set_cons_succ, List.getElem_toArray, List.getElem_cons_zero, List.getElem_cons_succ]
        refine wpAnyH_ready (rs := [8]) (by kernel_rfl) (by simp) ?_
        refine AllReadyH.cons rfl (fun K2 hK2 => ?_) AllReadyH.nil
        go_simp
        have HBh := Lib.hid hHeld.2.2.2.2.2.2.2.2.2.2.2.2.2.2.2.2.out
        with_reducible refine Calls.mono (refSame px.o py.o px.dv py.dv px.d py.d _ true (HXR.out.keep HBh.out) (HYR.out.keep HBh.out) HXD.out HYD.out (by simp [HEQ.out])) ?_
        rintro e w4 ⟨rfl, hB4⟩
        refine hK2.out _ _ ?_ (fun hHeld2 => ?_)
        · have hxz := Nat.lt_of_lt_of_le HXZ.out HBh.out.size
          have hyz := Nat.lt_of_lt_of_le HYZ.out HBh.out.size
          exact ⟨(hB4.cell (p := ⟨xb, xo + i * 8, none⟩) hxz).trans hHeld.1, (hB4.cell (p := ⟨xb, xo + i * 8 + 1, none⟩) hxz).trans hHeld.2.1, (hB4.cell (p := ⟨xb, xo + i * 8 + 2, none⟩) hxz).trans hHeld.2.2.1, (hB4.cell (p := ⟨xb, xo + i * 8 + 3, none⟩) hxz).trans hHeld.2.2.2.1, (hB4.cell (p := ⟨xb, xo + i * 8 + 4, none⟩) hxz).trans hHeld.2.2.2.2.1, (hB4.cell (p := ⟨xb, xo + i * 8 + 5, none⟩) hxz).trans hHeld.2.2.2.2.2.1, (hB4.cell (p := ⟨xb, xo + i * 8 + 6, none⟩) hxz).trans hHeld.2.2.2.2.2.2.1, (hB4.cell (p := ⟨xb, xo + i * 8 + 7, none⟩) hxz).trans hHeld.2.2.2.2.2.2.2.1, (hB4.cell (p := ⟨yb, yo + i * 8, none⟩) hyz).trans hHeld.2.2.2.2.2.2.2.2.1, (hB4.cell (p := ⟨yb, yo + i * 8 + 1, none⟩) hyz).trans hHeld.2.2.2.2.2.2.2.2.2.1, (hB4.cell (p := ⟨yb, yo + i * 8 + 2, none⟩) hyz).trans hHeld.2.2.2.2.2.2.2.2.2.2.1, (hB4.cell (p := ⟨yb, yo + i * 8 + 3, none⟩) hyz).trans hHeld.2.2.2.2.2.2.2.2.2.2.2.1, (hB4.cell (p := ⟨yb, yo + i * 8 + 4, none⟩) hyz).trans hHeld.2.2.2.2.2.2.2.2.2.2.2.2.1, (hB4.cell (p := ⟨yb, yo + i * 8 + 5, none⟩) hyz).trans hHeld.2.2.2.2.2.2.2.2.2.2.2.2.2.1, (hB4.cell (p := ⟨yb, yo + i * 8 + 6, none⟩) hyz).trans hHeld.2.2.2.2.2.2.2.2.2.2.2.2.2.2.1, (hB4.cell (p := ⟨yb, yo + i * 8 + 7, none⟩) hyz).trans hHeld.2.2.2.2.2.2.2.2.2.2.2.2.2.2.2.1, Lib.hid (thn hHeld.2.2.2.2.2.2.2.2.2.2.2.2.2.2.2.2.out hB4)⟩
        clear hB4
        clear hK2 K2 hHeld
        have hHeld := hHeld2
        clear hHeld2
        try simp (maxSteps := 4000000) only [Act.put, List.setIfInBounds_toArray, List.set_cons_zero, List.set_cons_succ]
        refine wpAnyH_take (i := 9) (v := ?_) rfl (by kernel_rfl) (by kernel_rfl) (by kernel_rfl) (fun _ _ _ h => h) (Or.inl ⟨by kernel_rfl, ?_⟩) (by assumption) ?_
        rotate_left
        · (intro w hSw; (try dsimp only at hSw); go_simp)
          try (with_reducible rfl)
        rotate_left
        try simp (maxSteps := 4000000) only [Act.put, List.setIfInBounds_toArray, List.set_cons_zero, List.set_cons_succ, List.getElem_toArray, List.getElem_cons_zero, List.getElem_cons_succ]
        refine wpAnyH_done (by kernel_rfl) ?_ _
        have HB5 : Hid (Below w3.heap.size w3 w4) := Lib.hid (HBl.out.trans (hHeld.2.2.2.2.2.2.2.2.2.2.2.2.2.2.2.2.out.mono HBl.out.size))
        clear hHeld
        go_wp2_with fail
        go_roundw
        case rel => first | exact ⟨i + 1, by omega, by go_num, HB5⟩ | exact ⟨i + 1, by omega, by go_num⟩
        case measure => simp [intOf] <;> omega
      · obtain rfl : i = l.length := by omega
        go_wp2
        go_ret
        exact ⟨rfl, HBw.out⟩
end Go.Proofs.Ytahggokeelgjdaa
