/- The walk of TraceBytes. -/
import Derived.Test.YtahggokeelgjdaaTrP
import Derived.Laws.MakeOwn
import Derived.Deep.RegionHeld3
namespace Go.Proofs.Ytahggokeelgjdaa
open Go.RowKit
set_option linter.unusedVariables false
set_option linter.unusedSimpArgs false

theorem trBytes_long (A : Option Addr) (n c : Nat) (W : World) (h : 500 < n) :
    Calls Try.prog 9 #[.slice A n c] W fun e w' => e = .returned (.slice none 0 0) ∧ W = w' := by
  have i0 : (500 : Int) < n := by omega
  go_enter Try.func9, Try.ntmps9
  go_wp2
  go_ret
  exact ⟨rfl, rfl⟩
theorem conv_by (b : Nat) (W : World) (v : Value) (xs : List Nat) (h : BY b W v xs) (hx : ∀ x ∈ xs, x < 256) : (convert 23 9 v).run Try.prog W = .ok (.string (bs xs)) W := by
  obtain ⟨A, c, rfl, h1, h2, h3, h4, ⟨h5, h6, h7⟩ | ⟨off, h5, h6, h7, _⟩⟩ := h
  · have h8 : xs = [] := List.length_eq_zero_iff.1 h6
    subst h8
    exact conv_bs W _ [] ⟨A, c, rfl, by simp, .inl rfl⟩ (by simp)
  · subst h5
    refine run_convert_bytes_arg W 23 5 Try.underlying23 Try.underlying5 b off xs.length c (xs.map fun (x : Nat) => (x : Int)) (by simp) (fun i hi => ?_) 9 Try.underlying9
    rw [h7 i (.int .u8 ((xs[i] : Nat) : Int)) (by simp [u8s, hi])]
    simp [List.getD, hi]
theorem infoOp : (Try.prog.info? 25).map (fun i => (i.zero, i.size, i.bytes)) = some (some (.agg #[.int .i64 0, .int .i64 0, .int .i64 0, .int .i64 0, .int .i64 0, .int .i64 0, .int .i64 0, .slice none 0 0]), 8, 80) := by kernel_rfl
theorem mk501 : ∃ Z, ∀ W : World, (Instr.makeSlice 22 (.int .i64 501) (.int .i64 501)).run Try.prog W = .ok (.slice (some ⟨W.heap.size, 0, none⟩) 501 501) (W.alloc (.cells Z 25)) := by
  cases hi : Try.prog.info? 25 with
  | none => have := infoOp; rw [hi] at this; cases this
  | some i0 =>
    have h := infoOp
    rw [hi] at h
    injection h with h
    injection h with hz0 h
    injection h with hz1 hz2
    have := fun W => run_make (P := Try.prog) (w := W) 22 25 i0 _ Try.underlying22 hi hz0 .i64 .i64 501 501 (by omega) (by omega) (by rw [hz2]; omega) (by omega)
    exact ⟨_, this⟩
/-- What holds behind every operation may be made stronger on the way. -/
theorem wpAnyH_strong {P : Program} {md : Region.Mode} {ops : Array Oper} {Q : Exit → Act → World → Prop} {S S' : World → Prop} (h : ∀ w, S' w → S w) :
    ∀ (fuel : Nat) (listed : Array Bool) (a : Act) (w : World), wpAnyH P md ops Q S' fuel listed a w → wpAnyH P md ops Q S fuel listed a w
  | 0, _, _, _, H => H
  | fuel + 1, _, _, _, H => ⟨H.1, fun i hi => wpOp_mono (fun a' w' h' => ⟨h w' h'.1, wpAnyH_strong h fuel _ a' w' h'.2⟩) (H.2 i hi)⟩
set_option maxHeartbeats 6400000 in
theorem walkTraceBytes (A0 : Option Addr) (l : List OV) (c0 : Nat) (o : Op7) (d : List Nat) (dv : Value) (w : World) (h0 : OPS w (.slice A0 l.length c0) l) (hl : ∀ p ∈ l, ∀ x ∈ p.d, x < 256) (h1 : RD w dv d) (ho : o.ok) (hd : ∀ x ∈ d, x < 256) :
    Calls Try.prog 3 #[.slice A0 l.length c0, .agg #[.int .i64 o.k, .int .i64 o.t, .int .i64 o.a, .int .i64 o.b, .int .i64 o.v, .int .i64 o.n, .int .i64 o.m, dv]] w fun e w' => e = .returned (.bool true) ∧ Below w.heap.size w w' := by
  have hsh := h1
  obtain ⟨A, c, rfl, _, _⟩ := hsh
  have HO0 := Lib.hid h0
  have HL := Lib.hid hl
  have HD0 := Lib.hid h1
  have HOK := Lib.hid ho
  have HDB := Lib.hid hd
  have HOB : Hid (∀ x ∈ oneB o d, x < 256) := Lib.hid (oneB_lt o d hd)
  obtain ⟨Z, hmk⟩ := mk501
  clear h0 hl h1 ho hd
  go_enter Try.func3, Try.ntmps3
  go_wp2_with fail
  with_reducible refine Calls.mono (awake54 _) ?_
  rintro e w1 ⟨rfl, hB1⟩
  obtain ⟨X, hX⟩ : ∃ X, w.heap.size = X := ⟨_, rfl⟩
  have HW1 : Hid (Below w.heap.size w w1) := Lib.hid (thn (alc0 _ _) hB1)
  have hb1 : w1.heap[X]? = some (.cells #[.int .i64 o.k, .int .i64 o.t, .int .i64 o.a, .int .i64 o.b, .int .i64 o.v, .int .i64 o.n, .int .i64 o.m, .slice A d.length c] 25) := by
    rw [← hX]
    exact (hB1.block w.heap.size (by simp)).trans (by show (w.heap.push _)[w.heap.size]? = _; simp)
  have HX1 : Hid (w1.heap[X]? = some (.cells #[.int .i64 o.k, .int .i64 o.t, .int .i64 o.a, .int .i64 o.b, .int .i64 o.v, .int .i64 o.n, .int .i64 o.m, .slice A d.length c] 25)) := Lib.hid hb1
  try rw [hX]
  clear hB1 hb1
  go_wp2_with fail
  with_reducible refine Calls.mono (trBytes _ l w1 (HO0.out.keep HW1.out)) ?_
  rintro e C hp
  obtain ⟨m, hm⟩ : ∃ m, mayB l = m := ⟨_, rfl⟩
  have hq : ∃ XX A9 c9, e = .returned (.slice A9 XX.length c9) ∧ RD C (.slice A9 XX.length c9) XX ∧ Below w1.heap.size w1 C ∧ (if m then bytesB l else []) = XX := by
    rcases hp with ⟨h, b, v, rfl, hb, hv, hB, _⟩ | ⟨h, rfl, hB⟩
    · rw [hm] at h
      subst h
      have hr : RD C v (bytesB l) := BY.rd hv (by have := bytesB_len l hm HO0.out.oks; omega)
      have hr2 := hr
      obtain ⟨A9, c9, rfl, _⟩ := hr2
      exact ⟨_, A9, c9, rfl, hr, hB, rfl⟩
    · rw [hm] at h
      subst h
      exact ⟨[], none, 0, rfl, ⟨none, 0, rfl, by simp, .inl rfl⟩, hB, rfl⟩
  clear hp
  obtain ⟨XX, A9, c9, rfl, hr9, hB9, hXX⟩ := hq
  have HXL : Hid (XX.length ≤ 140737488351232) := Lib.hid (by obtain ⟨_, _, _, h, _⟩ := hr9; exact h)
  have HXB : Hid (∀ x ∈ XX, x < 256) := Lib.hid (by
    rw [← hXX]
    cases m with
    | true => exact bytesB_lt l HL.out
    | false => simp)
  have HE : Hid ((m = true ∧ 0 < XX.length) ∨ (m = false ∧ XX = [])) := Lib.hid (by
    rw [← hXX]
    cases m with
    | true => exact .inl ⟨rfl, by simp [bytesB]⟩
    | false => exact .inr ⟨rfl, rfl⟩)
  have HM : Hid (mayB l = m) := Lib.hid hm
  have HXX : Hid ((if m then bytesB l else []) = XX) := Lib.hid hXX
  have HW2 : Hid (Below w.heap.size w C) := Lib.hid (HW1.out.trans (hB9.mono HW1.out.size))
  have HOC : Hid (OPS C (.slice A0 l.length c0) l) := Lib.hid (HO0.out.keep HW2.out)
  have HDC : Hid (RD C (.slice A d.length c) d) := Lib.hid (HD0.out.keep HW2.out)
  have HR9 := Lib.hid hr9
  have hzw : X < w1.heap.size := by
    have h := HX1.out
    exact (Array.getElem?_eq_some_iff.1 h).1
  have hbC : C.heap[X]? = some (.cells #[.int .i64 o.k, .int .i64 o.t, .int .i64 o.a, .int .i64 o.b, .int .i64 o.v, .int .i64 o.n, .int .i64 o.m, .slice A d.length c] 25) := (hB9.block X hzw).trans HX1.out
  have HXC : Hid (X < C.heap.size) := Lib.hid (Nat.lt_of_lt_of_le hzw hB9.size)
  have HS : Hid ((fun w' => w'.cell? ⟨X, 0, none⟩ = some (.int .i64 o.k) ∧ w'.cell? ⟨X, 1, none⟩ = some (.int .i64 o.t) ∧ w'.cell? ⟨X, 2, none⟩ = some (.int .i64 o.a) ∧ w'.cell? ⟨X, 3, none⟩ = some (.int .i64 o.b) ∧ w'.cell? ⟨X, 4, none⟩ = some (.int .i64 o.v) ∧ w'.cell? ⟨X, 5, none⟩ = some (.int .i64 o.n) ∧ w'.cell? ⟨X, 6, none⟩ = some (.int .i64 o.m) ∧ w'.cell? ⟨X, 7, none⟩ = some (.slice A d.length c) ∧ Hid (Below C.heap.size C w')) C) := Lib.hid (by
    have hc : ∀ j, C.cell? ⟨X, j, none⟩ = (#[Value.int .i64 o.k, .int .i64 o.t, .int .i64 o.a, .int .i64 o.b, .int .i64 o.v, .int .i64 o.n, .int .i64 o.m, .slice A d.length c] : Array Value)[j]? := fun j => cell_of_row _ _ j _ _ _ hbC
    exact ⟨hc 0, hc 1, hc 2, hc 3, hc 4, hc 5, hc 6, hc 7, Lib.hid (Below.refl _ _)⟩)
  clear hm hXX hr9 hB9 hbC hX hzw
  go_upto_region 4 with (fail)
  have HTAKE := Lib.hid (fun w' (h : (fun w' => w'.cell? ⟨X, 0, none⟩ = some (.int .i64 o.k) ∧ w'.cell? ⟨X, 1, none⟩ = some (.int .i64 o.t) ∧ w'.cell? ⟨X, 2, none⟩ = some (.int .i64 o.a) ∧ w'.cell? ⟨X, 3, none⟩ = some (.int .i64 o.b) ∧ w'.cell? ⟨X, 4, none⟩ = some (.int .i64 o.v) ∧ w'.cell? ⟨X, 5, none⟩ = some (.int .i64 o.n) ∧ w'.cell? ⟨X, 6, none⟩ = some (.int .i64 o.m) ∧ w'.cell? ⟨X, 7, none⟩ = some (.slice A d.length c) ∧ Hid (Below C.heap.size C w')) w') => conv_bs w' _ XX (HR9.out.keep h.2.2.2.2.2.2.2.2.out) HXB.out)
  rcases HE.out with ⟨rfl, hpos⟩ | ⟨rfl, rfl⟩
  · skip
    have i1 : ((XX.length : Int) == 0) = false := beq_eq_false_iff_ne.2 (by omega)
    have i2 : ¬ (XX.length : Int) = 0 := by omega
    refine wp_region_held_drew (S := fun w' => w'.cell? ⟨X, 0, none⟩ = some (.int .i64 o.k) ∧ w'.cell? ⟨X, 1, none⟩ = some (.int .i64 o.t) ∧ w'.cell? ⟨X, 2, none⟩ = some (.int .i64 o.a) ∧ w'.cell? ⟨X, 3, none⟩ = some (.int .i64 o.b) ∧ w'.cell? ⟨X, 4, none⟩ = some (.int .i64 o.v) ∧ w'.cell? ⟨X, 5, none⟩ = some (.int .i64 o.n) ∧ w'.cell? ⟨X, 6, none⟩ = some (.int .i64 o.m) ∧ w'.cell? ⟨X, 7, none⟩ = some (.slice A d.length c) ∧ Hid (Below C.heap.size C w')) (by kernel_rfl) ?_ (fun hHeld => ?_)
    · have h := HS.out
      exact ⟨h.1, h.2.1, h.2.2.1, h.2.2.2.1, h.2.2.2.2.1, h.2.2.2.2.2.1, h.2.2.2.2.2.2.1, h.2.2.2.2.2.2.2.1, Lib.hid (Below.refl _ _).drew⟩
    clear HS
    refine wpAnyH_take (i := 0) (v := ?_) rfl (by kernel_rfl) (by kernel_rfl) (by kernel_rfl) (fun _ _ _ h => h) (Or.inl ⟨by kernel_rfl, ?_⟩) (by assumption) ?_
    rotate_left
    · (intro w hSw; (try dsimp only at hSw); (try have hTk := Hid.out HTAKE _ hSw); go_simp)
      try (with_reducible rfl)
    rotate_left
    try simp (maxSteps := 4000000) only [Act.put, List.setIfInBounds_toArray, List.set_cons_zero, List.set_cons_succ, List.getElem_toArray, List.getElem_cons_zero, List.getElem_cons_succ]
    refine wpAnyH_take (i := 1) (v := ?_) rfl (by kernel_rfl) (by kernel_rfl) (by kernel_rfl) (fun _ _ _ h => h) (Or.inl ⟨by kernel_rfl, ?_⟩) (by assumption) ?_
    rotate_left
    · (intro w hSw; (try dsimp only at hSw); (try have hTk := Hid.out HTAKE _ hSw); go_simp)
      try (with_reducible rfl)
    rotate_left
    try simp (maxSteps := 4000000) only [Act.put, List.setIfInBounds_toArray, List.set_cons_zero, List.set_cons_succ, List.getElem_toArray, List.getElem_cons_zero, List.getElem_cons_succ]
    refine wpAnyH_take (i := 2) (v := ?_) rfl (by kernel_rfl) (by kernel_rfl) (by kernel_rfl) (fun _ _ _ h => h) (Or.inl ⟨by kernel_rfl, ?_⟩) (by assumption) ?_
    rotate_left
    · (intro w hSw; (try dsimp only at hSw); (try have hTk := Hid.out HTAKE _ hSw); go_simp)
      try (with_reducible rfl)
    rotate_left
    try simp (maxSteps := 4000000) only [Act.put, List.setIfInBounds_toArray, List.set_cons_zero, List.set_cons_succ, List.getElem_toArray, List.getElem_cons_zero, List.getElem_cons_succ]
    refine wpAnyH_ready (rs := [3]) (by kernel_rfl) (by simp) ?_
    refine AllReadyH.cons rfl (fun K2 hK2 => ?_) AllReadyH.nil
    go_simp
    have HBC := Lib.hid hHeld.2.2.2.2.2.2.2.2.out
    with_reducible refine Calls.mono (refBytes _ l _ (HOC.out.keep HBC.out)) ?_
    rintro e w3 ⟨b3, v3, rfl, hb3, hv3, hB3, _⟩
    have hr3 : RD w3 v3 XX := BY.rd (by have := hv3; rw [HM.out, HXX.out] at this; exact this) HXL.out
    have hcv := conv_bs w3 v3 XX hr3 HXB.out
    obtain ⟨A3, c3, rfl, _⟩ := hr3
    refine hK2.out _ _ ?_ (fun hHeld2 => ?_)
    · have hzX := Nat.lt_of_lt_of_le HXC.out hHeld.2.2.2.2.2.2.2.2.out.size
      exact ⟨(hB3.cell (p := ⟨X, 0, none⟩) hzX).trans hHeld.1, (hB3.cell (p := ⟨X, 1, none⟩) hzX).trans hHeld.2.1, (hB3.cell (p := ⟨X, 2, none⟩) hzX).trans hHeld.2.2.1, (hB3.cell (p := ⟨X, 3, none⟩) hzX).trans hHeld.2.2.2.1, (hB3.cell (p := ⟨X, 4, none⟩) hzX).trans hHeld.2.2.2.2.1, (hB3.cell (p := ⟨X, 5, none⟩) hzX).trans hHeld.2.2.2.2.2.1, (hB3.cell (p := ⟨X, 6, none⟩) hzX).trans hHeld.2.2.2.2.2.2.1, (hB3.cell (p := ⟨X, 7, none⟩) hzX).trans hHeld.2.2.2.2.2.2.2.1, Lib.hid (thn hHeld.2.2.2.2.2.2.2.2.out hB3)⟩
    clear hb3 hv3 hB3
    clear hK2 K2 hHeld
    have hHeld := hHeld2
    clear hHeld2
    try simp (maxSteps := 4000000) only [Act.put, List.setIfInBounds_toArray, List.set_cons_zero, List.set_cons_succ]
    refine wpAnyH_ready (rs := [4]) (by kernel_rfl) (by simp) ?_
    refine AllReadyH.cons rfl (fun K2 hK2 => ?_) AllReadyH.nil
    go_simp
    refine hK2.out _ _ hHeld (fun hHeld2 => ?_)
    clear hK2 K2 hHeld
    have hHeld := hHeld2
    clear hHeld2
    try simp (maxSteps := 4000000) only [Act.put, List.setIfInBounds_toArray, List.set_cons_zero, List.set_cons_succ]
    refine wpAnyH_take (i := 5) (v := ?_) rfl (by kernel_rfl) (by kernel_rfl) (by kernel_rfl) (fun _ _ _ h => h) (Or.inl ⟨by kernel_rfl, ?_⟩) (by assumption) ?_
    rotate_left
    · (intro w hSw; (try dsimp only at hSw); (try have hTk := Hid.out HTAKE _ hSw); go_simp)
      try (with_reducible rfl)
    rotate_left
    try simp (maxSteps := 4000000) only [Act.put, List.setIfInBounds_toArray, List.set_cons_zero, List.set_cons_succ, List.getElem_toArray, List.getElem_cons_zero, List.getElem_cons_succ]
    refine wpAnyH_take (i := 6) (v := ?_) rfl (by kernel_rfl) (by kernel_rfl) (by kernel_rfl) (fun _ _ _ h => h) (Or.inl ⟨by kernel_rfl, ?_⟩) (by assumption) ?_
    rotate_left
    · (intro w hSw; (try dsimp only at hSw); (try have hTk := Hid.out HTAKE _ hSw); go_simp)
      try (with_reducible rfl)
    rotate_left
    try simp (maxSteps := 4000000) only [Act.put, List.setIfInBounds_toArray, List.set_cons_zero, List.set_cons_succ, List.getElem_toArray, List.getElem_cons_zero, List.getElem_cons_succ]
    refine wpAnyH_take (i := 7) (v := ?_) rfl (by kernel_rfl) (by kernel_rfl) (by kernel_rfl) (fun _ _ _ h => h) (Or.inl ⟨by kernel_rfl, ?_⟩) (by assumption) ?_
    rotate_left
    · (intro w hSw; (try dsimp only at hSw); (try have hTk := Hid.out HTAKE _ hSw); go_simp)
      try (with_reducible rfl)
    rotate_left
    try simp (maxSteps := 4000000) only [Act.put, List.setIfInBounds_toArray, List.set_cons_zero, List.set_cons_succ, List.getElem_toArray, List.getElem_cons_zero, List.getElem_cons_succ]
    refine wpAnyH_take (i := 8) (v := ?_) rfl (by kernel_rfl) (by kernel_rfl) (by kernel_rfl) (fun _ _ _ h => h) (Or.inl ⟨by kernel_rfl, ?_⟩) (by assumption) ?_
    rotate_left
    · (intro w hSw; (try dsimp only at hSw); (try have hTk := Hid.out HTAKE _ hSw); go_simp)
      try (with_reducible rfl)
    rotate_left
    try simp (maxSteps := 4000000) only [Act.put, List.setIfInBounds_toArray, List.set_cons_zero, List.set_cons_succ, List.getElem_toArray, List.getElem_cons_zero, List.getElem_cons_succ]
    refine wpAnyH_take (i := 9) (v := ?_) rfl (by kernel_rfl) (by kernel_rfl) (by kernel_rfl) (fun _ _ _ h => h) (Or.inl ⟨by kernel_rfl, ?_⟩) (by assumption) ?_
    rotate_left
    · (intro w hSw; (try dsimp only at hSw); (try have hTk := Hid.out HTAKE _ hSw); go_simp)
      try (with_reducible rfl)
    rotate_left
    try simp (maxSteps := 4000000) only [Act.put, List.setIfInBounds_toArray, List.set_cons_zero, List.set_cons_succ, List.getElem_toArray, List.getElem_cons_zero, List.getElem_cons_succ]
    refine wpAnyH_take (i := 10) (v := ?_) rfl (by kernel_rfl) (by kernel_rfl) (by kernel_rfl) (fun _ _ _ h => h) (Or.inl ⟨by kernel_rfl, ?_⟩) (by assumption) ?_
    rotate_left
    · (intro w hSw; (try dsimp only at hSw); (try have hTk := Hid.out HTAKE _ hSw); go_simp)
      try (with_reducible rfl)
    rotate_left
    try simp (maxSteps := 4000000) only [Act.put, List.setIfInBounds_toArray, List.set_cons_zero, List.set_cons_succ, List.getElem_toArray, List.getElem_cons_zero, List.getElem_cons_succ]
    refine wpAnyH_ready (rs := [11]) (by kernel_rfl) (by simp) ?_
    refine AllReadyH.cons rfl (fun K2 hK2 => ?_) AllReadyH.nil
    go_simp
    have HBC := Lib.hid hHeld.2.2.2.2.2.2.2.2.out
    with_reducible refine Calls.mono (refMay _ l _ (HOC.out.keep HBC.out)) ?_
    rintro e w4 ⟨rfl, rfl⟩
    rw [HM.out]
    refine hK2.out _ _ ?_ (fun hHeld2 => ?_)
    · have hzX := Nat.lt_of_lt_of_le HXC.out hHeld.2.2.2.2.2.2.2.2.out.size
      exact ⟨((Below.refl _ _).cell (p := ⟨X, 0, none⟩) hzX).trans hHeld.1, ((Below.refl _ _).cell (p := ⟨X, 1, none⟩) hzX).trans hHeld.2.1, ((Below.refl _ _).cell (p := ⟨X, 2, none⟩) hzX).trans hHeld.2.2.1, ((Below.refl _ _).cell (p := ⟨X, 3, none⟩) hzX).trans hHeld.2.2.2.1, ((Below.refl _ _).cell (p := ⟨X, 4, none⟩) hzX).trans hHeld.2.2.2.2.1, ((Below.refl _ _).cell (p := ⟨X, 5, none⟩) hzX).trans hHeld.2.2.2.2.2.1, ((Below.refl _ _).cell (p := ⟨X, 6, none⟩) hzX).trans hHeld.2.2.2.2.2.2.1, ((Below.refl _ _).cell (p := ⟨X, 7, none⟩) hzX).trans hHeld.2.2.2.2.2.2.2.1, Lib.hid (thn hHeld.2.2.2.2.2.2.2.2.out (Below.refl _ _))⟩

    clear hK2 K2 hHeld
    have hHeld := hHeld2
    clear hHeld2
    try simp (maxSteps := 4000000) only [Act.put, List.setIfInBounds_toArray, List.set_cons_zero, List.set_cons_succ]
    refine wpAnyH_take (i := 12) (v := ?_) rfl (by kernel_rfl) (by kernel_rfl) (by kernel_rfl) (fun _ _ _ h => h) (Or.inl ⟨by kernel_rfl, ?_⟩) (by assumption) ?_
    rotate_left
    · (intro w hSw; (try dsimp only at hSw); (try have hTk := Hid.out HTAKE _ hSw); go_simp)
      try (with_reducible rfl)
    rotate_left
    try simp (maxSteps := 4000000) only [Act.put, List.setIfInBounds_toArray, List.set_cons_zero, List.set_cons_succ, List.getElem_toArray, List.getElem_cons_zero, List.getElem_cons_succ]
    refine wpAnyH_take (i := 13) (v := ?_) rfl (by kernel_rfl) (by kernel_rfl) (by kernel_rfl) (fun _ _ _ h => h) (Or.inl ⟨by kernel_rfl, ?_⟩) (by assumption) ?_
    rotate_left
    · (intro w hSw; (try dsimp only at hSw); (try have hTk := Hid.out HTAKE _ hSw); go_simp)
      try (with_reducible rfl)
    rotate_left
    try simp (maxSteps := 4000000) only [Act.put, List.setIfInBounds_toArray, List.set_cons_zero, List.set_cons_succ, List.getElem_toArray, List.getElem_cons_zero, List.getElem_cons_succ]
    refine wpAnyH_take (i := 14) (v := ?_) rfl (by kernel_rfl) (by kernel_rfl) (by kernel_rfl) (fun _ _ _ h => h) (Or.inl ⟨by kernel_rfl, ?_⟩) (by assumption) ?_
    rotate_left
    · (intro w hSw; (try dsimp only at hSw); (try have hTk := Hid.out HTAKE _ hSw); go_simp)
      try (with_reducible rfl)
    rotate_left
    try simp (maxSteps := 4000000) only [Act.put, List.setIfInBounds_toArray, List.set_cons_zero, List.set_cons_succ, List.getElem_toArray, List.getElem_cons_zero, List.getElem_cons_succ]
    refine wpAnyH_take (i := 15) (v := ?_) rfl (by kernel_rfl) (by kernel_rfl) (by kernel_rfl) (fun _ _ _ h => h) (Or.inl ⟨by kernel_rfl, ?_⟩) (by assumption) ?_
    rotate_left
    · (intro w hSw; (try dsimp only at hSw); (try have hTk := Hid.out HTAKE _ hSw); go_simp)
      try (with_reducible rfl)
    rotate_left
    try simp (maxSteps := 4000000) only [Act.put, List.setIfInBounds_toArray, List.set_cons_zero, List.set_cons_succ, List.getElem_toArray, List.getElem_cons_zero, List.getElem_cons_succ]
    refine wpAnyH_take (i := 16) (v := ?_) rfl (by kernel_rfl) (by kernel_rfl) (by kernel_rfl) (fun _ _ _ h => h) (Or.inl ⟨by kernel_rfl, ?_⟩) (by assumption) ?_
    rotate_left
    · (intro w hSw; (try dsimp only at hSw); (try have hTk := Hid.out HTAKE _ hSw); go_simp)
      try (with_reducible rfl)
    rotate_left
    try simp (maxSteps := 4000000) only [Act.put, List.setIfInBounds_toArray, List.set_cons_zero, List.set_cons_succ, List.getElem_toArray, List.getElem_cons_zero, List.getElem_cons_succ]
    refine wpAnyH_take (i := 19) (v := ?_) rfl (by kernel_rfl) (by kernel_rfl) (by kernel_rfl) (fun _ _ _ h => h) (Or.inl ⟨by kernel_rfl, ?_⟩) (by assumption) ?_
    rotate_left
    · (intro w hSw; (try dsimp only at hSw); (try have hTk := Hid.out HTAKE _ hSw); go_simp)
      try (with_reducible rfl)
    rotate_left
    try simp (maxSteps := 4000000) only [Act.put, List.setIfInBounds_toArray, List.set_cons_zero, List.set_cons_succ, List.getElem_toArray, List.getElem_cons_zero, List.getElem_cons_succ]
    refine wpAnyH_ready (rs := [17]) (by kernel_rfl) (by simp) ?_
    refine AllReadyH.cons rfl (fun K2 hK2 => ?_) AllReadyH.nil
    go_simp
    have HBC := Lib.hid hHeld.2.2.2.2.2.2.2.2.out
    with_reducible refine Calls.mono (trOne o _ d _ (HDC.out.keep HBC.out) HOK.out) ?_
    rintro e w5 ⟨b5, v5, rfl, hb5, hv5, hB5, _⟩
    have hr5 : BY b5 w5 v5 (oneB o d) := hv5
    have HR5 := Lib.hid hr5
    obtain ⟨A5, c5, rfl, _⟩ := hr5
    refine hK2.out _ _ ?_ (fun hHeld2 => ?_)
    · have hzX := Nat.lt_of_lt_of_le HXC.out hHeld.2.2.2.2.2.2.2.2.out.size
      exact ⟨(hB5.cell (p := ⟨X, 0, none⟩) hzX).trans hHeld.1, (hB5.cell (p := ⟨X, 1, none⟩) hzX).trans hHeld.2.1, (hB5.cell (p := ⟨X, 2, none⟩) hzX).trans hHeld.2.2.1, (hB5.cell (p := ⟨X, 3, none⟩) hzX).trans hHeld.2.2.2.1, (hB5.cell (p := ⟨X, 4, none⟩) hzX).trans hHeld.2.2.2.2.1, (hB5.cell (p := ⟨X, 5, none⟩) hzX).trans hHeld.2.2.2.2.2.1, (hB5.cell (p := ⟨X, 6, none⟩) hzX).trans hHeld.2.2.2.2.2.2.1, (hB5.cell (p := ⟨X, 7, none⟩) hzX).trans hHeld.2.2.2.2.2.2.2.1, Lib.hid (thn hHeld.2.2.2.2.2.2.2.2.out hB5)⟩
    have HBC5 := Lib.hid (thn hHeld.2.2.2.2.2.2.2.2.out hB5)
    clear hb5 hv5 hB5
    clear hK2 K2 hHeld
    have hHeld := hHeld2
    clear hHeld2
    try simp (maxSteps := 4000000) only [Act.put, List.setIfInBounds_toArray, List.set_cons_zero, List.set_cons_succ]
    have HBb := Lib.hid hHeld.2.2.2.2.2.2.2.2.out
    refine wpAnyH_strong (S' := fun w' => w'.cell? ⟨X, 0, none⟩ = some (.int .i64 o.k) ∧ w'.cell? ⟨X, 1, none⟩ = some (.int .i64 o.t) ∧ w'.cell? ⟨X, 2, none⟩ = some (.int .i64 o.a) ∧ w'.cell? ⟨X, 3, none⟩ = some (.int .i64 o.b) ∧ w'.cell? ⟨X, 4, none⟩ = some (.int .i64 o.v) ∧ w'.cell? ⟨X, 5, none⟩ = some (.int .i64 o.n) ∧ w'.cell? ⟨X, 6, none⟩ = some (.int .i64 o.m) ∧ w'.cell? ⟨X, 7, none⟩ = some (.slice A d.length c) ∧ Hid (Below w5.heap.size w5 w')) (fun w' h => ⟨h.1, h.2.1, h.2.2.1, h.2.2.2.1, h.2.2.2.2.1, h.2.2.2.2.2.1, h.2.2.2.2.2.2.1, h.2.2.2.2.2.2.2.1, Lib.hid (thn HBb.out h.2.2.2.2.2.2.2.2.out)⟩) _ _ _ _ ?_
    have hHeld3 : (fun w' => w'.cell? ⟨X, 0, none⟩ = some (.int .i64 o.k) ∧ w'.cell? ⟨X, 1, none⟩ = some (.int .i64 o.t) ∧ w'.cell? ⟨X, 2, none⟩ = some (.int .i64 o.a) ∧ w'.cell? ⟨X, 3, none⟩ = some (.int .i64 o.b) ∧ w'.cell? ⟨X, 4, none⟩ = some (.int .i64 o.v) ∧ w'.cell? ⟨X, 5, none⟩ = some (.int .i64 o.n) ∧ w'.cell? ⟨X, 6, none⟩ = some (.int .i64 o.m) ∧ w'.cell? ⟨X, 7, none⟩ = some (.slice A d.length c) ∧ Hid (Below w5.heap.size w5 w')) w5 := by
      have h := hHeld
      exact ⟨h.1, h.2.1, h.2.2.1, h.2.2.2.1, h.2.2.2.2.1, h.2.2.2.2.2.1, h.2.2.2.2.2.2.1, h.2.2.2.2.2.2.2.1, Lib.hid (Below.refl _ _)⟩
    clear hHeld
    have hHeld := hHeld3
    clear hHeld3
    have HTAKE := Lib.hid (fun w' (h : (fun w' => w'.cell? ⟨X, 0, none⟩ = some (.int .i64 o.k) ∧ w'.cell? ⟨X, 1, none⟩ = some (.int .i64 o.t) ∧ w'.cell? ⟨X, 2, none⟩ = some (.int .i64 o.a) ∧ w'.cell? ⟨X, 3, none⟩ = some (.int .i64 o.b) ∧ w'.cell? ⟨X, 4, none⟩ = some (.int .i64 o.v) ∧ w'.cell? ⟨X, 5, none⟩ = some (.int .i64 o.n) ∧ w'.cell? ⟨X, 6, none⟩ = some (.int .i64 o.m) ∧ w'.cell? ⟨X, 7, none⟩ = some (.slice A d.length c) ∧ Hid (Below w5.heap.size w5 w')) w') => conv_by b5 w' _ (oneB o d) (VZ.below HR5.out h.2.2.2.2.2.2.2.2.out) HOB.out)
    refine wpAnyH_take (i := 18) (v := ?_) rfl (by kernel_rfl) (by kernel_rfl) (by kernel_rfl) (fun _ _ _ h => h) (Or.inl ⟨by kernel_rfl, ?_⟩) (by assumption) ?_
    rotate_left
    · (intro w hSw; (try dsimp only at hSw); (try have hTk := Hid.out HTAKE _ hSw); go_simp)
      try (with_reducible rfl)
    rotate_left
    try simp (maxSteps := 4000000) only [Act.put, List.setIfInBounds_toArray, List.set_cons_zero, List.set_cons_succ, List.getElem_toArray, List.getElem_cons_zero, List.getElem_cons_succ]
    refine wpAnyH_ready (rs := [20]) (by kernel_rfl) (by simp) ?_
    refine AllReadyH.cons rfl (fun K2 hK2 => ?_) AllReadyH.nil
    go_simp
    have HBC := Lib.hid hHeld.2.2.2.2.2.2.2.2.out
    with_reducible refine Calls.mono (refOne o _ d _ ((HDC.out.keep HBC5.out).keep HBC.out) HOK.out) ?_
    rintro e w6 ⟨b6, v6, rfl, hb6, hv6, hB6, _⟩
    have hr6 : BY b6 w6 v6 (oneB o d) := hv6
    have hcv := conv_by b6 w6 v6 _ hr6 HOB.out
    obtain ⟨A6, c6, rfl, _⟩ := hr6
    refine hK2.out _ _ ?_ (fun hHeld2 => ?_)
    · have hzX := Nat.lt_of_lt_of_le HXC.out (Nat.le_trans HBC5.out.size hHeld.2.2.2.2.2.2.2.2.out.size)
      exact ⟨(hB6.cell (p := ⟨X, 0, none⟩) hzX).trans hHeld.1, (hB6.cell (p := ⟨X, 1, none⟩) hzX).trans hHeld.2.1, (hB6.cell (p := ⟨X, 2, none⟩) hzX).trans hHeld.2.2.1, (hB6.cell (p := ⟨X, 3, none⟩) hzX).trans hHeld.2.2.2.1, (hB6.cell (p := ⟨X, 4, none⟩) hzX).trans hHeld.2.2.2.2.1, (hB6.cell (p := ⟨X, 5, none⟩) hzX).trans hHeld.2.2.2.2.2.1, (hB6.cell (p := ⟨X, 6, none⟩) hzX).trans hHeld.2.2.2.2.2.2.1, (hB6.cell (p := ⟨X, 7, none⟩) hzX).trans hHeld.2.2.2.2.2.2.2.1, Lib.hid (thn hHeld.2.2.2.2.2.2.2.2.out hB6)⟩
    clear hb6 hv6 hB6
    clear hK2 K2 hHeld
    have hHeld := hHeld2
    clear hHeld2
    try simp (maxSteps := 4000000) only [Act.put, List.setIfInBounds_toArray, List.set_cons_zero, List.set_cons_succ]
    refine wpAnyH_ready (rs := [21]) (by kernel_rfl) (by simp) ?_
    refine AllReadyH.cons rfl (fun K2 hK2 => ?_) AllReadyH.nil
    go_simp
    refine hK2.out _ _ hHeld (fun hHeld2 => ?_)
    clear hK2 K2 hHeld
    have hHeld := hHeld2
    clear hHeld2
    try simp (maxSteps := 4000000) only [Act.put, List.setIfInBounds_toArray, List.set_cons_zero, List.set_cons_succ]
    refine wpAnyH_take (i := 22) (v := ?_) rfl (by kernel_rfl) (by kernel_rfl) (by kernel_rfl) (fun _ _ _ h => h) (Or.inl ⟨by kernel_rfl, ?_⟩) (by assumption) ?_
    rotate_left
    · (intro w hSw; (try dsimp only at hSw); (try have hTk := Hid.out HTAKE _ hSw); go_simp)
      try (with_reducible rfl)
    rotate_left
    try simp (maxSteps := 4000000) only [Act.put, List.setIfInBounds_toArray, List.set_cons_zero, List.set_cons_succ, List.getElem_toArray, List.getElem_cons_zero, List.getElem_cons_succ]
    refine wpAnyH_take (i := 23) (v := ?_) rfl (by kernel_rfl) (by kernel_rfl) (by kernel_rfl) (fun _ _ _ h => h) (Or.inl ⟨by kernel_rfl, ?_⟩) (by assumption) ?_
    rotate_left
    · (intro w hSw; (try dsimp only at hSw); (try have hTk := Hid.out HTAKE _ hSw); go_simp)
      try (with_reducible rfl)
    rotate_left
    try simp (maxSteps := 4000000) only [Act.put, List.setIfInBounds_toArray, List.set_cons_zero, List.set_cons_succ, List.getElem_toArray, List.getElem_cons_zero, List.getElem_cons_succ]
    refine wpAnyH_take (i := 24) (v := ?_) rfl (by kernel_rfl) (by kernel_rfl) (by kernel_rfl) (fun _ _ _ h => h) (Or.inl ⟨by kernel_rfl, ?_⟩) (by assumption) ?_
    rotate_left
    · (intro w hSw; (try dsimp only at hSw); (try have hTk := Hid.out HTAKE _ hSw); go_simp)
      try (with_reducible rfl)
    rotate_left
    try simp (maxSteps := 4000000) only [Act.put, List.setIfInBounds_toArray, List.set_cons_zero, List.set_cons_succ, List.getElem_toArray, List.getElem_cons_zero, List.getElem_cons_succ]
    refine wpAnyH_ready (rs := [25]) (by kernel_rfl) (by simp) ?_
    refine AllReadyH.cons rfl (fun K2 hK2 => ?_) AllReadyH.nil
    go_simp
    refine hK2.out _ _ ?_ (fun hHeld2 => ?_)
    · have hzX := Nat.lt_of_lt_of_le HXC.out (Nat.le_trans HBC5.out.size hHeld.2.2.2.2.2.2.2.2.out.size)
      exact ⟨((alc0 _ _).cell (p := ⟨X, 0, none⟩) hzX).trans hHeld.1, ((alc0 _ _).cell (p := ⟨X, 1, none⟩) hzX).trans hHeld.2.1, ((alc0 _ _).cell (p := ⟨X, 2, none⟩) hzX).trans hHeld.2.2.1, ((alc0 _ _).cell (p := ⟨X, 3, none⟩) hzX).trans hHeld.2.2.2.1, ((alc0 _ _).cell (p := ⟨X, 4, none⟩) hzX).trans hHeld.2.2.2.2.1, ((alc0 _ _).cell (p := ⟨X, 5, none⟩) hzX).trans hHeld.2.2.2.2.2.1, ((alc0 _ _).cell (p := ⟨X, 6, none⟩) hzX).trans hHeld.2.2.2.2.2.2.1, ((alc0 _ _).cell (p := ⟨X, 7, none⟩) hzX).trans hHeld.2.2.2.2.2.2.2.1, Lib.hid (thn hHeld.2.2.2.2.2.2.2.2.out (alc0 _ _))⟩
    clear hK2 K2 hHeld
    have hHeld := hHeld2
    clear hHeld2
    try simp (maxSteps := 4000000) only [Act.put, List.setIfInBounds_toArray, List.set_cons_zero, List.set_cons_succ]
    refine wpAnyH_ready (rs := [26]) (by kernel_rfl) (by simp) ?_
    refine AllReadyH.cons rfl (fun K2 hK2 => ?_) AllReadyH.nil
    go_simp
    have HBC := Lib.hid hHeld.2.2.2.2.2.2.2.2.out
    with_reducible refine Calls.mono (trBytes_long _ _ _ _ (by decide)) ?_
    rintro e w7 ⟨rfl, rfl⟩

    refine hK2.out _ _ ?_ (fun hHeld2 => ?_)
    · have hzX := Nat.lt_of_lt_of_le HXC.out (Nat.le_trans HBC5.out.size hHeld.2.2.2.2.2.2.2.2.out.size)
      exact ⟨((Below.refl _ _).cell (p := ⟨X, 0, none⟩) hzX).trans hHeld.1, ((Below.refl _ _).cell (p := ⟨X, 1, none⟩) hzX).trans hHeld.2.1, ((Below.refl _ _).cell (p := ⟨X, 2, none⟩) hzX).trans hHeld.2.2.1, ((Below.refl _ _).cell (p := ⟨X, 3, none⟩) hzX).trans hHeld.2.2.2.1, ((Below.refl _ _).cell (p := ⟨X, 4, none⟩) hzX).trans hHeld.2.2.2.2.1, ((Below.refl _ _).cell (p := ⟨X, 5, none⟩) hzX).trans hHeld.2.2.2.2.2.1, ((Below.refl _ _).cell (p := ⟨X, 6, none⟩) hzX).trans hHeld.2.2.2.2.2.2.1, ((Below.refl _ _).cell (p := ⟨X, 7, none⟩) hzX).trans hHeld.2.2.2.2.2.2.2.1, Lib.hid (thn hHeld.2.2.2.2.2.2.2.2.out (Below.refl _ _))⟩

    clear hK2 K2 hHeld
    have hHeld := hHeld2
    clear hHeld2
    try simp (maxSteps := 4000000) only [Act.put, List.setIfInBounds_toArray, List.set_cons_zero, List.set_cons_succ]
    refine wpAnyH_take (i := 27) (v := ?_) rfl (by kernel_rfl) (by kernel_rfl) (by kernel_rfl) (fun _ _ _ h => h) (Or.inl ⟨by kernel_rfl, ?_⟩) (by assumption) ?_
    rotate_left
    · (intro w hSw; (try dsimp only at hSw); (try have hTk := Hid.out HTAKE _ hSw); go_simp)
      try (with_reducible rfl)
    rotate_left
    try simp (maxSteps := 4000000) only [Act.put, List.setIfInBounds_toArray, List.set_cons_zero, List.set_cons_succ, List.getElem_toArray, List.getElem_cons_zero, List.getElem_cons_succ]
    refine wpAnyH_take (i := 28) (v := ?_) rfl (by kernel_rfl) (by kernel_rfl) (by kernel_rfl) (fun _ _ _ h => h) (Or.inl ⟨by kernel_rfl, ?_⟩) (by assumption) ?_
    rotate_left
    · (intro w hSw; (try dsimp only at hSw); (try have hTk := Hid.out HTAKE _ hSw); go_simp)
      try (with_reducible rfl)
    rotate_left
    try simp (maxSteps := 4000000) only [Act.put, List.setIfInBounds_toArray, List.set_cons_zero, List.set_cons_succ, List.getElem_toArray, List.getElem_cons_zero, List.getElem_cons_succ]
    refine wpAnyH_take (i := 29) (v := ?_) rfl (by kernel_rfl) (by kernel_rfl) (by kernel_rfl) (fun _ _ _ h => h) (Or.inl ⟨by kernel_rfl, ?_⟩) (by assumption) ?_
    rotate_left
    · (intro w hSw; (try dsimp only at hSw); (try have hTk := Hid.out HTAKE _ hSw); go_simp)
      try (with_reducible rfl)
    rotate_left
    try simp (maxSteps := 4000000) only [Act.put, List.setIfInBounds_toArray, List.set_cons_zero, List.set_cons_succ, List.getElem_toArray, List.getElem_cons_zero, List.getElem_cons_succ]
    refine wpAnyH_take (i := 30) (v := ?_) rfl (by kernel_rfl) (by kernel_rfl) (by kernel_rfl) (fun _ _ _ h => h) (Or.inl ⟨by kernel_rfl, ?_⟩) (by assumption) ?_
    rotate_left
    · (intro w hSw; (try dsimp only at hSw); (try have hTk := Hid.out HTAKE _ hSw); go_simp)
      try (with_reducible rfl)
    rotate_left
    try simp (maxSteps := 4000000) only [Act.put, List.setIfInBounds_toArray, List.set_cons_zero, List.set_cons_succ, List.getElem_toArray, List.getElem_cons_zero, List.getElem_cons_succ]
    refine wpAnyH_done (by kernel_rfl) ?_ _
    go_wp2
    go_ret
    have HBe := HBC5.out.trans (hHeld.2.2.2.2.2.2.2.2.out.mono HBC5.out.size)
    exact ⟨by first | rfl | simp, HW2.out.trans (HBe.mono HW2.out.size)⟩
  · skip
    simp only [List.length_nil] at HTAKE HR9 ⊢
    refine wp_region_held_drew (S := fun w' => w'.cell? ⟨X, 0, none⟩ = some (.int .i64 o.k) ∧ w'.cell? ⟨X, 1, none⟩ = some (.int .i64 o.t) ∧ w'.cell? ⟨X, 2, none⟩ = some (.int .i64 o.a) ∧ w'.cell? ⟨X, 3, none⟩ = some (.int .i64 o.b) ∧ w'.cell? ⟨X, 4, none⟩ = some (.int .i64 o.v) ∧ w'.cell? ⟨X, 5, none⟩ = some (.int .i64 o.n) ∧ w'.cell? ⟨X, 6, none⟩ = some (.int .i64 o.m) ∧ w'.cell? ⟨X, 7, none⟩ = some (.slice A d.length c) ∧ Hid (Below C.heap.size C w')) (by kernel_rfl) ?_ (fun hHeld => ?_)
    · have h := HS.out
      exact ⟨h.1, h.2.1, h.2.2.1, h.2.2.2.1, h.2.2.2.2.1, h.2.2.2.2.2.1, h.2.2.2.2.2.2.1, h.2.2.2.2.2.2.2.1, Lib.hid (Below.refl _ _).drew⟩
    clear HS
    refine wpAnyH_take (i := 0) (v := ?_) rfl (by kernel_rfl) (by kernel_rfl) (by kernel_rfl) (fun _ _ _ h => h) (Or.inl ⟨by kernel_rfl, ?_⟩) (by assumption) ?_
    rotate_left
    · (intro w hSw; (try dsimp only at hSw); (try have hTk := Hid.out HTAKE _ hSw); go_simp)
      try (with_reducible rfl)
    rotate_left
    try simp (maxSteps := 4000000) only [Act.put, List.setIfInBounds_toArray, List.set_cons_zero, List.set_cons_succ, List.getElem_toArray, List.getElem_cons_zero, List.getElem_cons_succ]
    refine wpAnyH_take (i := 1) (v := ?_) rfl (by kernel_rfl) (by kernel_rfl) (by kernel_rfl) (fun _ _ _ h => h) (Or.inl ⟨by kernel_rfl, ?_⟩) (by assumption) ?_
    rotate_left
    · (intro w hSw; (try dsimp only at hSw); (try have hTk := Hid.out HTAKE _ hSw); go_simp)
      try (with_reducible rfl)
    rotate_left
    try simp (maxSteps := 4000000) only [Act.put, List.setIfInBounds_toArray, List.set_cons_zero, List.set_cons_succ, List.getElem_toArray, List.getElem_cons_zero, List.getElem_cons_succ]
    refine wpAnyH_take (i := 2) (v := ?_) rfl (by kernel_rfl) (by kernel_rfl) (by kernel_rfl) (fun _ _ _ h => h) (Or.inl ⟨by kernel_rfl, ?_⟩) (by assumption) ?_
    rotate_left
    · (intro w hSw; (try dsimp only at hSw); (try have hTk := Hid.out HTAKE _ hSw); go_simp)
      try (with_reducible rfl)
    rotate_left
    try simp (maxSteps := 4000000) only [Act.put, List.setIfInBounds_toArray, List.set_cons_zero, List.set_cons_succ, List.getElem_toArray, List.getElem_cons_zero, List.getElem_cons_succ]
    refine wpAnyH_ready (rs := [3]) (by kernel_rfl) (by simp) ?_
    refine AllReadyH.cons rfl (fun K2 hK2 => ?_) AllReadyH.nil
    go_simp
    have HBC := Lib.hid hHeld.2.2.2.2.2.2.2.2.out
    with_reducible refine Calls.mono (refBytes _ l _ (HOC.out.keep HBC.out)) ?_
    rintro e w3 ⟨b3, v3, rfl, hb3, hv3, hB3, _⟩
    have hr3 : RD w3 v3 ([] : List Nat) := BY.rd (by have := hv3; rw [HM.out, HXX.out] at this; exact this) HXL.out
    have hcv := conv_bs w3 v3 ([] : List Nat) hr3 HXB.out
    obtain ⟨A3, c3, rfl, _⟩ := hr3
    simp only [List.length_nil] at hcv
    refine hK2.out _ _ ?_ (fun hHeld2 => ?_)
    · have hzX := Nat.lt_of_lt_of_le HXC.out hHeld.2.2.2.2.2.2.2.2.out.size
      exact ⟨(hB3.cell (p := ⟨X, 0, none⟩) hzX).trans hHeld.1, (hB3.cell (p := ⟨X, 1, none⟩) hzX).trans hHeld.2.1, (hB3.cell (p := ⟨X, 2, none⟩) hzX).trans hHeld.2.2.1, (hB3.cell (p := ⟨X, 3, none⟩) hzX).trans hHeld.2.2.2.1, (hB3.cell (p := ⟨X, 4, none⟩) hzX).trans hHeld.2.2.2.2.1, (hB3.cell (p := ⟨X, 5, none⟩) hzX).trans hHeld.2.2.2.2.2.1, (hB3.cell (p := ⟨X, 6, none⟩) hzX).trans hHeld.2.2.2.2.2.2.1, (hB3.cell (p := ⟨X, 7, none⟩) hzX).trans hHeld.2.2.2.2.2.2.2.1, Lib.hid (thn hHeld.2.2.2.2.2.2.2.2.out hB3)⟩
    clear hb3 hv3 hB3
    clear hK2 K2 hHeld
    have hHeld := hHeld2
    clear hHeld2
    try simp (maxSteps := 4000000) only [Act.put, List.setIfInBounds_toArray, List.set_cons_zero, List.set_cons_succ]
    refine wpAnyH_ready (rs := [4]) (by kernel_rfl) (by simp) ?_
    refine AllReadyH.cons rfl (fun K2 hK2 => ?_) AllReadyH.nil
    go_simp
    refine hK2.out _ _ hHeld (fun hHeld2 => ?_)
    clear hK2 K2 hHeld
    have hHeld := hHeld2
    clear hHeld2
    try simp (maxSteps := 4000000) only [Act.put, List.setIfInBounds_toArray, List.set_cons_zero, List.set_cons_succ]
    refine wpAnyH_take (i := 5) (v := ?_) rfl (by kernel_rfl) (by kernel_rfl) (by kernel_rfl) (fun _ _ _ h => h) (Or.inl ⟨by kernel_rfl, ?_⟩) (by assumption) ?_
    rotate_left
    · (intro w hSw; (try dsimp only at hSw); (try have hTk := Hid.out HTAKE _ hSw); go_simp)
      try (with_reducible rfl)
    rotate_left
    try simp (maxSteps := 4000000) only [Act.put, List.setIfInBounds_toArray, List.set_cons_zero, List.set_cons_succ, List.getElem_toArray, List.getElem_cons_zero, List.getElem_cons_succ]
    refine wpAnyH_take (i := 6) (v := ?_) rfl (by kernel_rfl) (by kernel_rfl) (by kernel_rfl) (fun _ _ _ h => h) (Or.inl ⟨by kernel_rfl, ?_⟩) (by assumption) ?_
    rotate_left
    · (intro w hSw; (try dsimp only at hSw); (try have hTk := Hid.out HTAKE _ hSw); go_simp)
      try (with_reducible rfl)
    rotate_left
    try simp (maxSteps := 4000000) only [Act.put, List.setIfInBounds_toArray, List.set_cons_zero, List.set_cons_succ, List.getElem_toArray, List.getElem_cons_zero, List.getElem_cons_succ]
    refine wpAnyH_take (i := 7) (v := ?_) rfl (by kernel_rfl) (by kernel_rfl) (by kernel_rfl) (fun _ _ _ h => h) (Or.inl ⟨by kernel_rfl, ?_⟩) (by assumption) ?_
    rotate_left
    · (intro w hSw; (try dsimp only at hSw); (try have hTk := Hid.out HTAKE _ hSw); go_simp)
      try (with_reducible rfl)
    rotate_left
    try simp (maxSteps := 4000000) only [Act.put, List.setIfInBounds_toArray, List.set_cons_zero, List.set_cons_succ, List.getElem_toArray, List.getElem_cons_zero, List.getElem_cons_succ]
    refine wpAnyH_take (i := 8) (v := ?_) rfl (by kernel_rfl) (by kernel_rfl) (by kernel_rfl) (fun _ _ _ h => h) (Or.inl ⟨by kernel_rfl, ?_⟩) (by assumption) ?_
    rotate_left
    · (intro w hSw; (try dsimp only at hSw); (try have hTk := Hid.out HTAKE _ hSw); go_simp)
      try (with_reducible rfl)
    rotate_left
    try simp (maxSteps := 4000000) only [Act.put, List.setIfInBounds_toArray, List.set_cons_zero, List.set_cons_succ, List.getElem_toArray, List.getElem_cons_zero, List.getElem_cons_succ]
    refine wpAnyH_take (i := 9) (v := ?_) rfl (by kernel_rfl) (by kernel_rfl) (by kernel_rfl) (fun _ _ _ h => h) (Or.inl ⟨by kernel_rfl, ?_⟩) (by assumption) ?_
    rotate_left
    · (intro w hSw; (try dsimp only at hSw); (try have hTk := Hid.out HTAKE _ hSw); go_simp)
      try (with_reducible rfl)
    rotate_left
    try simp (maxSteps := 4000000) only [Act.put, List.setIfInBounds_toArray, List.set_cons_zero, List.set_cons_succ, List.getElem_toArray, List.getElem_cons_zero, List.getElem_cons_succ]
    refine wpAnyH_take (i := 10) (v := ?_) rfl (by kernel_rfl) (by kernel_rfl) (by kernel_rfl) (fun _ _ _ h => h) (Or.inl ⟨by kernel_rfl, ?_⟩) (by assumption) ?_
    rotate_left
    · (intro w hSw; (try dsimp only at hSw); (try have hTk := Hid.out HTAKE _ hSw); go_simp)
      try (with_reducible rfl)
    rotate_left
    try simp (maxSteps := 4000000) only [Act.put, List.setIfInBounds_toArray, List.set_cons_zero, List.set_cons_succ, List.getElem_toArray, List.getElem_cons_zero, List.getElem_cons_succ]
    refine wpAnyH_ready (rs := [11]) (by kernel_rfl) (by simp) ?_
    refine AllReadyH.cons rfl (fun K2 hK2 => ?_) AllReadyH.nil
    go_simp
    have HBC := Lib.hid hHeld.2.2.2.2.2.2.2.2.out
    with_reducible refine Calls.mono (refMay _ l _ (HOC.out.keep HBC.out)) ?_
    rintro e w4 ⟨rfl, rfl⟩
    rw [HM.out]
    refine hK2.out _ _ ?_ (fun hHeld2 => ?_)
    · have hzX := Nat.lt_of_lt_of_le HXC.out hHeld.2.2.2.2.2.2.2.2.out.size
      exact ⟨((Below.refl _ _).cell (p := ⟨X, 0, none⟩) hzX).trans hHeld.1, ((Below.refl _ _).cell (p := ⟨X, 1, none⟩) hzX).trans hHeld.2.1, ((Below.refl _ _).cell (p := ⟨X, 2, none⟩) hzX).trans hHeld.2.2.1, ((Below.refl _ _).cell (p := ⟨X, 3, none⟩) hzX).trans hHeld.2.2.2.1, ((Below.refl _ _).cell (p := ⟨X, 4, none⟩) hzX).trans hHeld.2.2.2.2.1, ((Below.refl _ _).cell (p := ⟨X, 5, none⟩) hzX).trans hHeld.2.2.2.2.2.1, ((Below.refl _ _).cell (p := ⟨X, 6, none⟩) hzX).trans hHeld.2.2.2.2.2.2.1, ((Below.refl _ _).cell (p := ⟨X, 7, none⟩) hzX).trans hHeld.2.2.2.2.2.2.2.1, Lib.hid (thn hHeld.2.2.2.2.2.2.2.2.out (Below.refl _ _))⟩

    clear hK2 K2 hHeld
    have hHeld := hHeld2
    clear hHeld2
    try simp (maxSteps := 4000000) only [Act.put, List.setIfInBounds_toArray, List.set_cons_zero, List.set_cons_succ]
    refine wpAnyH_take (i := 12) (v := ?_) rfl (by kernel_rfl) (by kernel_rfl) (by kernel_rfl) (fun _ _ _ h => h) (Or.inl ⟨by kernel_rfl, ?_⟩) (by assumption) ?_
    rotate_left
    · (intro w hSw; (try dsimp only at hSw); (try have hTk := Hid.out HTAKE _ hSw); go_simp)
      try (with_reducible rfl)
    rotate_left
    try simp (maxSteps := 4000000) only [Act.put, List.setIfInBounds_toArray, List.set_cons_zero, List.set_cons_succ, List.getElem_toArray, List.getElem_cons_zero, List.getElem_cons_succ]
    refine wpAnyH_take (i := 13) (v := ?_) rfl (by kernel_rfl) (by kernel_rfl) (by kernel_rfl) (fun _ _ _ h => h) (Or.inl ⟨by kernel_rfl, ?_⟩) (by assumption) ?_
    rotate_left
    · (intro w hSw; (try dsimp only at hSw); (try have hTk := Hid.out HTAKE _ hSw); go_simp)
      try (with_reducible rfl)
    rotate_left
    try simp (maxSteps := 4000000) only [Act.put, List.setIfInBounds_toArray, List.set_cons_zero, List.set_cons_succ, List.getElem_toArray, List.getElem_cons_zero, List.getElem_cons_succ]
    refine wpAnyH_take (i := 14) (v := ?_) rfl (by kernel_rfl) (by kernel_rfl) (by kernel_rfl) (fun _ _ _ h => h) (Or.inl ⟨by kernel_rfl, ?_⟩) (by assumption) ?_
    rotate_left
    · (intro w hSw; (try dsimp only at hSw); (try have hTk := Hid.out HTAKE _ hSw); go_simp)
      try (with_reducible rfl)
    rotate_left
    try simp (maxSteps := 4000000) only [Act.put, List.setIfInBounds_toArray, List.set_cons_zero, List.set_cons_succ, List.getElem_toArray, List.getElem_cons_zero, List.getElem_cons_succ]
    refine wpAnyH_take (i := 15) (v := ?_) rfl (by kernel_rfl) (by kernel_rfl) (by kernel_rfl) (fun _ _ _ h => h) (Or.inl ⟨by kernel_rfl, ?_⟩) (by assumption) ?_
    rotate_left
    · (intro w hSw; (try dsimp only at hSw); (try have hTk := Hid.out HTAKE _ hSw); go_simp)
      try (with_reducible rfl)
    rotate_left
    try simp (maxSteps := 4000000) only [Act.put, List.setIfInBounds_toArray, List.set_cons_zero, List.set_cons_succ, List.getElem_toArray, List.getElem_cons_zero, List.getElem_cons_succ]
    refine wpAnyH_take (i := 16) (v := ?_) rfl (by kernel_rfl) (by kernel_rfl) (by kernel_rfl) (fun _ _ _ h => h) (Or.inl ⟨by kernel_rfl, ?_⟩) (by assumption) ?_
    rotate_left
    · (intro w hSw; (try dsimp only at hSw); (try have hTk := Hid.out HTAKE _ hSw); go_simp)
      try (with_reducible rfl)
    rotate_left
    try simp (maxSteps := 4000000) only [Act.put, List.setIfInBounds_toArray, List.set_cons_zero, List.set_cons_succ, List.getElem_toArray, List.getElem_cons_zero, List.getElem_cons_succ]
    refine wpAnyH_take (i := 19) (v := ?_) rfl (by kernel_rfl) (by kernel_rfl) (by kernel_rfl) (fun _ _ _ h => h) (Or.inl ⟨by kernel_rfl, ?_⟩) (by assumption) ?_
    rotate_left
    · (intro w hSw; (try dsimp only at hSw); (try have hTk := Hid.out HTAKE _ hSw); go_simp)
      try (with_reducible rfl)
    rotate_left
    try simp (maxSteps := 4000000) only [Act.put, List.setIfInBounds_toArray, List.set_cons_zero, List.set_cons_succ, List.getElem_toArray, List.getElem_cons_zero, List.getElem_cons_succ]
    refine wpAnyH_ready (rs := [17]) (by kernel_rfl) (by simp) ?_
    refine AllReadyH.cons rfl (fun K2 hK2 => ?_) AllReadyH.nil
    go_simp
    have HBC := Lib.hid hHeld.2.2.2.2.2.2.2.2.out
    with_reducible refine Calls.mono (trOne o _ d _ (HDC.out.keep HBC.out) HOK.out) ?_
    rintro e w5 ⟨b5, v5, rfl, hb5, hv5, hB5, _⟩
    have hr5 : BY b5 w5 v5 (oneB o d) := hv5
    have HR5 := Lib.hid hr5
    obtain ⟨A5, c5, rfl, _⟩ := hr5
    refine hK2.out _ _ ?_ (fun hHeld2 => ?_)
    · have hzX := Nat.lt_of_lt_of_le HXC.out hHeld.2.2.2.2.2.2.2.2.out.size
      exact ⟨(hB5.cell (p := ⟨X, 0, none⟩) hzX).trans hHeld.1, (hB5.cell (p := ⟨X, 1, none⟩) hzX).trans hHeld.2.1, (hB5.cell (p := ⟨X, 2, none⟩) hzX).trans hHeld.2.2.1, (hB5.cell (p := ⟨X, 3, none⟩) hzX).trans hHeld.2.2.2.1, (hB5.cell (p := ⟨X, 4, none⟩) hzX).trans hHeld.2.2.2.2.1, (hB5.cell (p := ⟨X, 5, none⟩) hzX).trans hHeld.2.2.2.2.2.1, (hB5.cell (p := ⟨X, 6, none⟩) hzX).trans hHeld.2.2.2.2.2.2.1, (hB5.cell (p := ⟨X, 7, none⟩) hzX).trans hHeld.2.2.2.2.2.2.2.1, Lib.hid (thn hHeld.2.2.2.2.2.2.2.2.out hB5)⟩
    have HBC5 := Lib.hid (thn hHeld.2.2.2.2.2.2.2.2.out hB5)
    clear hb5 hv5 hB5
    clear hK2 K2 hHeld
    have hHeld := hHeld2
    clear hHeld2
    try simp (maxSteps := 4000000) only [Act.put, List.setIfInBounds_toArray, List.set_cons_zero, List.set_cons_succ]
    have HBb := Lib.hid hHeld.2.2.2.2.2.2.2.2.out
    refine wpAnyH_strong (S' := fun w' => w'.cell? ⟨X, 0, none⟩ = some (.int .i64 o.k) ∧ w'.cell? ⟨X, 1, none⟩ = some (.int .i64 o.t) ∧ w'.cell? ⟨X, 2, none⟩ = some (.int .i64 o.a) ∧ w'.cell? ⟨X, 3, none⟩ = some (.int .i64 o.b) ∧ w'.cell? ⟨X, 4, none⟩ = some (.int .i64 o.v) ∧ w'.cell? ⟨X, 5, none⟩ = some (.int .i64 o.n) ∧ w'.cell? ⟨X, 6, none⟩ = some (.int .i64 o.m) ∧ w'.cell? ⟨X, 7, none⟩ = some (.slice A d.length c) ∧ Hid (Below w5.heap.size w5 w')) (fun w' h => ⟨h.1, h.2.1, h.2.2.1, h.2.2.2.1, h.2.2.2.2.1, h.2.2.2.2.2.1, h.2.2.2.2.2.2.1, h.2.2.2.2.2.2.2.1, Lib.hid (thn HBb.out h.2.2.2.2.2.2.2.2.out)⟩) _ _ _ _ ?_
    have hHeld3 : (fun w' => w'.cell? ⟨X, 0, none⟩ = some (.int .i64 o.k) ∧ w'.cell? ⟨X, 1, none⟩ = some (.int .i64 o.t) ∧ w'.cell? ⟨X, 2, none⟩ = some (.int .i64 o.a) ∧ w'.cell? ⟨X, 3, none⟩ = some (.int .i64 o.b) ∧ w'.cell? ⟨X, 4, none⟩ = some (.int .i64 o.v) ∧ w'.cell? ⟨X, 5, none⟩ = some (.int .i64 o.n) ∧ w'.cell? ⟨X, 6, none⟩ = some (.int .i64 o.m) ∧ w'.cell? ⟨X, 7, none⟩ = some (.slice A d.length c) ∧ Hid (Below w5.heap.size w5 w')) w5 := by
      have h := hHeld
      exact ⟨h.1, h.2.1, h.2.2.1, h.2.2.2.1, h.2.2.2.2.1, h.2.2.2.2.2.1, h.2.2.2.2.2.2.1, h.2.2.2.2.2.2.2.1, Lib.hid (Below.refl _ _)⟩
    clear hHeld
    have hHeld := hHeld3
    clear hHeld3
    have HTAKE := Lib.hid (fun w' (h : (fun w' => w'.cell? ⟨X, 0, none⟩ = some (.int .i64 o.k) ∧ w'.cell? ⟨X, 1, none⟩ = some (.int .i64 o.t) ∧ w'.cell? ⟨X, 2, none⟩ = some (.int .i64 o.a) ∧ w'.cell? ⟨X, 3, none⟩ = some (.int .i64 o.b) ∧ w'.cell? ⟨X, 4, none⟩ = some (.int .i64 o.v) ∧ w'.cell? ⟨X, 5, none⟩ = some (.int .i64 o.n) ∧ w'.cell? ⟨X, 6, none⟩ = some (.int .i64 o.m) ∧ w'.cell? ⟨X, 7, none⟩ = some (.slice A d.length c) ∧ Hid (Below w5.heap.size w5 w')) w') => conv_by b5 w' _ (oneB o d) (VZ.below HR5.out h.2.2.2.2.2.2.2.2.out) HOB.out)
    refine wpAnyH_take (i := 18) (v := ?_) rfl (by kernel_rfl) (by kernel_rfl) (by kernel_rfl) (fun _ _ _ h => h) (Or.inl ⟨by kernel_rfl, ?_⟩) (by assumption) ?_
    rotate_left
    · (intro w hSw; (try dsimp only at hSw); (try have hTk := Hid.out HTAKE _ hSw); go_simp)
      try (with_reducible rfl)
    rotate_left
    try simp (maxSteps := 4000000) only [Act.put, List.setIfInBounds_toArray, List.set_cons_zero, List.set_cons_succ, List.getElem_toArray, List.getElem_cons_zero, List.getElem_cons_succ]
    refine wpAnyH_ready (rs := [20]) (by kernel_rfl) (by simp) ?_
    refine AllReadyH.cons rfl (fun K2 hK2 => ?_) AllReadyH.nil
    go_simp
    have HBC := Lib.hid hHeld.2.2.2.2.2.2.2.2.out
    with_reducible refine Calls.mono (refOne o _ d _ ((HDC.out.keep HBC5.out).keep HBC.out) HOK.out) ?_
    rintro e w6 ⟨b6, v6, rfl, hb6, hv6, hB6, _⟩
    have hr6 : BY b6 w6 v6 (oneB o d) := hv6
    have hcv := conv_by b6 w6 v6 _ hr6 HOB.out
    obtain ⟨A6, c6, rfl, _⟩ := hr6
    refine hK2.out _ _ ?_ (fun hHeld2 => ?_)
    · have hzX := Nat.lt_of_lt_of_le HXC.out (Nat.le_trans HBC5.out.size hHeld.2.2.2.2.2.2.2.2.out.size)
      exact ⟨(hB6.cell (p := ⟨X, 0, none⟩) hzX).trans hHeld.1, (hB6.cell (p := ⟨X, 1, none⟩) hzX).trans hHeld.2.1, (hB6.cell (p := ⟨X, 2, none⟩) hzX).trans hHeld.2.2.1, (hB6.cell (p := ⟨X, 3, none⟩) hzX).trans hHeld.2.2.2.1, (hB6.cell (p := ⟨X, 4, none⟩) hzX).trans hHeld.2.2.2.2.1, (hB6.cell (p := ⟨X, 5, none⟩) hzX).trans hHeld.2.2.2.2.2.1, (hB6.cell (p := ⟨X, 6, none⟩) hzX).trans hHeld.2.2.2.2.2.2.1, (hB6.cell (p := ⟨X, 7, none⟩) hzX).trans hHeld.2.2.2.2.2.2.2.1, Lib.hid (thn hHeld.2.2.2.2.2.2.2.2.out hB6)⟩
    clear hb6 hv6 hB6
    clear hK2 K2 hHeld
    have hHeld := hHeld2
    clear hHeld2
    try simp (maxSteps := 4000000) only [Act.put, List.setIfInBounds_toArray, List.set_cons_zero, List.set_cons_succ]
    refine wpAnyH_ready (rs := [21]) (by kernel_rfl) (by simp) ?_
    refine AllReadyH.cons rfl (fun K2 hK2 => ?_) AllReadyH.nil
    go_simp
    refine hK2.out _ _ hHeld (fun hHeld2 => ?_)
    clear hK2 K2 hHeld
    have hHeld := hHeld2
    clear hHeld2
    try simp (maxSteps := 4000000) only [Act.put, List.setIfInBounds_toArray, List.set_cons_zero, List.set_cons_succ]
    refine wpAnyH_take (i := 22) (v := ?_) rfl (by kernel_rfl) (by kernel_rfl) (by kernel_rfl) (fun _ _ _ h => h) (Or.inl ⟨by kernel_rfl, ?_⟩) (by assumption) ?_
    rotate_left
    · (intro w hSw; (try dsimp only at hSw); (try have hTk := Hid.out HTAKE _ hSw); go_simp)
      try (with_reducible rfl)
    rotate_left
    try simp (maxSteps := 4000000) only [Act.put, List.setIfInBounds_toArray, List.set_cons_zero, List.set_cons_succ, List.getElem_toArray, List.getElem_cons_zero, List.getElem_cons_succ]
    refine wpAnyH_take (i := 23) (v := ?_) rfl (by kernel_rfl) (by kernel_rfl) (by kernel_rfl) (fun _ _ _ h => h) (Or.inl ⟨by kernel_rfl, ?_⟩) (by assumption) ?_
    rotate_left
    · (intro w hSw; (try dsimp only at hSw); (try have hTk := Hid.out HTAKE _ hSw); go_simp)
      try (with_reducible rfl)
    rotate_left
    try simp (maxSteps := 4000000) only [Act.put, List.setIfInBounds_toArray, List.set_cons_zero, List.set_cons_succ, List.getElem_toArray, List.getElem_cons_zero, List.getElem_cons_succ]
    refine wpAnyH_take (i := 24) (v := ?_) rfl (by kernel_rfl) (by kernel_rfl) (by kernel_rfl) (fun _ _ _ h => h) (Or.inl ⟨by kernel_rfl, ?_⟩) (by assumption) ?_
    rotate_left
    · (intro w hSw; (try dsimp only at hSw); (try have hTk := Hid.out HTAKE _ hSw); go_simp)
      try (with_reducible rfl)
    rotate_left
    try simp (maxSteps := 4000000) only [Act.put, List.setIfInBounds_toArray, List.set_cons_zero, List.set_cons_succ, List.getElem_toArray, List.getElem_cons_zero, List.getElem_cons_succ]
    refine wpAnyH_ready (rs := [25]) (by kernel_rfl) (by simp) ?_
    refine AllReadyH.cons rfl (fun K2 hK2 => ?_) AllReadyH.nil
    go_simp
    refine hK2.out _ _ ?_ (fun hHeld2 => ?_)
    · have hzX := Nat.lt_of_lt_of_le HXC.out (Nat.le_trans HBC5.out.size hHeld.2.2.2.2.2.2.2.2.out.size)
      exact ⟨((alc0 _ _).cell (p := ⟨X, 0, none⟩) hzX).trans hHeld.1, ((alc0 _ _).cell (p := ⟨X, 1, none⟩) hzX).trans hHeld.2.1, ((alc0 _ _).cell (p := ⟨X, 2, none⟩) hzX).trans hHeld.2.2.1, ((alc0 _ _).cell (p := ⟨X, 3, none⟩) hzX).trans hHeld.2.2.2.1, ((alc0 _ _).cell (p := ⟨X, 4, none⟩) hzX).trans hHeld.2.2.2.2.1, ((alc0 _ _).cell (p := ⟨X, 5, none⟩) hzX).trans hHeld.2.2.2.2.2.1, ((alc0 _ _).cell (p := ⟨X, 6, none⟩) hzX).trans hHeld.2.2.2.2.2.2.1, ((alc0 _ _).cell (p := ⟨X, 7, none⟩) hzX).trans hHeld.2.2.2.2.2.2.2.1, Lib.hid (thn hHeld.2.2.2.2.2.2.2.2.out (alc0 _ _))⟩
    clear hK2 K2 hHeld
    have hHeld := hHeld2
    clear hHeld2
    try simp (maxSteps := 4000000) only [Act.put, List.setIfInBounds_toArray, List.set_cons_zero, List.set_cons_succ]
    refine wpAnyH_ready (rs := [26]) (by kernel_rfl) (by simp) ?_
    refine AllReadyH.cons rfl (fun K2 hK2 => ?_) AllReadyH.nil
    go_simp
    have HBC := Lib.hid hHeld.2.2.2.2.2.2.2.2.out
    with_reducible refine Calls.mono (trBytes_long _ _ _ _ (by decide)) ?_
    rintro e w7 ⟨rfl, rfl⟩

    refine hK2.out _ _ ?_ (fun hHeld2 => ?_)
    · have hzX := Nat.lt_of_lt_of_le HXC.out (Nat.le_trans HBC5.out.size hHeld.2.2.2.2.2.2.2.2.out.size)
      exact ⟨((Below.refl _ _).cell (p := ⟨X, 0, none⟩) hzX).trans hHeld.1, ((Below.refl _ _).cell (p := ⟨X, 1, none⟩) hzX).trans hHeld.2.1, ((Below.refl _ _).cell (p := ⟨X, 2, none⟩) hzX).trans hHeld.2.2.1, ((Below.refl _ _).cell (p := ⟨X, 3, none⟩) hzX).trans hHeld.2.2.2.1, ((Below.refl _ _).cell (p := ⟨X, 4, none⟩) hzX).trans hHeld.2.2.2.2.1, ((Below.refl _ _).cell (p := ⟨X, 5, none⟩) hzX).trans hHeld.2.2.2.2.2.1, ((Below.refl _ _).cell (p := ⟨X, 6, none⟩) hzX).trans hHeld.2.2.2.2.2.2.1, ((Below.refl _ _).cell (p := ⟨X, 7, none⟩) hzX).trans hHeld.2.2.2.2.2.2.2.1, Lib.hid (thn hHeld.2.2.2.2.2.2.2.2.out (Below.refl _ _))⟩

    clear hK2 K2 hHeld
    have hHeld := hHeld2
    clear hHeld2
    try simp (maxSteps := 4000000) only [Act.put, List.setIfInBounds_toArray, List.set_cons_zero, List.set_cons_succ]
    refine wpAnyH_take (i := 27) (v := ?_) rfl (by kernel_rfl) (by kernel_rfl) (by kernel_rfl) (fun _ _ _ h => h) (Or.inl ⟨by kernel_rfl, ?_⟩) (by assumption) ?_
    rotate_left
    · (intro w hSw; (try dsimp only at hSw); (try have hTk := Hid.out HTAKE _ hSw); go_simp)
      try (with_reducible rfl)
    rotate_left
    try simp (maxSteps := 4000000) only [Act.put, List.setIfInBounds_toArray, List.set_cons_zero, List.set_cons_succ, List.getElem_toArray, List.getElem_cons_zero, List.getElem_cons_succ]
    refine wpAnyH_take (i := 28) (v := ?_) rfl (by kernel_rfl) (by kernel_rfl) (by kernel_rfl) (fun _ _ _ h => h) (Or.inl ⟨by kernel_rfl, ?_⟩) (by assumption) ?_
    rotate_left
    · (intro w hSw; (try dsimp only at hSw); (try have hTk := Hid.out HTAKE _ hSw); go_simp)
      try (with_reducible rfl)
    rotate_left
    try simp (maxSteps := 4000000) only [Act.put, List.setIfInBounds_toArray, List.set_cons_zero, List.set_cons_succ, List.getElem_toArray, List.getElem_cons_zero, List.getElem_cons_succ]
    refine wpAnyH_take (i := 29) (v := ?_) rfl (by kernel_rfl) (by kernel_rfl) (by kernel_rfl) (fun _ _ _ h => h) (Or.inl ⟨by kernel_rfl, ?_⟩) (by assumption) ?_
    rotate_left
    · (intro w hSw; (try dsimp only at hSw); (try have hTk := Hid.out HTAKE _ hSw); go_simp)
      try (with_reducible rfl)
    rotate_left
    try simp (maxSteps := 4000000) only [Act.put, List.setIfInBounds_toArray, List.set_cons_zero, List.set_cons_succ, List.getElem_toArray, List.getElem_cons_zero, List.getElem_cons_succ]
    refine wpAnyH_take (i := 30) (v := ?_) rfl (by kernel_rfl) (by kernel_rfl) (by kernel_rfl) (fun _ _ _ h => h) (Or.inl ⟨by kernel_rfl, ?_⟩) (by assumption) ?_
    rotate_left
    · (intro w hSw; (try dsimp only at hSw); (try have hTk := Hid.out HTAKE _ hSw); go_simp)
      try (with_reducible rfl)
    rotate_left
    try simp (maxSteps := 4000000) only [Act.put, List.setIfInBounds_toArray, List.set_cons_zero, List.set_cons_succ, List.getElem_toArray, List.getElem_cons_zero, List.getElem_cons_succ]
    refine wpAnyH_done (by kernel_rfl) ?_ _
    go_wp2
    go_ret
    have HBe := HBC5.out.trans (hHeld.2.2.2.2.2.2.2.2.out.mono HBC5.out.size)
    exact ⟨by first | rfl | simp, HW2.out.trans (HBe.mono HW2.out.size)⟩
end Go.Proofs.Ytahggokeelgjdaa
