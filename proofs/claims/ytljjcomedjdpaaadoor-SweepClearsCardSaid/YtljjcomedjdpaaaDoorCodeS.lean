/- CodeR, CodeS in one text: a claim holds at most 60 files. -/
import Derived.Test.YtljjcomedjdpaaaDoorCode
import Derived.Laws.StructEq
import Derived.Laws.Cover3
import Derived.Deep.QuietTactic
import Derived.BigQuiet
import Derived.Deep.RegionHeld3
import Derived.Laws.BytesArg
import Derived.Laws.AppendOwn
import Derived.Deep.DeepCutAuto
import Derived.Deep.CutBlock
namespace Go.Proofs.YtljjcomedjdpaaaDoor
set_option maxRecDepth 100000
open Go.RowKit
set_option linter.unusedVariables false
set_option linter.unusedSimpArgs false

theorem cap_store {z : Nat} {W : World} {b l c p t : Int} {v : Bool} (h : CapAt z W b l c p t v) (b' l' c' p' t' : Int) (v' : Bool) :
    ∃ W', (((((W.setCell ⟨z, 0, none⟩ (.int .i64 b')).setCell ⟨z, 1, none⟩ (.int .i64 l')).setCell ⟨z, 2, none⟩ (.int .i64 c')).setCell ⟨z, 3, none⟩ (.int .i64 p')).setCell ⟨z, 4, none⟩ (.int .i64 t')).setCell ⟨z, 5, none⟩ (.bool v') = W' ∧ CapAt z W' b' l' c' p' t' v' ∧ Below z W W' ∧ W'.heap.size = W.heap.size ∧ ∀ x o, x ≠ z → W'.cell? ⟨x, o, none⟩ = W.cell? ⟨x, o, none⟩ := by
  have hb : Below z W ((((((W.setCell ⟨z, 0, none⟩ (.int .i64 b')).setCell ⟨z, 1, none⟩ (.int .i64 l')).setCell ⟨z, 2, none⟩ (.int .i64 c')).setCell ⟨z, 3, none⟩ (.int .i64 p')).setCell ⟨z, 4, none⟩ (.int .i64 t')).setCell ⟨z, 5, none⟩ (.bool v')) :=
    ((((((Below.refl _ _).setCell (Nat.le_refl z) _).setCell (Nat.le_refl z) _).setCell (Nat.le_refl z) _).setCell (Nat.le_refl z) _).setCell (Nat.le_refl z) _).setCell (Nat.le_refl z) _
  refine ⟨_, rfl, (((((h.s0 b').s1 l').s2 c').s3 p').s4 t').s5 v', hb, by simp only [sizeSet], fun x o hx => ?_⟩
  have hn : ∀ k, (⟨z, k, none⟩ : Addr) ≠ ⟨x, o, none⟩ := fun k e => hx (by injection e with e; exact e.symm)
  simp only [World.cell?_setCell_other _ _ _ _ (hn _)]
theorem thnw {x b c : World} (h : Below x.heap.size x b) (k : Below b.heap.size b c) : Below x.heap.size x c := h.trans (k.mono h.size)
theorem eq4 (a b c d : Int) (w : World) : (Op.equalIn 10000 83 (.agg #[.int .u8 a, .int .u8 b, .int .u8 c, .int .u8 d]) (.agg #[.int .u8 0, .int .u8 0, .int .u8 0, .int .u8 0])).run Tryd.prog w = .ok (a == 0 && b == 0 && c == 0 && d == 0) w := by
  have u3 := Tryd.underlying5
  have a3 := Tryd.isAgg5
  have z3 := Tryd.sizeOf5
  rw [show (10000 : Nat) = 9999 + 1 from rfl, Op.equalIn]
  simp only [Sem.run_bind, run_underlying Tryd.underlying83, Result.andThen_ok]
  simp only [Std.Legacy.Range.forIn_eq_forIn_range', Std.Legacy.Range.size, Nat.sub_zero, Nat.add_sub_cancel, Nat.div_one, List.range'_succ, List.range'_zero, List.forIn_cons, List.forIn_nil]
  go_simp
  by_cases h1 : a = 0 <;> by_cases h2 : b = 0 <;> by_cases h3 : c = 0 <;> by_cases h4 : d = 0 <;> simp [h1, h2, h3, h4]
def codeOk (f : Nat → Nat) : Bool := (decide (f 0 = 197) && decide (f 12 = 0 ∧ f 13 = 0 ∧ f 14 = 0 ∧ f 15 = 0)) && capOkB (get3 f 1) (get3 f 4) ((get3 f 1 : Int) + get3 f 7 - 1048576) (f 10) (f 11)
def ReadPost (f : Nat → Nat) (w : World) (e : Ending) (w' : World) : Prop :=
  e = .returned (if codeOk f then .tuple #[.agg #[.int .i64 (get3 f 1), .int .i64 (get3 f 4), .int .i64 ((get3 f 1 : Int) + get3 f 7 - 1048576), .int .i64 (f 10), .int .i64 (f 11), .bool true], .bool true] else .tuple #[.agg #[.int .i64 0, .int .i64 0, .int .i64 0, .int .i64 0, .int .i64 0, .bool false], .bool false]) ∧ Below w.heap.size w w'
set_option maxHeartbeats 2000000 in
theorem cread_len (g len cap : Nat) (w : World) (hl : len ≠ 16) (hl2 : len ≤ 1000) :
    Calls Tryd.prog 11 #[.slice (some ⟨g, 0, none⟩) len cap] w fun e w' => e = .returned (.tuple #[.agg #[.int .i64 0, .int .i64 0, .int .i64 0, .int .i64 0, .int .i64 0, .bool false], .bool false]) ∧ Below w.heap.size w w' := by
  have h1 : ((len : Int) == 16) = false := by simp; omega
  go_enter Tryd.func11, Tryd.ntmps11
  go_wp2
  refine bodyPost_ret (v := .tuple #[.agg #[.int .i64 0, .int .i64 0, .int .i64 0, .int .i64 0, .int .i64 0, .bool false], .bool false]) (by simp [results, Tryd.results11, go_sem]) rfl ⟨rfl, ?_⟩
  exact alc0 _ _
set_option maxHeartbeats 4000000 in
theorem cread (g cap : Nat) (f : Nat → Nat) (w : World) (H : RowU g 16 w f) (hf : ∀ i, f i < 256) (hcap : 16 ≤ cap) :
    Calls Tryd.prog 11 #[.slice (some ⟨g, 0, none⟩) 16 cap] w (ReadPost f w) := by
  have HH := Lib.hid H
  have HF := Lib.hid hf
  have ha := fun (W : World) (c : Nat) => run_arrayAt (P := Tryd.prog) (w := W) 83 5 4 (some ⟨g, 12, none⟩) 4 c Tryd.underlying83 (by omega)
  obtain ⟨m0, n0⟩ := H.2 0 (by omega)
  obtain ⟨m12, n12⟩ := H.2 12 (by omega)
  obtain ⟨m13, n13⟩ := H.2 13 (by omega)
  obtain ⟨m14, n14⟩ := H.2 14 (by omega)
  obtain ⟨m15, n15⟩ := H.2 15 (by omega)
  have hg := H.1
  have hcp : 12 < cap := by omega
  clear H hf n0 n12 n13 n14 n15
  by_cases h0 : f 0 = 197
  · by_cases h1 : f 12 = 0 ∧ f 13 = 0 ∧ f 14 = 0 ∧ f 15 = 0
    · have HC : Hid (codeOk f = capOkB (get3 f 1) (get3 f 4) ((get3 f 1 : Int) + get3 f 7 - 1048576) (f 10) (f 11)) := Lib.hid (by unfold codeOk; rw [decide_eq_true h0, decide_eq_true h1, Bool.true_and, Bool.true_and])
      obtain ⟨c1, c2, c3, c4⟩ := h1
      rw [h0] at m0
      rw [c1] at m12; rw [c2] at m13; rw [c3] at m14; rw [c4] at m15
      have he := fun w => eq4 0 0 0 0 w
      go_enter Tryd.func11, Tryd.ntmps11
      go_upto_region 3 with (fail)
      obtain ⟨w2, hw⟩ : ∃ w2, w.alloc (.cells #[.int .i64 0, .int .i64 0, .int .i64 0, .int .i64 0, .int .i64 0, .bool false] 37) = w2 := ⟨_, rfl⟩
      have HR2 : Hid (RowU g 16 w2 f) := Lib.hid (by rw [← hw]; exact HH.out.below (alc0 _ _))
      have HX2 : Hid (CapAt w.heap.size w2 0 0 0 0 0 false) := Lib.hid (by rw [← hw]; exact CapAt.new _ _ _ _ _ _ _ _)
      have HB2 : Hid (Below w.heap.size w w2) := Lib.hid (by rw [← hw]; exact alc0 _ _)
      rw [hw]
      clear hw m0 m12 m13 m14 m15 c1 c2 c3 c4 h0 he ha
      have HT := Lib.hid (fun (o len cap' : Nat) (W' : World) (h : W'.heap = w2.heap) (ho : o + 3 ≤ 16) (h1 : 3 ≤ len) (h2 : len ≤ 1000) => tget g o len cap' (f o) (f (o + 1)) (f (o + 2)) W' ((HR2.out.heap h).2 o (by omega)).1 ((HR2.out.heap h).2 (o + 1) (by omega)).1 ((HR2.out.heap h).2 (o + 2) (by omega)).1 (HF.out _) (HF.out _) (HF.out _) h1 h2)
      have cp1 : 1 < cap := by omega
      have cp4 : 4 < cap := by omega
      have cp7 : 7 < cap := by omega
      obtain ⟨B1, hB1⟩ : ∃ B1, f 1 + 256 * f 2 + 65536 * f 3 = B1 := ⟨_, rfl⟩
      obtain ⟨B4, hB4⟩ : ∃ B4, f 4 + 256 * f 5 + 65536 * f 6 = B4 := ⟨_, rfl⟩
      obtain ⟨B7, hB7⟩ : ∃ B7, f 7 + 256 * f 8 + 65536 * f 9 = B7 := ⟨_, rfl⟩
      have b1 : B1 < 16777216 := by have := HF.out 1; have := HF.out 2; have := HF.out 3; omega
      have b4 : B4 < 16777216 := by have := HF.out 4; have := HF.out 5; have := HF.out 6; omega
      have b7 : B7 < 16777216 := by have := HF.out 7; have := HF.out 8; have := HF.out 9; omega
      have HT1 := Lib.hid (HT.out 1); have HT4 := Lib.hid (HT.out 4); have HT7 := Lib.hid (HT.out 7)
      simp only [Nat.reduceAdd] at HT1 HT4 HT7
      rw [hB1] at HT1; rw [hB4] at HT4; rw [hB7] at HT7
      have HBB := Lib.hid (And.intro hB1 (And.intro hB4 hB7))
      clear hB1 hB4 hB7 HT
      go_wp2_with fail
      refine (HT1.out _ _ _ rfl (by omega) (by omega) (by omega)).mono ?_
      rintro e w3 ⟨rfl, q, hw3⟩
      have h3 : w3.heap = w2.heap := by rw [hw3]; simp
      obtain ⟨m10, n10⟩ := (HR2.out.heap h3).2 10 (by omega)
      obtain ⟨m11, n11⟩ := (HR2.out.heap h3).2 11 (by omega)
      have H3 := Lib.hid h3
      have f10 := HF.out 10
      have f11 := HF.out 11
      have HW3 := Lib.hid hw3
      clear hw3 h3 n10 n11
      go_upto_region 4 with (fail)
      go_cut [5] (fun v5 wx => ∃ z, v5 = .pointer (some ⟨z, 0, none⟩) ∧ z ≠ w.heap.size ∧ Hid (CapAt z wx B1 B4 ((B1 : Int) + B7 - 1048576) (f 10) (f 11) true) ∧ Hid (CapAt w.heap.size wx 0 0 0 0 0 false) ∧ Hid (Below w.heap.size w wx))
      case first =>
        have HTT := Lib.hid (fun (W' : World) (h : Below w2.heap.size w2 W') (len cap' : Nat) (h1 : 3 ≤ len) (h2 : len ≤ 1000) => And.intro (tget g 4 len cap' (f 4) (f 5) (f 6) W' ((HR2.out.below h).2 4 (by omega)).1 ((HR2.out.below h).2 5 (by omega)).1 ((HR2.out.below h).2 6 (by omega)).1 (HF.out _) (HF.out _) (HF.out _) h1 h2) (tget g 7 len cap' (f 7) (f 8) (f 9) W' ((HR2.out.below h).2 7 (by omega)).1 ((HR2.out.below h).2 8 (by omega)).1 ((HR2.out.below h).2 9 (by omega)).1 (HF.out _) (HF.out _) (HF.out _) h1 h2))
        rw [HBB.out.2.1, HBB.out.2.2] at HTT
        have HB3 : Hid (Below w2.heap.size w2 w3) := Lib.hid (by rw [HW3.out]; exact below_drewN (Below.refl _ _) _)
        have hs3 := HB3.out.size
        have hg3 : g < w3.heap.size := Nat.lt_of_lt_of_le HR2.out.1 hs3
        have hgn : w3.heap.size ≠ g := by omega
        generalize f 10 = F10 at *
        generalize f 11 = F11 at *
        have q1 := IntWalk.i64_in ((B1 : Int) + B7) (by omega)
        have q2 := IntWalk.i64_in ((B1 : Int) + B7 - 1048576) (by omega)
        have q3 := IntWalk.i64_in (F10 : Int) (by omega)
        have q4 := IntWalk.i64_in (F11 : Int) (by omega)
        clear HT1 HT4 HT7 H3 HW3 HBB
        have hg2 := HR2.out.1
        have hc4 : ¬ cap = 4 := by omega
        have hc7 : ¬ cap = 7 := by omega
        obtain ⟨wd, hwd⟩ : ∃ wd, w3.drew = wd := ⟨_, rfl⟩
        have k10 : wd.cell? ⟨g, 10, none⟩ = some (.int .u8 F10) := by rw [← hwd]; simpa using m10
        have k11 : wd.cell? ⟨g, 11, none⟩ = some (.int .u8 F11) := by rw [← hwd]; simpa using m11
        have kB : Hid (Below w2.heap.size w2 wd) := Lib.hid (by rw [← hwd]; exact HB3.out.drew)
        have kg : g < wd.heap.size := by rw [← hwd]; simpa using hg3
        refine wp_region_held_drew (S := (fun w' => w'.cell? ⟨g, 10, none⟩ = some (.int .u8 F10) ∧ w'.cell? ⟨g, 11, none⟩ = some (.int .u8 F11) ∧ Hid (Below w2.heap.size w2 w') ∧ g < w'.heap.size)) (by kernel_rfl) (by rw [hwd]; exact ⟨k10, k11, kB, kg⟩) (fun hHeld => ?_)
        rw [hwd] at hHeld ⊢
        clear hwd k10 k11 kB kg m10 m11 hg3 hgn hs3 HB3
        refine wpAnyH_take (i := 0) (v := ?_) rfl (by kernel_rfl) (by kernel_rfl) (by kernel_rfl) (fun _ _ _ h => h) (Or.inl ⟨by kernel_rfl, ?_⟩) (by assumption) ?_
        rotate_left
        · (intro w hSw; (try dsimp only at hSw); go_simp)
          try (with_reducible rfl)
        rotate_left
        try simp (maxSteps := 4000000) only [Act.put, List.setIfInBounds_toArray, List.set_cons_zero, List.set_cons_succ, List.getElem_toArray, List.getElem_cons_zero, List.getElem_cons_succ]
        refine wpAnyH_take (i := 1) (v := ?_) rfl (by kernel_rfl) (by kernel_rfl) (by kernel_rfl) (fun _ _ _ h => h) (Or.inl ⟨by kernel_rfl, ?_⟩) (by assumption) ?_
        rotate_left
        · (intro w hSw; (try dsimp only at hSw); go_simp)
          try (with_reducible rfl)
        rotate_left
        try simp (maxSteps := 4000000) only [Act.put, List.setIfInBounds_toArray, List.set_cons_zero, List.set_cons_succ, List.getElem_toArray, List.getElem_cons_zero, List.getElem_cons_succ]
        refine wpAnyH_take (i := 2) (v := ?_) rfl (by kernel_rfl) (by kernel_rfl) (by kernel_rfl) (fun _ _ _ h => h) (Or.inl ⟨by kernel_rfl, ?_⟩) (by assumption) ?_
        rotate_left
        · (intro w hSw; (try dsimp only at hSw); go_simp)
          try (with_reducible rfl)
        rotate_left
        try simp (maxSteps := 4000000) only [Act.put, List.setIfInBounds_toArray, List.set_cons_zero, List.set_cons_succ, List.getElem_toArray, List.getElem_cons_zero, List.getElem_cons_succ]
        refine wpAnyH_take (i := 4) (v := ?_) rfl (by kernel_rfl) (by kernel_rfl) (by kernel_rfl) (fun _ _ _ h => h) (Or.inl ⟨by kernel_rfl, ?_⟩) (by assumption) ?_
        rotate_left
        · (intro w hSw; (try dsimp only at hSw); go_simp)
          try (with_reducible rfl)
        rotate_left
        try simp (maxSteps := 4000000) only [Act.put, List.setIfInBounds_toArray, List.set_cons_zero, List.set_cons_succ, List.getElem_toArray, List.getElem_cons_zero, List.getElem_cons_succ]
        refine wpAnyH_take (i := 5) (v := ?_) rfl (by kernel_rfl) (by kernel_rfl) (by kernel_rfl) (fun _ _ _ h => h) (Or.inl ⟨by kernel_rfl, ?_⟩) (by assumption) ?_
        rotate_left
        · (intro w hSw; (try dsimp only at hSw); go_simp)
          try (with_reducible rfl)
        rotate_left
        try simp (maxSteps := 4000000) only [Act.put, List.setIfInBounds_toArray, List.set_cons_zero, List.set_cons_succ, List.getElem_toArray, List.getElem_cons_zero, List.getElem_cons_succ]
        refine wpAnyH_take (i := 6) (v := ?_) rfl (by kernel_rfl) (by kernel_rfl) (by kernel_rfl) (fun _ _ _ h => h) (Or.inl ⟨by kernel_rfl, ?_⟩) (by assumption) ?_
        rotate_left
        · (intro w hSw; (try dsimp only at hSw); go_simp)
          try (with_reducible rfl)
        rotate_left
        try simp (maxSteps := 4000000) only [Act.put, List.setIfInBounds_toArray, List.set_cons_zero, List.set_cons_succ, List.getElem_toArray, List.getElem_cons_zero, List.getElem_cons_succ]
        refine wpAnyH_take (i := 10) (v := ?_) rfl (by kernel_rfl) (by kernel_rfl) (by kernel_rfl) (fun _ _ _ h => h) (Or.inl ⟨by kernel_rfl, ?_⟩) (by assumption) ?_
        rotate_left
        · (intro w hSw; (try dsimp only at hSw); go_simp)
          try (with_reducible rfl)
        rotate_left
        try simp (maxSteps := 4000000) only [Act.put, List.setIfInBounds_toArray, List.set_cons_zero, List.set_cons_succ, List.getElem_toArray, List.getElem_cons_zero, List.getElem_cons_succ]
        refine wpAnyH_take (i := 11) (v := ?_) rfl (by kernel_rfl) (by kernel_rfl) (by kernel_rfl) (fun _ _ _ h => h) (Or.inl ⟨by kernel_rfl, ?_⟩) (by assumption) ?_
        rotate_left
        · (intro w hSw; (try dsimp only at hSw); go_simp)
          try (with_reducible rfl)
        rotate_left
        try simp (maxSteps := 4000000) only [Act.put, List.setIfInBounds_toArray, List.set_cons_zero, List.set_cons_succ, List.getElem_toArray, List.getElem_cons_zero, List.getElem_cons_succ]
        refine wpAnyH_take (i := 12) (v := ?_) rfl (by kernel_rfl) (by kernel_rfl) (by kernel_rfl) (fun _ _ _ h => h) (Or.inl ⟨by kernel_rfl, ?_⟩) (by assumption) ?_
        rotate_left
        · (intro w hSw; (try dsimp only at hSw); go_simp)
          try (with_reducible rfl)
        rotate_left
        try simp (maxSteps := 4000000) only [Act.put, List.setIfInBounds_toArray, List.set_cons_zero, List.set_cons_succ, List.getElem_toArray, List.getElem_cons_zero, List.getElem_cons_succ]
        refine wpAnyH_take (i := 13) (v := ?_) rfl (by kernel_rfl) (by kernel_rfl) (by kernel_rfl) (fun _ _ _ h => h) (Or.inl ⟨by kernel_rfl, ?_⟩) (by assumption) ?_
        rotate_left
        · (intro w hSw; (try dsimp only at hSw); go_simp)
          try (with_reducible rfl)
        rotate_left
        try simp (maxSteps := 4000000) only [Act.put, List.setIfInBounds_toArray, List.set_cons_zero, List.set_cons_succ, List.getElem_toArray, List.getElem_cons_zero, List.getElem_cons_succ]
        refine wpAnyH_take (i := 14) (v := ?_) rfl (by kernel_rfl) (by kernel_rfl) (by kernel_rfl) (fun _ _ _ h => h) (Or.inl ⟨by kernel_rfl, ?_⟩) (by assumption) ?_
        rotate_left
        · (intro w hSw; (try dsimp only at hSw); go_simp)
          try (with_reducible rfl)
        rotate_left
        try simp (maxSteps := 4000000) only [Act.put, List.setIfInBounds_toArray, List.set_cons_zero, List.set_cons_succ, List.getElem_toArray, List.getElem_cons_zero, List.getElem_cons_succ]
        refine wpAnyH_take (i := 15) (v := ?_) rfl (by kernel_rfl) (by kernel_rfl) (by kernel_rfl) (fun _ _ _ h => h) (Or.inl ⟨by kernel_rfl, ?_⟩) (by assumption) ?_
        rotate_left
        · (intro w hSw; (try dsimp only at hSw); go_simp)
          try (with_reducible rfl)
        rotate_left
        try simp (maxSteps := 4000000) only [Act.put, List.setIfInBounds_toArray, List.set_cons_zero, List.set_cons_succ, List.getElem_toArray, List.getElem_cons_zero, List.getElem_cons_succ]
        refine wpAnyH_take (i := 16) (v := ?_) rfl (by kernel_rfl) (by kernel_rfl) (by kernel_rfl) (fun _ _ _ h => h) (Or.inl ⟨by kernel_rfl, ?_⟩) (by assumption) ?_
        rotate_left
        · (intro w hSw; (try dsimp only at hSw); go_simp)
          try (with_reducible rfl)
        rotate_left
        try simp (maxSteps := 4000000) only [Act.put, List.setIfInBounds_toArray, List.set_cons_zero, List.set_cons_succ, List.getElem_toArray, List.getElem_cons_zero, List.getElem_cons_succ]
        refine wpAnyH_take (i := 17) (v := ?_) rfl (by kernel_rfl) (by kernel_rfl) (by kernel_rfl) (fun _ _ _ h => h) (Or.inl ⟨by kernel_rfl, ?_⟩) (by assumption) ?_
        rotate_left
        · (intro w hSw; (try dsimp only at hSw); go_simp)
          try (with_reducible rfl)
        rotate_left
        try simp (maxSteps := 4000000) only [Act.put, List.setIfInBounds_toArray, List.set_cons_zero, List.set_cons_succ, List.getElem_toArray, List.getElem_cons_zero, List.getElem_cons_succ]
        refine wpAnyH_ready (rs := [3, 19]) (by kernel_rfl) (by simp) ?_
        refine AllReadyH.cons rfl (fun K2 hK2 => ?_) (AllReadyH.cons rfl (fun K2 hK2 => ?_) AllReadyH.nil)
        all_goals go_simp
        · with_reducible refine Calls.mono (HTT.out _ hHeld.2.2.1.out _ _ (by omega) (by omega)).1 ?_
          rintro e wk1 ⟨rfl, q9, hw9⟩
          have hB9 : Below wd.heap.size wd wk1 := by rw [hw9]; exact below_drewN (Below.refl _ _) q9
          clear hw9
          refine hK2.out _ _ ?_ (fun hHeld2 => ?_)
          · exact ⟨(hB9.cell (p := ⟨g, 10, none⟩) hHeld.2.2.2).trans hHeld.1, (hB9.cell (p := ⟨g, 11, none⟩) hHeld.2.2.2).trans hHeld.2.1, Lib.hid (thnw hHeld.2.2.1.out hB9), Nat.lt_of_lt_of_le hHeld.2.2.2 hB9.size⟩
          clear hB9
          clear hK2 K2 hHeld
          have hHeld := hHeld2
          clear hHeld2
          try simp (maxSteps := 4000000) only [Act.put, List.setIfInBounds_toArray, List.set_cons_zero, List.set_cons_succ]
          refine wpAnyH_ready (rs := [7, 19]) (by kernel_rfl) (by simp) ?_
          refine AllReadyH.cons rfl (fun K2 hK2 => ?_) (AllReadyH.cons rfl (fun K2 hK2 => ?_) AllReadyH.nil)
          all_goals go_simp
          · with_reducible refine Calls.mono (HTT.out _ hHeld.2.2.1.out _ _ (by omega) (by omega)).2 ?_
            rintro e wk2 ⟨rfl, q9, hw9⟩
            have hB9 : Below wk1.heap.size wk1 wk2 := by rw [hw9]; exact below_drewN (Below.refl _ _) q9
            clear hw9
            refine hK2.out _ _ ?_ (fun hHeld2 => ?_)
            · exact ⟨(hB9.cell (p := ⟨g, 10, none⟩) hHeld.2.2.2).trans hHeld.1, (hB9.cell (p := ⟨g, 11, none⟩) hHeld.2.2.2).trans hHeld.2.1, Lib.hid (thnw hHeld.2.2.1.out hB9), Nat.lt_of_lt_of_le hHeld.2.2.2 hB9.size⟩
            clear hB9
            clear hK2 K2 hHeld
            have hHeld := hHeld2
            clear hHeld2
            try simp (maxSteps := 4000000) only [Act.put, List.setIfInBounds_toArray, List.set_cons_zero, List.set_cons_succ]
            refine wpAnyH_take (i := 8) (v := ?_) rfl (by kernel_rfl) (by kernel_rfl) (by kernel_rfl) (fun _ _ _ h => h) (Or.inl ⟨by kernel_rfl, ?_⟩) (by assumption) ?_
            rotate_left
            · (intro w hSw; (try dsimp only at hSw); go_simp)
              try (with_reducible rfl)
            rotate_left
            try simp (maxSteps := 4000000) only [Act.put, List.setIfInBounds_toArray, List.set_cons_zero, List.set_cons_succ, List.getElem_toArray, List.getElem_cons_zero, List.getElem_cons_succ]
            refine wpAnyH_take (i := 9) (v := ?_) rfl (by kernel_rfl) (by kernel_rfl) (by kernel_rfl) (fun _ _ _ h => h) (Or.inl ⟨by kernel_rfl, ?_⟩) (by assumption) ?_
            rotate_left
            · (intro w hSw; (try dsimp only at hSw); go_simp)
              try (with_reducible rfl)
            rotate_left
            try simp (maxSteps := 4000000) only [Act.put, List.setIfInBounds_toArray, List.set_cons_zero, List.set_cons_succ, List.getElem_toArray, List.getElem_cons_zero, List.getElem_cons_succ]
            refine wpAnyH_take (i := 18) (v := ?_) rfl (by kernel_rfl) (by kernel_rfl) (by kernel_rfl) (fun _ _ _ h => h) (Or.inl ⟨by kernel_rfl, ?_⟩) (by assumption) ?_
            rotate_left
            · (intro w hSw; (try dsimp only at hSw); go_simp)
              try (with_reducible rfl)
            rotate_left
            try simp (maxSteps := 4000000) only [Act.put, List.setIfInBounds_toArray, List.set_cons_zero, List.set_cons_succ, List.getElem_toArray, List.getElem_cons_zero, List.getElem_cons_succ]
            refine wpAnyH_ready (rs := [19]) (by kernel_rfl) (by simp) ?_
            refine AllReadyH.cons rfl (fun K2 hK2 => ?_) AllReadyH.nil
            go_simp
            refine hK2.out _ _ ?_ (fun hHeld2 => ?_)
            · exact ⟨(World.cell?_alloc_lt _ _ _ (show g < _ from hHeld.2.2.2)).trans hHeld.1, (World.cell?_alloc_lt _ _ _ (show g < _ from hHeld.2.2.2)).trans hHeld.2.1, Lib.hid (hHeld.2.2.1.out.alloc hHeld.2.2.1.out.size _), by rw [World.size_alloc]; exact Nat.lt_succ_of_lt hHeld.2.2.2⟩
            have HZ := Lib.hid (CapAt.new wk2 0 0 0 0 0 false 37)
            have hz2 : w2.heap.size ≤ wk2.heap.size := hHeld.2.2.1.out.size
            obtain ⟨z, hz⟩ : ∃ z, wk2.heap.size = z := ⟨_, rfl⟩
            obtain ⟨wn, hwn⟩ : ∃ wn, wk2.alloc (.cells #[.int .i64 0, .int .i64 0, .int .i64 0, .int .i64 0, .int .i64 0, .bool false] 37) = wn := ⟨_, rfl⟩
            rw [hwn] at HZ hHeld2 ⊢
            rw [hz] at HZ hz2 ⊢
            clear hz hwn
            clear hK2 K2 hHeld
            have hHeld := hHeld2
            clear hHeld2
            try simp (maxSteps := 4000000) only [Act.put, List.setIfInBounds_toArray, List.set_cons_zero, List.set_cons_succ]
            obtain ⟨_, z0, z1, z2, z3, z4, z5, zf⟩ := HZ.out
            have zf0 := zf 0 (by omega)
            have zf1 := zf 1 (by omega)
            have zf2 := zf 2 (by omega)
            have zf3 := zf 3 (by omega)
            have zf4 := zf 4 (by omega)
            have zf5 := zf 5 (by omega)
            refine wpAnyH_ready (rs := [20]) (by kernel_rfl) (by simp) ?_
            refine AllReadyH.cons rfl (fun K2 hK2 => ?_) AllReadyH.nil
            go_simp
            obtain ⟨ws, hws, hzs, hbs, hss, hcs⟩ := cap_store HZ.out B1 B4 ((B1 : Int) + B7 - 1048576) F10 F11 true
            rw [hws]
            have hBs : Hid (Below w2.heap.size w2 ws) := Lib.hid (hHeld.2.2.1.out.trans (hbs.mono hz2))
            refine hK2.out _ _ ?_ (fun hHeld2 => ?_)
            · exact ⟨(hcs g 10 (by omega)).trans hHeld.1, (hcs g 11 (by omega)).trans hHeld.2.1, hBs, by rw [hss]; exact hHeld.2.2.2⟩
            refine wpAnyH_done (by kernel_rfl) ?_ _
            go_wp2
            go_meet
            exact ⟨z, rfl, by have := HX2.out.1; omega, Lib.hid hzs, Lib.hid (HX2.out.below hBs.out), Lib.hid (thn HB2.out hBs.out)⟩
          · refine hK2.out _ _ ?_ (fun hHeld2 => ?_)
            · exact ⟨(World.cell?_alloc_lt _ _ _ (show g < _ from hHeld.2.2.2)).trans hHeld.1, (World.cell?_alloc_lt _ _ _ (show g < _ from hHeld.2.2.2)).trans hHeld.2.1, Lib.hid (hHeld.2.2.1.out.alloc hHeld.2.2.1.out.size _), by rw [World.size_alloc]; exact Nat.lt_succ_of_lt hHeld.2.2.2⟩
            have HZ := Lib.hid (CapAt.new wk1 0 0 0 0 0 false 37)
            have hz2 : w2.heap.size ≤ wk1.heap.size := hHeld.2.2.1.out.size
            obtain ⟨z, hz⟩ : ∃ z, wk1.heap.size = z := ⟨_, rfl⟩
            obtain ⟨wn, hwn⟩ : ∃ wn, wk1.alloc (.cells #[.int .i64 0, .int .i64 0, .int .i64 0, .int .i64 0, .int .i64 0, .bool false] 37) = wn := ⟨_, rfl⟩
            rw [hwn] at HZ hHeld2 ⊢
            rw [hz] at HZ hz2 ⊢
            clear hz hwn
            clear hK2 K2 hHeld
            have hHeld := hHeld2
            clear hHeld2
            try simp (maxSteps := 4000000) only [Act.put, List.setIfInBounds_toArray, List.set_cons_zero, List.set_cons_succ]
            refine wpAnyH_ready (rs := [7]) (by kernel_rfl) (by simp) ?_
            refine AllReadyH.cons rfl (fun K2 hK2 => ?_) AllReadyH.nil
            go_simp
            with_reducible refine Calls.mono (HTT.out _ hHeld.2.2.1.out _ _ (by omega) (by omega)).2 ?_
            rintro e wk2 ⟨rfl, q9, hw9⟩
            have hB9 : Below wn.heap.size wn wk2 := by rw [hw9]; exact below_drewN (Below.refl _ _) q9
            clear hw9
            refine hK2.out _ _ ?_ (fun hHeld2 => ?_)
            · exact ⟨(hB9.cell (p := ⟨g, 10, none⟩) hHeld.2.2.2).trans hHeld.1, (hB9.cell (p := ⟨g, 11, none⟩) hHeld.2.2.2).trans hHeld.2.1, Lib.hid (thnw hHeld.2.2.1.out hB9), Nat.lt_of_lt_of_le hHeld.2.2.2 hB9.size⟩
            have HZ9 := Lib.hid (HZ.out.below hB9)
            clear HZ
            have HZ := HZ9
            clear HZ9
            clear hB9
            clear hK2 K2 hHeld
            have hHeld := hHeld2
            clear hHeld2
            try simp (maxSteps := 4000000) only [Act.put, List.setIfInBounds_toArray, List.set_cons_zero, List.set_cons_succ]
            obtain ⟨_, z0, z1, z2, z3, z4, z5, zf⟩ := HZ.out
            have zf0 := zf 0 (by omega)
            have zf1 := zf 1 (by omega)
            have zf2 := zf 2 (by omega)
            have zf3 := zf 3 (by omega)
            have zf4 := zf 4 (by omega)
            have zf5 := zf 5 (by omega)
            refine wpAnyH_take (i := 8) (v := ?_) rfl (by kernel_rfl) (by kernel_rfl) (by kernel_rfl) (fun _ _ _ h => h) (Or.inl ⟨by kernel_rfl, ?_⟩) (by assumption) ?_
            rotate_left
            · (intro w hSw; (try dsimp only at hSw); go_simp)
              try (with_reducible rfl)
            rotate_left
            try simp (maxSteps := 4000000) only [Act.put, List.setIfInBounds_toArray, List.set_cons_zero, List.set_cons_succ, List.getElem_toArray, List.getElem_cons_zero, List.getElem_cons_succ]
            refine wpAnyH_take (i := 9) (v := ?_) rfl (by kernel_rfl) (by kernel_rfl) (by kernel_rfl) (fun _ _ _ h => h) (Or.inl ⟨by kernel_rfl, ?_⟩) (by assumption) ?_
            rotate_left
            · (intro w hSw; (try dsimp only at hSw); go_simp)
              try (with_reducible rfl)
            rotate_left
            try simp (maxSteps := 4000000) only [Act.put, List.setIfInBounds_toArray, List.set_cons_zero, List.set_cons_succ, List.getElem_toArray, List.getElem_cons_zero, List.getElem_cons_succ]
            refine wpAnyH_take (i := 18) (v := ?_) rfl (by kernel_rfl) (by kernel_rfl) (by kernel_rfl) (fun _ _ _ h => h) (Or.inl ⟨by kernel_rfl, ?_⟩) (by assumption) ?_
            rotate_left
            · (intro w hSw; (try dsimp only at hSw); go_simp)
              try (with_reducible rfl)
            rotate_left
            try simp (maxSteps := 4000000) only [Act.put, List.setIfInBounds_toArray, List.set_cons_zero, List.set_cons_succ, List.getElem_toArray, List.getElem_cons_zero, List.getElem_cons_succ]
            refine wpAnyH_ready (rs := [20]) (by kernel_rfl) (by simp) ?_
            refine AllReadyH.cons rfl (fun K2 hK2 => ?_) AllReadyH.nil
            go_simp
            obtain ⟨ws, hws, hzs, hbs, hss, hcs⟩ := cap_store HZ.out B1 B4 ((B1 : Int) + B7 - 1048576) F10 F11 true
            rw [hws]
            have hBs : Hid (Below w2.heap.size w2 ws) := Lib.hid (hHeld.2.2.1.out.trans (hbs.mono hz2))
            refine hK2.out _ _ ?_ (fun hHeld2 => ?_)
            · exact ⟨(hcs g 10 (by omega)).trans hHeld.1, (hcs g 11 (by omega)).trans hHeld.2.1, hBs, by rw [hss]; exact hHeld.2.2.2⟩
            refine wpAnyH_done (by kernel_rfl) ?_ _
            go_wp2
            go_meet
            exact ⟨z, rfl, by have := HX2.out.1; omega, Lib.hid hzs, Lib.hid (HX2.out.below hBs.out), Lib.hid (thn HB2.out hBs.out)⟩
        · refine hK2.out _ _ ?_ (fun hHeld2 => ?_)
          · exact ⟨(World.cell?_alloc_lt _ _ _ (show g < _ from hHeld.2.2.2)).trans hHeld.1, (World.cell?_alloc_lt _ _ _ (show g < _ from hHeld.2.2.2)).trans hHeld.2.1, Lib.hid (hHeld.2.2.1.out.alloc hHeld.2.2.1.out.size _), by rw [World.size_alloc]; exact Nat.lt_succ_of_lt hHeld.2.2.2⟩
          have HZ := Lib.hid (CapAt.new wd 0 0 0 0 0 false 37)
          have hz2 : w2.heap.size ≤ wd.heap.size := hHeld.2.2.1.out.size
          obtain ⟨z, hz⟩ : ∃ z, wd.heap.size = z := ⟨_, rfl⟩
          obtain ⟨wn, hwn⟩ : ∃ wn, wd.alloc (.cells #[.int .i64 0, .int .i64 0, .int .i64 0, .int .i64 0, .int .i64 0, .bool false] 37) = wn := ⟨_, rfl⟩
          rw [hwn] at HZ hHeld2 ⊢
          rw [hz] at HZ hz2 ⊢
          clear hz hwn
          clear hK2 K2 hHeld
          have hHeld := hHeld2
          clear hHeld2
          try simp (maxSteps := 4000000) only [Act.put, List.setIfInBounds_toArray, List.set_cons_zero, List.set_cons_succ]
          refine wpAnyH_ready (rs := [3]) (by kernel_rfl) (by simp) ?_
          refine AllReadyH.cons rfl (fun K2 hK2 => ?_) AllReadyH.nil
          go_simp
          with_reducible refine Calls.mono (HTT.out _ hHeld.2.2.1.out _ _ (by omega) (by omega)).1 ?_
          rintro e wk1 ⟨rfl, q9, hw9⟩
          have hB9 : Below wn.heap.size wn wk1 := by rw [hw9]; exact below_drewN (Below.refl _ _) q9
          clear hw9
          refine hK2.out _ _ ?_ (fun hHeld2 => ?_)
          · exact ⟨(hB9.cell (p := ⟨g, 10, none⟩) hHeld.2.2.2).trans hHeld.1, (hB9.cell (p := ⟨g, 11, none⟩) hHeld.2.2.2).trans hHeld.2.1, Lib.hid (thnw hHeld.2.2.1.out hB9), Nat.lt_of_lt_of_le hHeld.2.2.2 hB9.size⟩
          have HZ9 := Lib.hid (HZ.out.below hB9)
          clear HZ
          have HZ := HZ9
          clear HZ9
          clear hB9
          clear hK2 K2 hHeld
          have hHeld := hHeld2
          clear hHeld2
          try simp (maxSteps := 4000000) only [Act.put, List.setIfInBounds_toArray, List.set_cons_zero, List.set_cons_succ]
          refine wpAnyH_ready (rs := [7]) (by kernel_rfl) (by simp) ?_
          refine AllReadyH.cons rfl (fun K2 hK2 => ?_) AllReadyH.nil
          go_simp
          with_reducible refine Calls.mono (HTT.out _ hHeld.2.2.1.out _ _ (by omega) (by omega)).2 ?_
          rintro e wk2 ⟨rfl, q9, hw9⟩
          have hB9 : Below wk1.heap.size wk1 wk2 := by rw [hw9]; exact below_drewN (Below.refl _ _) q9
          clear hw9
          refine hK2.out _ _ ?_ (fun hHeld2 => ?_)
          · exact ⟨(hB9.cell (p := ⟨g, 10, none⟩) hHeld.2.2.2).trans hHeld.1, (hB9.cell (p := ⟨g, 11, none⟩) hHeld.2.2.2).trans hHeld.2.1, Lib.hid (thnw hHeld.2.2.1.out hB9), Nat.lt_of_lt_of_le hHeld.2.2.2 hB9.size⟩
          have HZ9 := Lib.hid (HZ.out.below hB9)
          clear HZ
          have HZ := HZ9
          clear HZ9
          clear hB9
          clear hK2 K2 hHeld
          have hHeld := hHeld2
          clear hHeld2
          try simp (maxSteps := 4000000) only [Act.put, List.setIfInBounds_toArray, List.set_cons_zero, List.set_cons_succ]
          obtain ⟨_, z0, z1, z2, z3, z4, z5, zf⟩ := HZ.out
          have zf0 := zf 0 (by omega)
          have zf1 := zf 1 (by omega)
          have zf2 := zf 2 (by omega)
          have zf3 := zf 3 (by omega)
          have zf4 := zf 4 (by omega)
          have zf5 := zf 5 (by omega)
          refine wpAnyH_take (i := 8) (v := ?_) rfl (by kernel_rfl) (by kernel_rfl) (by kernel_rfl) (fun _ _ _ h => h) (Or.inl ⟨by kernel_rfl, ?_⟩) (by assumption) ?_
          rotate_left
          · (intro w hSw; (try dsimp only at hSw); go_simp)
            try (with_reducible rfl)
          rotate_left
          try simp (maxSteps := 4000000) only [Act.put, List.setIfInBounds_toArray, List.set_cons_zero, List.set_cons_succ, List.getElem_toArray, List.getElem_cons_zero, List.getElem_cons_succ]
          refine wpAnyH_take (i := 9) (v := ?_) rfl (by kernel_rfl) (by kernel_rfl) (by kernel_rfl) (fun _ _ _ h => h) (Or.inl ⟨by kernel_rfl, ?_⟩) (by assumption) ?_
          rotate_left
          · (intro w hSw; (try dsimp only at hSw); go_simp)
            try (with_reducible rfl)
          rotate_left
          try simp (maxSteps := 4000000) only [Act.put, List.setIfInBounds_toArray, List.set_cons_zero, List.set_cons_succ, List.getElem_toArray, List.getElem_cons_zero, List.getElem_cons_succ]
          refine wpAnyH_take (i := 18) (v := ?_) rfl (by kernel_rfl) (by kernel_rfl) (by kernel_rfl) (fun _ _ _ h => h) (Or.inl ⟨by kernel_rfl, ?_⟩) (by assumption) ?_
          rotate_left
          · (intro w hSw; (try dsimp only at hSw); go_simp)
            try (with_reducible rfl)
          rotate_left
          try simp (maxSteps := 4000000) only [Act.put, List.setIfInBounds_toArray, List.set_cons_zero, List.set_cons_succ, List.getElem_toArray, List.getElem_cons_zero, List.getElem_cons_succ]
          refine wpAnyH_ready (rs := [20]) (by kernel_rfl) (by simp) ?_
          refine AllReadyH.cons rfl (fun K2 hK2 => ?_) AllReadyH.nil
          go_simp
          obtain ⟨ws, hws, hzs, hbs, hss, hcs⟩ := cap_store HZ.out B1 B4 ((B1 : Int) + B7 - 1048576) F10 F11 true
          rw [hws]
          have hBs : Hid (Below w2.heap.size w2 ws) := Lib.hid (hHeld.2.2.1.out.trans (hbs.mono hz2))
          refine hK2.out _ _ ?_ (fun hHeld2 => ?_)
          · exact ⟨(hcs g 10 (by omega)).trans hHeld.1, (hcs g 11 (by omega)).trans hHeld.2.1, hBs, by rw [hss]; exact hHeld.2.2.2⟩
          refine wpAnyH_done (by kernel_rfl) ?_ _
          go_wp2
          go_meet
          exact ⟨z, rfl, by have := HX2.out.1; omega, Lib.hid hzs, Lib.hid (HX2.out.below hBs.out), Lib.hid (thn HB2.out hBs.out)⟩
      case rest =>
        obtain ⟨z, rfl, hzw, HZ, HX, HB⟩ := hcut
        obtain ⟨rw0, hrw⟩ : ∃ rw0 : World, rw0 = wc := ⟨_, rfl⟩
        rw [← hrw] at HZ HX HB ⊢
        clear hrw m10 m11 HT1 HT4 HT7 HR2 HX2 HB2 H3
        have HE : Hid (codeOk f = capOkB B1 B4 ((B1 : Int) + B7 - 1048576) (f 10) (f 11)) := Lib.hid (by rw [HC.out]; unfold get3; rw [HBB.out.1, HBB.out.2.1, HBB.out.2.2])
        have HRes : Hid (ReadPost f w = fun e w' => e = .returned (if codeOk f then .tuple #[.agg #[.int .i64 B1, .int .i64 B4, .int .i64 ((B1 : Int) + B7 - 1048576), .int .i64 (f 10), .int .i64 (f 11), .bool true], .bool true] else .tuple #[.agg #[.int .i64 0, .int .i64 0, .int .i64 0, .int .i64 0, .int .i64 0, .bool false], .bool false]) ∧ Below w.heap.size w w') := Lib.hid (by unfold ReadPost get3; rw [HBB.out.1, HBB.out.2.1, HBB.out.2.2])
        clear HC HBB
        obtain ⟨O, hO⟩ : ∃ O, codeOk f = O := ⟨_, rfl⟩
        have HM : Hid (capMayB B1 B4 ((B1 : Int) + B7 - 1048576) (f 10) (f 11) true = O) := Lib.hid (by rw [← hO, HE.out]; rfl)
        rw [hO] at HRes
        clear hO HE
        generalize (B1 : Int) + B7 - 1048576 = C at *
        generalize f 10 = F10 at *
        generalize f 11 = F11 at *
        obtain ⟨_, k0, k1, k2, k3, k4, k5, kf⟩ := HZ.out
        go_wp2_with fail
        refine (capmay_is _ _ _ _ _ _ _ _ HM.out).mono ?_
        rintro e w5 ⟨rfl, hb5⟩
        have HX5 := Lib.hid (HX.out.below hb5)
        have HZ5 := Lib.hid (HZ.out.below hb5)
        have HB5 := Lib.hid (thn HB.out hb5)
        clear k0 k1 k2 k3 k4 k5 kf HX HZ HB hb5
        obtain ⟨_, k0, k1, k2, k3, k4, k5, kf⟩ := HZ5.out
        obtain ⟨_, j0, j1, j2, j3, j4, j5, jf⟩ := HX5.out
        have jf0 := jf 0 (by omega)
        have jf1 := jf 1 (by omega)
        have jf2 := jf 2 (by omega)
        have jf3 := jf 3 (by omega)
        have jf4 := jf 4 (by omega)
        have jf5 := jf 5 (by omega)
        clear kf jf
        cases O
        · obtain ⟨ws, hws, hzs, hbs, hss, hcs⟩ := cap_store HX5.out 0 0 0 0 0 false
          go_wp2_with fail
          obtain ⟨_, k0, k1, k2, k3, k4, k5, kf⟩ := hzs
          refine bodyPost_ret (v := .tuple #[.agg #[.int .i64 0, .int .i64 0, .int .i64 0, .int .i64 0, .int .i64 0, .bool false], .bool false]) (by simp [results, Tryd.results11, go_sem, k0, k1, k2, k3, k4, k5]) rfl (by rw [HRes.out]; exact ⟨rfl, HB5.out.trans (hbs.mono (Nat.le_refl _))⟩)
        · obtain ⟨ws, hws, hzs, hbs, hss, hcs⟩ := cap_store HX5.out B1 B4 C F10 F11 true
          go_wp2_with fail
          obtain ⟨_, k0, k1, k2, k3, k4, k5, kf⟩ := hzs
          refine bodyPost_ret (v := .tuple #[.agg #[.int .i64 B1, .int .i64 B4, .int .i64 C, .int .i64 F10, .int .i64 F11, .bool true], .bool true]) (by simp [results, Tryd.results11, go_sem, k0, k1, k2, k3, k4, k5]) rfl (by rw [HRes.out]; exact ⟨rfl, HB5.out.trans (hbs.mono (Nat.le_refl _))⟩)
    · have hcd : codeOk f = false := by unfold codeOk; rw [decide_eq_false h1, Bool.and_false]; rfl
      have HCD := Lib.hid hcd
      have hB : ((f 12 : Int) == 0 && (f 13 : Int) == 0 && (f 14 : Int) == 0 && (f 15 : Int) == 0) = false := by
        rw [Bool.eq_false_iff]; intro h; simp at h; omega
      have he := fun w => eq4 (f 12) (f 13) (f 14) (f 15) w
      rw [hB] at he
      rw [h0] at m0
      clear hcd hB h1
      generalize (f 12 : Int) = F12 at *
      generalize (f 13 : Int) = F13 at *
      generalize (f 14 : Int) = F14 at *
      generalize (f 15 : Int) = F15 at *
      go_enter Tryd.func11, Tryd.ntmps11
      go_wp2
      refine bodyPost_ret (v := .tuple #[.agg #[.int .i64 0, .int .i64 0, .int .i64 0, .int .i64 0, .int .i64 0, .bool false], .bool false]) (by simp [results, Tryd.results11, go_sem]) rfl ⟨by rw [HCD.out]; rfl, ?_⟩
      exact alc0 _ _
  · have e0 : ((f 0 : Int) == 197) = false := by simp; omega
    have hcd : codeOk f = false := by simp [codeOk, h0]
    have HCD := Lib.hid hcd
    clear hcd
    have e1 : ¬ (f 0 : Int) = 197 := by omega
    clear m12 m13 m14 m15
    generalize (f 0 : Int) = F0 at *
    go_enter Tryd.func11, Tryd.ntmps11
    go_wp2
    refine bodyPost_ret (v := .tuple #[.agg #[.int .i64 0, .int .i64 0, .int .i64 0, .int .i64 0, .int .i64 0, .bool false], .bool false]) (by simp [results, Tryd.results11, go_sem]) rfl ⟨by rw [HCD.out]; rfl, ?_⟩
    exact alc0 _ _
end Go.Proofs.YtljjcomedjdpaaaDoor
namespace Go.Proofs.YtljjcomedjdpaaaDoor
set_option maxRecDepth 100000
open Go.RowKit
set_option linter.unusedVariables false
set_option linter.unusedSimpArgs false

theorem put3_out {f : Nat → Nat} {o n j y : Nat} (h : ¬ (o ≤ y ∧ y < o + j)) : put3 f o n j y = f y := if_neg h
theorem put3_in {f : Nat → Nat} {o n j y : Nat} (h : o ≤ y ∧ y < o + j) : put3 f o n j y = n / 256 ^ (y - o) % 256 := if_pos h
theorem get_put {f : Nat → Nat} {o n : Nat} (h : n < 16777216) : get3 (put3 f o n 3) o = n := by
  unfold get3
  rw [put3_in (by omega), put3_in (by omega), put3_in (by omega), Nat.sub_self, show o + 1 - o = 1 by omega, show o + 2 - o = 2 by omega]
  simp only [Nat.pow_zero, Nat.pow_one, Nat.div_one, show (256 : Nat) ^ 2 = 65536 from rfl]
  omega
theorem codeF_0 (B L D P T : Nat) : codeF B L D P T 0 = 197 := rfl
theorem codeF_10 (B L D P T : Nat) : codeF B L D P T 10 = P := rfl
theorem codeF_11 (B L D P T : Nat) : codeF B L D P T 11 = T := rfl
theorem codeF_hi (B L D P T y : Nat) (h : 12 ≤ y) : codeF B L D P T y = 0 := by
  unfold codeF codeE codeD codeC codeB codeA
  rw [if_neg (by omega), if_neg (by omega), put3_out (by omega), put3_out (by omega), put3_out (by omega), if_neg (by omega)]
theorem codeF_B (B L D P T y : Nat) (h : 1 ≤ y ∧ y < 4) : codeF B L D P T y = B / 256 ^ (y - 1) % 256 := by
  unfold codeF codeE codeD codeC codeB
  rw [if_neg (by omega), if_neg (by omega), put3_out (by omega), put3_out (by omega), put3_in (by omega)]
theorem codeF_L (B L D P T y : Nat) (h : 4 ≤ y ∧ y < 7) : codeF B L D P T y = L / 256 ^ (y - 4) % 256 := by
  unfold codeF codeE codeD codeC
  rw [if_neg (by omega), if_neg (by omega), put3_out (by omega), put3_in (by omega)]
theorem codeF_D (B L D P T y : Nat) (h : 7 ≤ y ∧ y < 10) : codeF B L D P T y = D / 256 ^ (y - 7) % 256 := by
  unfold codeF codeE codeD
  rw [if_neg (by omega), if_neg (by omega), put3_in (by omega)]
theorem sum3 (n : Nat) (h : n < 16777216) : n / 256 ^ 0 % 256 + 256 * (n / 256 ^ 1 % 256) + 65536 * (n / 256 ^ 2 % 256) = n := by
  simp only [Nat.pow_zero, Nat.pow_one, Nat.div_one, show (256 : Nat) ^ 2 = 65536 from rfl]
  omega
theorem codeF_get (B L D P T : Nat) (hB : B < 16777216) (hL : L < 16777216) (hD : D < 16777216) :
    get3 (codeF B L D P T) 1 = B ∧ get3 (codeF B L D P T) 4 = L ∧ get3 (codeF B L D P T) 7 = D := by
  unfold get3
  refine ⟨?_, ?_, ?_⟩
  · rw [codeF_B _ _ _ _ _ _ (by omega), codeF_B _ _ _ _ _ _ (by omega), codeF_B _ _ _ _ _ _ (by omega)]; exact sum3 B hB
  · rw [codeF_L _ _ _ _ _ _ (by omega), codeF_L _ _ _ _ _ _ (by omega), codeF_L _ _ _ _ _ _ (by omega)]; exact sum3 L hL
  · rw [codeF_D _ _ _ _ _ _ (by omega), codeF_D _ _ _ _ _ _ (by omega), codeF_D _ _ _ _ _ _ (by omega)]; exact sum3 D hD
theorem codeF_lt (B L D P T : Nat) (hP : P < 256) (hT : T < 256) : ∀ i, codeF B L D P T i < 256 := by
  intro i
  by_cases h : 12 ≤ i
  · rw [codeF_hi _ _ _ _ _ _ h]; omega
  · by_cases h1 : 7 ≤ i ∧ i < 10
    · rw [codeF_D _ _ _ _ _ _ h1]; exact Nat.mod_lt _ (by omega)
    · by_cases h2 : 4 ≤ i ∧ i < 7
      · rw [codeF_L _ _ _ _ _ _ h2]; exact Nat.mod_lt _ (by omega)
      · by_cases h3 : 1 ≤ i ∧ i < 4
        · rw [codeF_B _ _ _ _ _ _ h3]; exact Nat.mod_lt _ (by omega)
        · have : i = 0 ∨ i = 10 ∨ i = 11 := by omega
          rcases this with rfl | rfl | rfl
          · rw [codeF_0]; omega
          · rw [codeF_10]; exact hP
          · rw [codeF_11]; exact hT
theorem codeOk_F (B L D P T : Nat) (c : Int) (hB : B < 16777216) (hL : L < 16777216) (hD : D < 16777216) (hc : c - B + 1048576 = D) : codeOk (codeF B L D P T) = capOkB B L c P T := by
  obtain ⟨g1, g2, g3⟩ := codeF_get B L D P T hB hL hD
  unfold codeOk
  rw [g1, g2, g3, codeF_10, codeF_11, codeF_0, codeF_hi _ _ _ _ _ 12 (by omega), codeF_hi _ _ _ _ _ 13 (by omega), codeF_hi _ _ _ _ _ 14 (by omega), codeF_hi _ _ _ _ _ 15 (by omega), show (B : Int) + D - 1048576 = c by omega]
  simp
theorem cread_ok (g cap : Nat) (f : Nat → Nat) (w : World) (H : RowU g 16 w f) (hf : ∀ i, f i < 256) (hcap : 16 ≤ cap) (ok : codeOk f = true) (B L P T : Nat) (C : Int) (e1 : get3 f 1 = B) (e2 : get3 f 4 = L) (e3 : (B : Int) + get3 f 7 - 1048576 = C) (e4 : f 10 = P) (e5 : f 11 = T) :
    Calls Tryd.prog 11 #[.slice (some ⟨g, 0, none⟩) 16 cap] w fun e w' => e = .returned (.tuple #[.agg #[.int .i64 B, .int .i64 L, .int .i64 C, .int .i64 P, .int .i64 T, .bool true], .bool true]) ∧ Below w.heap.size w w' := by
  refine (cread g cap f w H hf hcap).mono fun e w' h => ?_
  unfold ReadPost at h
  rw [ok, if_pos rfl, e1, e2, e3, e4, e5] at h
  exact h
theorem cread_not (g cap : Nat) (f : Nat → Nat) (w : World) (H : RowU g 16 w f) (hf : ∀ i, f i < 256) (hcap : 16 ≤ cap) (ok : codeOk f = false) :
    Calls Tryd.prog 11 #[.slice (some ⟨g, 0, none⟩) 16 cap] w fun e w' => e = .returned (.tuple #[.agg #[.int .i64 0, .int .i64 0, .int .i64 0, .int .i64 0, .int .i64 0, .bool false], .bool false]) ∧ Below w.heap.size w w' := by
  refine (cread g cap f w H hf hcap).mono fun e w' h => ?_
  unfold ReadPost at h
  rw [ok, if_neg (by simp)] at h
  exact h

/-- K bytes f as a string. -/
def strU (f : Nat → Nat) (K : Nat) : ByteArray := strOfNums ((List.range K).map fun i => ((f i : Nat) : Int))
theorem strU_congr {f h : Nat → Nat} {K : Nat} (e : ∀ i, i < K → f i = h i) : strU f K = strU h K := by
  unfold strU
  congr 1
  exact List.map_congr_left fun i hi => by rw [e i (List.mem_range.1 hi)]
theorem conv_row {g K : Nat} {W : World} {f : Nat → Nat} (H : RowU g K W f) (cap : Nat) : (convert 39 9 (.slice (some ⟨g, 0, none⟩) K cap)).run Tryd.prog W = .ok (.string (strU f K)) W := by
  refine run_convert_bytes_arg W 39 5 Tryd.underlying39 Tryd.underlying5 g 0 K cap _ (by simp) (fun i hi => ?_) 9 Tryd.underlying9
  rw [Nat.zero_add, (H.2 i hi).1]
  simp [List.getD, hi]


end Go.Proofs.YtljjcomedjdpaaaDoor

