/- The walk of ChunkTags. -/
import Derived.Test.YtgidnmjeifgciaaDoorChW
import Derived.Deep.AppendLies
import Derived.Deep.QuietTactic
import Derived.BigQuiet
import Derived.Deep.RegionHeld3
import Derived.Deep.DeepCutAuto
namespace Go.Proofs.YtgidnmjeifgciaaDoor
set_option maxRecDepth 100000
open Go.RowKit Go.ChangeMaps Go.MapKept
set_option linter.unusedVariables false
set_option linter.unusedSimpArgs false

theorem ct_in (X : List Int) (r : Nat) (h : ((r : Int) + 1) ∉ X) : mayL X (r + 1) = mayL X r ++ [(r : Int) + 1] := by
  rw [mayL, if_neg h]
theorem ct_out (X : List Int) (r : Nat) (h : ((r : Int) + 1) ∈ X) : mayL X (r + 1) = mayL X r := by
  rw [mayL, if_pos h]
def s8 : MS := { newS 8 with pg := onF (newS 8).pg 0 8, peak := max (newS 8).peak ((cntF (newS 8).pg 1024 : Nat) + 8) }
theorem s8_pg (y : Nat) : s8.pg y = decide (y < 8) := by
  show (false || decide ((0 : Int) ≤ y ∧ (y : Int) < 0 + 8)) = _
  rw [Bool.false_or, decide_eq_decide]; omega
theorem s8_open {a n : Int} (h0 : 0 ≤ a) (h1 : 1 ≤ n) (h2 : a + n ≤ 2048) : openB s8.pg a n = true := by
  unfold openB
  rw [mayB_iff.2 (by omega), Bool.true_and, wholeF_iff]
  exact fun y _ hy => by rw [s8_pg]; exact decide_eq_true (by omega)
/-- The tags: a below 240, had from 256 on, b behind the next header. -/
def tg3 (a b had m : Nat) : Nat → Nat := setF (setF (setF s8.f 0 15 a) 16 m had) (16 + m + 1) 4 b
def s8t (f : Nat → Nat) : MS := { s8 with f := f }
theorem s8t_open (f : Nat → Nat) {a n : Int} (h0 : 0 ≤ a) (h1 : 1 ≤ n) (h2 : a + n ≤ 2048) : openB (s8t f).pg a n = true := s8_open h0 h1 h2
theorem s8_tag (f : Nat → Nat) (x : Nat) (g v : Nat) (hx : x < 2048) (hg : x / 16 = g) (hv : f g = v) : tagI (s8t f) (x : Int) = (v : Int) := by
  unfold tagI
  have ho : openB (s8t f).pg (x : Int) 1 = true := s8_open (by omega) (by decide) (by omega)
  rw [ho, if_pos rfl, show ((x : Int) / 16).toNat = g by omega]
  exact congrArg Int.ofNat hv
theorem s8_tag_no (f : Nat → Nat) (x : Int) (hx : x < 0 ∨ 2048 ≤ x) : tagI (s8t f) x = -1 := by
  unfold tagI
  have ho : openB (s8t f).pg x 1 = false := by
    unfold openB
    by_cases hm : mayB x 1 = true
    · obtain ⟨h1, h2, -, -⟩ := mayB_iff.1 hm
      rw [hm, Bool.true_and, show ((x + 1 - 1) / 256 - x / 256 + 1).toNat = 1 by omega, wholeF, wholeF, Bool.true_and, Nat.add_zero]
      show s8.pg _ = false
      rw [s8_pg]; exact decide_eq_false (by omega)
    · rw [Bool.not_eq_true] at hm
      rw [hm]; rfl
  rw [ho, if_neg (by decide)]
theorem allR_set (f : Nat → Nat) (g n t : Nat) : ∀ k, k ≤ n → allR (setF f g n t) g (t : Int) k = true
  | 0, _ => rfl
  | k + 1, h => by
    rw [allR, allR_set f g n t k (by omega), Bool.true_and]
    unfold setF
    rw [if_pos (by omega)]
    exact decide_eq_true rfl
theorem s8t_f (f : Nat → Nat) : (s8t f).f = f := rfl
theorem s8_f (y : Nat) : s8.f y = 0 := rfl
set_option maxHeartbeats 6400000 in
theorem walkChunkTags (ta tb th n0 n1 d : Int) (w : World) (hd : -9223372036854775808 ≤ d ∧ d ≤ 9223372036854775807) (htz : TzTab w) :
    Calls Tryd.prog 9 #[.agg #[.int .i64 ta, .int .i64 tb, .int .i64 th], .agg #[.int .i64 n0, .int .i64 n1], .int .i64 d] w fun e w' => e = .returned (.bool true) ∧ Below w.heap.size w w' := by
  have TT := Lib.hid htz; clear htz
  have HDB := Lib.hid hd
  clear hd
  obtain ⟨i0, hi, hz0, hz1, hz2⟩ := info_parts infoIntP
  have HINF := Lib.hid (And.intro hi (And.intro hz0 (And.intro hz1 hz2)))
  clear hi hz0 hz1 hz2
  have HA0 : Hid ((fun W : World => W.cell? ⟨w.heap.size, 0, none⟩ = some (.int .i64 ta) ∧ W.cell? ⟨w.heap.size, 1, none⟩ = some (.int .i64 tb) ∧ W.cell? ⟨w.heap.size, 2, none⟩ = some (.int .i64 th) ∧ W.cell? ⟨w.heap.size + 1, 0, none⟩ = some (.int .i64 n0) ∧ W.cell? ⟨w.heap.size + 1, 1, none⟩ = some (.int .i64 n1)) ((w.alloc (.cells #[.int .i64 ta, .int .i64 tb, .int .i64 th] 55)).alloc (.cells #[.int .i64 n0, .int .i64 n1] 81))) := Lib.hid (by simp)
  go_enter Tryd.func9, Tryd.ntmps9
  go_wp2_with fail
  refine (w21awake _ (TT.out.later (alc (alc0 _ _) _))).mono ?_
  rintro e v0 ⟨rfl, hb⟩
  have HB0 := Lib.hid (thn (alc (alc0 w _) _) hb)
  have hz0 : w.heap.size + 1 < v0.heap.size := by have := hb.size; simp at this; omega
  have HL0 := Lib.hid hz0
  obtain ⟨k0, k1, k2, k3, k4⟩ := HA0.out
  have HK : Hid (v0.cell? ⟨w.heap.size, 0, none⟩ = some (.int .i64 ta) ∧ v0.cell? ⟨w.heap.size, 1, none⟩ = some (.int .i64 tb) ∧ v0.cell? ⟨w.heap.size, 2, none⟩ = some (.int .i64 th) ∧ v0.cell? ⟨w.heap.size + 1, 0, none⟩ = some (.int .i64 n0) ∧ v0.cell? ⟨w.heap.size + 1, 1, none⟩ = some (.int .i64 n1)) := Lib.hid ⟨(hb.cell (p := ⟨w.heap.size, 0, none⟩) (by simp; omega)).trans k0, (hb.cell (p := ⟨w.heap.size, 1, none⟩) (by simp; omega)).trans k1, (hb.cell (p := ⟨w.heap.size, 2, none⟩) (by simp; omega)).trans k2, (hb.cell (p := ⟨w.heap.size + 1, 0, none⟩) (by simp)).trans k3, (hb.cell (p := ⟨w.heap.size + 1, 1, none⟩) (by simp)).trans k4⟩
  clear hb k0 k1 k2 k3 k4 HA0 hz0
  go_wp2_with fail
  refine (mnew 8 8 _ (TT.out.later HB0.out) (by decide)).mono ?_
  rintro e v1 ⟨M, col, rfl, hm1, hb1⟩
  have HM1 := Lib.hid hm1
  have HB1 := Lib.hid hb1
  clear hm1 hb1
  have K1 := Lib.hid (mmap_free 0 8 HM1.out (by decide) (fun y _ _ => rfl))
  go_wp2_with fail
  refine K1.out.mono ?_
  rintro e v2 (⟨h, _⟩ | ⟨-, rfl, hs2, -⟩)
  · exfalso
    have : cntF (newS 8).pg 1024 = 0 := cntF_zero9 1024
    rw [this] at h
    revert h
    decide
  obtain ⟨col2, hm2, -, -, hb2⟩ := hs2
  have HB2 : Hid (Below v0.heap.size v0 v2) := Lib.hid (HB1.out.trans hb2)
  have HM2 : Hid (MEM v0.heap.size col2 M v2 s8) := Lib.hid hm2
  clear hb2 hm2 K1 HM1 HB1
  go_upto_region 6 with (fail)
  have HC0 := Lib.hid (ChAt.new v2 M 1 85)
  have HM3 := Lib.hid (HM2.out.later (alc0 v2 (.cells #[.pointer (some ⟨M, 0, none⟩), .int .u64 1] 85)))
  have HB3 := Lib.hid (HB2.out.trans ((alc0 v2 (.cells #[.pointer (some ⟨M, 0, none⟩), .int .u64 1] 85)).mono HM2.out.size))
  have HX0 : Hid (col2 v2.heap.size = 0) := Lib.hid (HM2.out.old (Nat.le_refl _))
  clear HM2 HB2
  generalize hx : v2.heap.size = x at *
  generalize hW : World.alloc v2 _ = v3 at *
  clear hW hx
  have HK3 : Hid (v3.cell? ⟨w.heap.size, 0, none⟩ = some (.int .i64 ta) ∧ v3.cell? ⟨w.heap.size, 1, none⟩ = some (.int .i64 tb) ∧ v3.cell? ⟨w.heap.size, 2, none⟩ = some (.int .i64 th) ∧ v3.cell? ⟨w.heap.size + 1, 0, none⟩ = some (.int .i64 n0) ∧ v3.cell? ⟨w.heap.size + 1, 1, none⟩ = some (.int .i64 n1)) := Lib.hid (by
    have hl := HL0.out
    obtain ⟨k0, k1, k2, k3, k4⟩ := HK.out
    exact ⟨(HB3.out.cell (p := ⟨w.heap.size, 0, none⟩) (by show w.heap.size < _; omega)).trans k0, (HB3.out.cell (p := ⟨w.heap.size, 1, none⟩) (by show w.heap.size < _; omega)).trans k1, (HB3.out.cell (p := ⟨w.heap.size, 2, none⟩) (by show w.heap.size < _; omega)).trans k2, (HB3.out.cell (p := ⟨w.heap.size + 1, 0, none⟩) hl).trans k3, (HB3.out.cell (p := ⟨w.heap.size + 1, 1, none⟩) hl).trans k4⟩)
  clear HK
  have e1 := and511 n0
  obtain ⟨s0, hs0⟩ : ∃ s0 : Nat, n0 % 512 = s0 := ⟨(n0 % 512).toNat, by omega⟩
  have hs9 : s0 < 512 := by omega
  rw [hs0] at e1
  obtain ⟨sz, hsz⟩ : ∃ z : Nat, s0 + 1 = z := ⟨_, rfl⟩
  have ws : IntKind.i64.wrap ((s0 : Int) + 1) = (sz : Int) := by rw [IntWalk.i64_in _ (by omega)]; omega
  have ws2 : (s0 : Int) + 1 = (sz : Int) := by omega
  have hz1 : 1 ≤ sz := by omega
  have hz9 : sz ≤ 512 := by omega
  clear hs0 hsz hs9
  have HTAKE := Lib.hid (fun (w' : World) (h : (w'.cell? ⟨w.heap.size, 0, none⟩ = some (.int .i64 ta) ∧ w'.cell? ⟨w.heap.size, 1, none⟩ = some (.int .i64 tb) ∧ w'.cell? ⟨w.heap.size, 2, none⟩ = some (.int .i64 th) ∧ w'.cell? ⟨w.heap.size + 1, 0, none⟩ = some (.int .i64 n0) ∧ w'.cell? ⟨w.heap.size + 1, 1, none⟩ = some (.int .i64 n1))) => h)
  refine wp_region_held_drew (S := fun w' => (w'.cell? ⟨w.heap.size, 0, none⟩ = some (.int .i64 ta) ∧ w'.cell? ⟨w.heap.size, 1, none⟩ = some (.int .i64 tb) ∧ w'.cell? ⟨w.heap.size, 2, none⟩ = some (.int .i64 th) ∧ w'.cell? ⟨w.heap.size + 1, 0, none⟩ = some (.int .i64 n0) ∧ w'.cell? ⟨w.heap.size + 1, 1, none⟩ = some (.int .i64 n1))) (by kernel_rfl) ?_ (fun hHeld => ?_)
  · exact HK3.out
  refine wpAnyH_take (i := 0) (v := ?_) rfl (by kernel_rfl) (by kernel_rfl) (by kernel_rfl) (fun _ _ _ h => h) (Or.inl ⟨by kernel_rfl, ?_⟩) (by assumption) ?_
  rotate_left
  · (intro w hSw; (try dsimp only at hSw); (try have hTk := Hid.out HTAKE _ hSw); go_simp)
    try (with_reducible rfl)
  rotate_left
  try simp (maxSteps := 4000000) only [Act.put, List.setIfInBounds_toArray, List.set_cons_zero, List.set_cons_succ, List.getElem_toArray, List.getElem_cons_zero, List.getElem_cons_succ]
  refine wpAnyH_take (i := 1) (v := ?_) rfl (by kernel_rfl) (by kernel_rfl) (by kernel_rfl) (fun _ _ _ h => h) (Or.inl ⟨by kernel_rfl, ?_⟩) (by assumption) ?_
  rotate_left
  · (intro w hSw; (try dsimp only at hSw); (try have hTk := Hid.out HTAKE _ hSw); go_simp)
    try (with_reducible rfl)
  rotate_left
  try simp (maxSteps := 4000000) only [Act.put, List.setIfInBounds_toArray, List.set_cons_zero, List.set_cons_succ, List.getElem_toArray, List.getElem_cons_zero, List.getElem_cons_succ]
  refine wpAnyH_take (i := 2) (v := ?_) rfl (by kernel_rfl) (by kernel_rfl) (by kernel_rfl) (fun _ _ _ h => h) (Or.inl ⟨by kernel_rfl, ?_⟩) (by assumption) ?_
  rotate_left
  · (intro w hSw; (try dsimp only at hSw); (try have hTk := Hid.out HTAKE _ hSw); go_simp)
    try (with_reducible rfl)
  rotate_left
  try simp (maxSteps := 4000000) only [Act.put, List.setIfInBounds_toArray, List.set_cons_zero, List.set_cons_succ, List.getElem_toArray, List.getElem_cons_zero, List.getElem_cons_succ]
  refine wpAnyH_take (i := 3) (v := ?_) rfl (by kernel_rfl) (by kernel_rfl) (by kernel_rfl) (fun _ _ _ h => h) (Or.inl ⟨by kernel_rfl, ?_⟩) (by assumption) ?_
  rotate_left
  · (intro w hSw; (try dsimp only at hSw); (try have hTk := Hid.out HTAKE _ hSw); go_simp)
    try (with_reducible rfl)
  rotate_left
  try simp (maxSteps := 4000000) only [Act.put, List.setIfInBounds_toArray, List.set_cons_zero, List.set_cons_succ, List.getElem_toArray, List.getElem_cons_zero, List.getElem_cons_succ]
  refine wpAnyH_take (i := 4) (v := ?_) rfl (by kernel_rfl) (by kernel_rfl) (by kernel_rfl) (fun _ _ _ h => h) (Or.inl ⟨by kernel_rfl, ?_⟩) (by assumption) ?_
  rotate_left
  · (intro w hSw; (try dsimp only at hSw); (try have hTk := Hid.out HTAKE _ hSw); go_simp)
    try (with_reducible rfl)
  rotate_left
  try simp (maxSteps := 4000000) only [Act.put, List.setIfInBounds_toArray, List.set_cons_zero, List.set_cons_succ, List.getElem_toArray, List.getElem_cons_zero, List.getElem_cons_succ]
  refine wpAnyH_take (i := 5) (v := ?_) rfl (by kernel_rfl) (by kernel_rfl) (by kernel_rfl) (fun _ _ _ h => h) (Or.inl ⟨by kernel_rfl, ?_⟩) (by assumption) ?_
  rotate_left
  · (intro w hSw; (try dsimp only at hSw); (try have hTk := Hid.out HTAKE _ hSw); go_simp)
    try (with_reducible rfl)
  rotate_left
  try simp (maxSteps := 4000000) only [Act.put, List.setIfInBounds_toArray, List.set_cons_zero, List.set_cons_succ, List.getElem_toArray, List.getElem_cons_zero, List.getElem_cons_succ]
  refine wpAnyH_done (by kernel_rfl) ?_ _
  clear hHeld e1
  have HM4 := Lib.hid (HM3.out.later (Below.refl _ _).drew)
  have HB4 := Lib.hid HB3.out.drew
  have HC4 := Lib.hid (HC0.out.below (Below.refl _ _).drew)
  have HK4 : Hid (v3.drew.cell? ⟨w.heap.size, 0, none⟩ = some (.int .i64 ta) ∧ v3.drew.cell? ⟨w.heap.size, 1, none⟩ = some (.int .i64 tb) ∧ v3.drew.cell? ⟨w.heap.size, 2, none⟩ = some (.int .i64 th) ∧ v3.drew.cell? ⟨w.heap.size + 1, 0, none⟩ = some (.int .i64 n0) ∧ v3.drew.cell? ⟨w.heap.size + 1, 1, none⟩ = some (.int .i64 n1)) := Lib.hid HK3.out
  clear HM3 HB3 HC0 HK3
  generalize hW : v3.drew = v4 at *
  clear hW HTAKE ws ws2
  obtain ⟨m, hm⟩ : ∃ m : Nat, (sz + 15) / 16 = m := ⟨_, rfl⟩
  have hm1 : 1 ≤ m := by omega
  have hm2 : m ≤ 32 := by omega
  have HMS := Lib.hid (And.intro hm (And.intro hz1 hz9))
  obtain ⟨u, hu⟩ : ∃ u : Nat, m * 16 = u := ⟨_, rfl⟩
  have hmu : (m : Int) * 16 = (u : Int) := by omega
  have hu9 : u ≤ 512 := by omega
  have hu1 : 16 ≤ u := by omega
  have HU := Lib.hid hu
  clear hu
  have b0 : (0 : Int) ≤ (sz : Int) + 15 := by omega
  have b1 : (sz : Int) ≤ 512 := by omega
  have wm : ((sz : Int) + 15).tdiv 16 = (m : Int) := by rw [Int.tdiv_eq_ediv_of_nonneg b0]; omega
  have wm2 : ((sz : Int) + 15) / 16 = (m : Int) := by omega
  go_upto_region 8 with (fail)
  have a1 := and15 ta
  have a2 := and15 tb
  have a3 := and15 th
  obtain ⟨a, ha⟩ : ∃ a : Nat, ta % 16 = a := ⟨(ta % 16).toNat, by omega⟩
  obtain ⟨b, hb⟩ : ∃ b : Nat, tb % 16 = b := ⟨(tb % 16).toNat, by omega⟩
  obtain ⟨had, hh⟩ : ∃ h : Nat, th % 16 = h := ⟨(th % 16).toNat, by omega⟩
  have HT16 : Hid (a < 16 ∧ b < 16 ∧ had < 16) := Lib.hid (by omega)
  rw [ha] at a1
  rw [hb] at a2
  rw [hh] at a3
  clear ha hb hh hm
  have HTAKE := Lib.hid (fun (w' : World) (h : (w'.cell? ⟨w.heap.size, 0, none⟩ = some (.int .i64 ta) ∧ w'.cell? ⟨w.heap.size, 1, none⟩ = some (.int .i64 tb) ∧ w'.cell? ⟨w.heap.size, 2, none⟩ = some (.int .i64 th) ∧ w'.cell? ⟨w.heap.size + 1, 0, none⟩ = some (.int .i64 n0) ∧ w'.cell? ⟨w.heap.size + 1, 1, none⟩ = some (.int .i64 n1))) => h)
  refine wp_region_held_drew (S := fun w' => (w'.cell? ⟨w.heap.size, 0, none⟩ = some (.int .i64 ta) ∧ w'.cell? ⟨w.heap.size, 1, none⟩ = some (.int .i64 tb) ∧ w'.cell? ⟨w.heap.size, 2, none⟩ = some (.int .i64 th) ∧ w'.cell? ⟨w.heap.size + 1, 0, none⟩ = some (.int .i64 n0) ∧ w'.cell? ⟨w.heap.size + 1, 1, none⟩ = some (.int .i64 n1))) (by kernel_rfl) ?_ (fun hHeld => ?_)
  · exact HK4.out
  refine wpAnyH_take (i := 0) (v := ?_) rfl (by kernel_rfl) (by kernel_rfl) (by kernel_rfl) (fun _ _ _ h => h) (Or.inl ⟨by kernel_rfl, ?_⟩) (by assumption) ?_
  rotate_left
  · (intro w hSw; (try dsimp only at hSw); (try have hTk := Hid.out HTAKE _ hSw); go_simp)
    try (with_reducible rfl)
  rotate_left
  try simp (maxSteps := 4000000) only [Act.put, List.setIfInBounds_toArray, List.set_cons_zero, List.set_cons_succ, List.getElem_toArray, List.getElem_cons_zero, List.getElem_cons_succ]
  refine wpAnyH_take (i := 1) (v := ?_) rfl (by kernel_rfl) (by kernel_rfl) (by kernel_rfl) (fun _ _ _ h => h) (Or.inl ⟨by kernel_rfl, ?_⟩) (by assumption) ?_
  rotate_left
  · (intro w hSw; (try dsimp only at hSw); (try have hTk := Hid.out HTAKE _ hSw); go_simp)
    try (with_reducible rfl)
  rotate_left
  try simp (maxSteps := 4000000) only [Act.put, List.setIfInBounds_toArray, List.set_cons_zero, List.set_cons_succ, List.getElem_toArray, List.getElem_cons_zero, List.getElem_cons_succ]
  refine wpAnyH_take (i := 2) (v := ?_) rfl (by kernel_rfl) (by kernel_rfl) (by kernel_rfl) (fun _ _ _ h => h) (Or.inl ⟨by kernel_rfl, ?_⟩) (by assumption) ?_
  rotate_left
  · (intro w hSw; (try dsimp only at hSw); (try have hTk := Hid.out HTAKE _ hSw); go_simp)
    try (with_reducible rfl)
  rotate_left
  try simp (maxSteps := 4000000) only [Act.put, List.setIfInBounds_toArray, List.set_cons_zero, List.set_cons_succ, List.getElem_toArray, List.getElem_cons_zero, List.getElem_cons_succ]
  refine wpAnyH_take (i := 3) (v := ?_) rfl (by kernel_rfl) (by kernel_rfl) (by kernel_rfl) (fun _ _ _ h => h) (Or.inl ⟨by kernel_rfl, ?_⟩) (by assumption) ?_
  rotate_left
  · (intro w hSw; (try dsimp only at hSw); (try have hTk := Hid.out HTAKE _ hSw); go_simp)
    try (with_reducible rfl)
  rotate_left
  try simp (maxSteps := 4000000) only [Act.put, List.setIfInBounds_toArray, List.set_cons_zero, List.set_cons_succ, List.getElem_toArray, List.getElem_cons_zero, List.getElem_cons_succ]
  refine wpAnyH_take (i := 4) (v := ?_) rfl (by kernel_rfl) (by kernel_rfl) (by kernel_rfl) (fun _ _ _ h => h) (Or.inl ⟨by kernel_rfl, ?_⟩) (by assumption) ?_
  rotate_left
  · (intro w hSw; (try dsimp only at hSw); (try have hTk := Hid.out HTAKE _ hSw); go_simp)
    try (with_reducible rfl)
  rotate_left
  try simp (maxSteps := 4000000) only [Act.put, List.setIfInBounds_toArray, List.set_cons_zero, List.set_cons_succ, List.getElem_toArray, List.getElem_cons_zero, List.getElem_cons_succ]
  refine wpAnyH_take (i := 5) (v := ?_) rfl (by kernel_rfl) (by kernel_rfl) (by kernel_rfl) (fun _ _ _ h => h) (Or.inl ⟨by kernel_rfl, ?_⟩) (by assumption) ?_
  rotate_left
  · (intro w hSw; (try dsimp only at hSw); (try have hTk := Hid.out HTAKE _ hSw); go_simp)
    try (with_reducible rfl)
  rotate_left
  try simp (maxSteps := 4000000) only [Act.put, List.setIfInBounds_toArray, List.set_cons_zero, List.set_cons_succ, List.getElem_toArray, List.getElem_cons_zero, List.getElem_cons_succ]
  refine wpAnyH_take (i := 6) (v := ?_) rfl (by kernel_rfl) (by kernel_rfl) (by kernel_rfl) (fun _ _ _ h => h) (Or.inl ⟨by kernel_rfl, ?_⟩) (by assumption) ?_
  rotate_left
  · (intro w hSw; (try dsimp only at hSw); (try have hTk := Hid.out HTAKE _ hSw); go_simp)
    try (with_reducible rfl)
  rotate_left
  try simp (maxSteps := 4000000) only [Act.put, List.setIfInBounds_toArray, List.set_cons_zero, List.set_cons_succ, List.getElem_toArray, List.getElem_cons_zero, List.getElem_cons_succ]
  refine wpAnyH_take (i := 7) (v := ?_) rfl (by kernel_rfl) (by kernel_rfl) (by kernel_rfl) (fun _ _ _ h => h) (Or.inl ⟨by kernel_rfl, ?_⟩) (by assumption) ?_
  rotate_left
  · (intro w hSw; (try dsimp only at hSw); (try have hTk := Hid.out HTAKE _ hSw); go_simp)
    try (with_reducible rfl)
  rotate_left
  try simp (maxSteps := 4000000) only [Act.put, List.setIfInBounds_toArray, List.set_cons_zero, List.set_cons_succ, List.getElem_toArray, List.getElem_cons_zero, List.getElem_cons_succ]
  refine wpAnyH_take (i := 8) (v := ?_) rfl (by kernel_rfl) (by kernel_rfl) (by kernel_rfl) (fun _ _ _ h => h) (Or.inl ⟨by kernel_rfl, ?_⟩) (by assumption) ?_
  rotate_left
  · (intro w hSw; (try dsimp only at hSw); (try have hTk := Hid.out HTAKE _ hSw); go_simp)
    try (with_reducible rfl)
  rotate_left
  try simp (maxSteps := 4000000) only [Act.put, List.setIfInBounds_toArray, List.set_cons_zero, List.set_cons_succ, List.getElem_toArray, List.getElem_cons_zero, List.getElem_cons_succ]
  refine wpAnyH_take (i := 9) (v := ?_) rfl (by kernel_rfl) (by kernel_rfl) (by kernel_rfl) (fun _ _ _ h => h) (Or.inl ⟨by kernel_rfl, ?_⟩) (by assumption) ?_
  rotate_left
  · (intro w hSw; (try dsimp only at hSw); (try have hTk := Hid.out HTAKE _ hSw); go_simp)
    try (with_reducible rfl)
  rotate_left
  try simp (maxSteps := 4000000) only [Act.put, List.setIfInBounds_toArray, List.set_cons_zero, List.set_cons_succ, List.getElem_toArray, List.getElem_cons_zero, List.getElem_cons_succ]
  refine wpAnyH_take (i := 10) (v := ?_) rfl (by kernel_rfl) (by kernel_rfl) (by kernel_rfl) (fun _ _ _ h => h) (Or.inl ⟨by kernel_rfl, ?_⟩) (by assumption) ?_
  rotate_left
  · (intro w hSw; (try dsimp only at hSw); (try have hTk := Hid.out HTAKE _ hSw); go_simp)
    try (with_reducible rfl)
  rotate_left
  try simp (maxSteps := 4000000) only [Act.put, List.setIfInBounds_toArray, List.set_cons_zero, List.set_cons_succ, List.getElem_toArray, List.getElem_cons_zero, List.getElem_cons_succ]
  refine wpAnyH_take (i := 11) (v := ?_) rfl (by kernel_rfl) (by kernel_rfl) (by kernel_rfl) (fun _ _ _ h => h) (Or.inl ⟨by kernel_rfl, ?_⟩) (by assumption) ?_
  rotate_left
  · (intro w hSw; (try dsimp only at hSw); (try have hTk := Hid.out HTAKE _ hSw); go_simp)
    try (with_reducible rfl)
  rotate_left
  try simp (maxSteps := 4000000) only [Act.put, List.setIfInBounds_toArray, List.set_cons_zero, List.set_cons_succ, List.getElem_toArray, List.getElem_cons_zero, List.getElem_cons_succ]
  refine wpAnyH_done (by kernel_rfl) ?_ _
  clear hHeld a1 a2 a3 HTAKE HK4
  have HM5 := Lib.hid (HM4.out.later (Below.refl _ _).drew)
  have HB5 := Lib.hid HB4.out.drew
  have HC5 := Lib.hid (HC4.out.below (Below.refl _ _).drew)
  clear HM4 HB4 HC4
  generalize hW : v4.drew = v5 at *
  clear hW
  clear b0 b1 wm wm2
  have hg0 : grF 0 = 0 ∧ grN 0 240 = 15 := by decide
  have hg1 : grF (256 : Int) = 16 ∧ grN (256 : Int) (u : Int) = m := by have := HU.out; unfold grF grN; omega
  have hg2 : grF (256 + (u : Int) + 16) = 16 + m + 1 ∧ grN (256 + (u : Int) + 16) 64 = 4 := by have := HU.out; unfold grF grN; omega
  have HG := Lib.hid (And.intro hg0 (And.intro hg1 hg2))
  clear hg0 hg1 hg2
  go_wp2_with fail
  refine (msettag_ok 0 240 a HM5.out HT16.out.1 (s8_open (by decide) (by decide) (by decide))).mono ?_
  rintro e v6 ⟨rfl, col6, hm6, hc6, ho6, hb6⟩
  have HC6 := Lib.hid (HC5.out.keep hb6.size (ho6 _ HC5.out.1 (by rw [HX0.out]; decide)))
  have HX6 : Hid (col6 x = 0) := Lib.hid ((hc6 _ HC5.out.1).trans HX0.out)
  have HM6 := Lib.hid hm6
  have HB6 := Lib.hid (HB5.out.trans hb6)
  clear hm6 hc6 ho6 hb6
  go_wp2_with fail
  with_reducible refine Calls.mono (msettag_ok 256 (u : Int) had HM6.out HT16.out.2.2 (s8_open (by decide) (by omega) (by omega))) ?_
  rintro e v7 ⟨rfl, col7, hm7, hc7, ho7, hb7⟩
  have HC7 := Lib.hid (HC6.out.keep hb7.size (ho7 _ HC6.out.1 (by rw [HX6.out]; decide)))
  have HX7 : Hid (col7 x = 0) := Lib.hid ((hc7 _ HC6.out.1).trans HX6.out)
  have HM7 := Lib.hid hm7
  have HB7 := Lib.hid (HB6.out.trans hb7)
  clear hm7 hc7 ho7 hb7
  go_wp2_with fail
  with_reducible refine Calls.mono (msettag_ok (256 + (u : Int) + 16) 64 b HM7.out HT16.out.2.1 (s8_open (by omega) (by decide) (by omega))) ?_
  rintro e v8 ⟨rfl, col8, hm8, hc8, ho8, hb8⟩
  have HC8 := Lib.hid (HC7.out.keep hb8.size (ho8 _ HC7.out.1 (by rw [HX7.out]; decide)))
  have HX8 : Hid (col8 x = 0) := Lib.hid ((hc8 _ HC7.out.1).trans HX7.out)
  have hm8' : MEM v0.heap.size col8 M v8 (s8t (setF (setF (setF s8.f (grF 0) (grN 0 240) a) (grF 256) (grN 256 (u : Int)) had) (grF (256 + (u : Int) + 16)) (grN (256 + (u : Int) + 16) 64) b)) := hm8
  rw [HG.out.1.1, HG.out.1.2, HG.out.2.1.1, HG.out.2.1.2, HG.out.2.2.1, HG.out.2.2.2] at hm8'
  have HM8 : Hid (MEM v0.heap.size col8 M v8 (s8t (tg3 a b had m))) := Lib.hid hm8'
  have HB8 := Lib.hid (HB7.out.trans hb8)
  clear hm8 hm8' hc8 ho8 hb8 HM5 HM6 HM7 HC5 HC6 HC7 HB5 HB6 HB7 HX0 HX6 HX7
  obtain ⟨-, c0, c1⟩ := HC8.out
  have HU2 : Hid ((sz + 15) / 16 * 16 = u) := Lib.hid (by have := HU.out; have := HMS.out.1; omega)
  have HBS : Hid (∀ col' w', MEM v0.heap.size col' M w' (s8t (tg3 a b had m)) → Calls Tryd.prog 48 #[.agg #[.pointer (some ⟨M, 0, none⟩), .int .u64 1], .int .i64 ((256 : Nat) : Int), .int .i64 (sz : Int)] w' fun e w'' => e = .returned (.tuple #[.int .i64 (a : Int), .int .i64 (b : Int)]) ∧ Below w'.heap.size w' w'') := Lib.hid (fun col' w' hM => by
    have hu := HU.out
    have hl := HMS.out.1
    have h1 : tagI (s8t (tg3 a b had m)) (((256 : Nat) : Int) - 32) = (a : Int) := s8_tag _ 224 14 a (by decide) (by decide) (by unfold tg3 setF; rw [if_neg (by omega), if_neg (by omega), if_pos (by omega)])
    have h2 : tagI (s8t (tg3 a b had m)) (((256 : Nat) : Int) + u + 16) = (b : Int) := by
      have := s8_tag (tg3 a b had m) (256 + u + 16) (16 + m + 1) b (by omega) (by omega) (by unfold tg3 setF; rw [if_pos (by omega)])
      rwa [show ((256 + u + 16 : Nat) : Int) = ((256 : Nat) : Int) + u + 16 by omega] at this
    exact chbeside 1 ((256 : Nat) : Int) sz u a b a b (by decide) (by decide) (by omega) HU2.out hM h1 h2 (by omega) (by omega))
  go_wp2_with fail
  refine (HBS.out _ _ HM8.out).mono ?_
  rintro e v9 ⟨rfl, hb9⟩
  have HM9 := Lib.hid (HM8.out.later hb9)
  have HC9 := Lib.hid (HC8.out.below hb9)
  have HB9 := Lib.hid (HB8.out.trans (hb9.mono HM8.out.size))
  clear hb9 c0 c1 HC8 HM8 HB8
  obtain ⟨-, c0, c1⟩ := HC9.out
  obtain ⟨t, ht⟩ : ∃ t : Nat, ofP d [(had : Int), (a : Int), (b : Int)] = t := ⟨(ofP d [(had : Int), (a : Int), (b : Int)]).toNat, by have := ofP_three d had a b; omega⟩
  have HOF := Lib.hid ht
  clear ht
  go_wp2_with fail
  with_reducible refine Calls.mono (chretag 1 (had : Int) d (a : Int) (b : Int) 256 sz t HM9.out (s8t_open (tg3 a b had m) (by decide) (by have := HMS.out; omega) (by have := HMS.out; omega)) HDB.out (fun w' hM => HBS.out _ w' hM) HOF.out) ?_
  rintro e v10 ⟨rfl, col10, hm10, hc10, ho10, hb10⟩
  have HC10 := Lib.hid (HC9.out.keep hb10.size (ho10 _ HC9.out.1 (by rw [HX8.out]; decide)))
  have hm10' : MEM v0.heap.size col10 M v10 (s8t (setF (tg3 a b had m) (grF ((256 : Nat) : Int)) (grN ((256 : Nat) : Int) (sz : Int)) t)) := hm10
  rw [show grF ((256 : Nat) : Int) = 16 by decide, show grN ((256 : Nat) : Int) (sz : Int) = m by have := HMS.out.1; unfold grN; omega] at hm10'
  have HM10 := Lib.hid hm10'
  have HB10 := Lib.hid (HB9.out.trans hb10)
  clear hm10 hm10' hc10 ho10 hb10 c0 c1 HC9 HM9 HB9 HX8 HBS
  obtain ⟨X, hX⟩ : ∃ X : List Int, [(had : Int), (a : Int), (b : Int)] = X := ⟨_, rfl⟩
  have HNE : Hid (mayL X 15 ≠ []) := Lib.hid (by rw [← hX]; exact mayL_three _ _ _)
  have HIN : Hid (∀ z : Int, z ∈ X ↔ z = had ∨ z = a ∨ z = b) := Lib.hid (fun z => by rw [← hX]; simp)
  have HOX : Hid (ofP d X = t) := Lib.hid (by rw [← hX]; exact HOF.out)
  clear hX HOF
  obtain ⟨hi, hz0, hz1, hz2⟩ := HINF.out
  go_wp2_with fail
  go_loopw [19, 20] (fun v tt wr => ∃ r : Nat, r ≤ 15 ∧ tt = .int .i64 ((r : Int) + 1) ∧ wr.ownsRow v10.heap.size 3 1 v (mayL X r).length ((mayL X r).map (Value.int .i64)) ∧ Below v10.heap.size v10 wr) (fun _ tt _ => 16 - (intOf tt).toNat)
  case atStart => exact ⟨0, by omega, rfl, World.ownsRow_made v10 #[] 0 (Nat.le_refl _) (by unfold maxLen; omega) (by simp [mayL]), alc0 _ _⟩
  case round =>
    obtain ⟨r, hr, rfl, hown, hbel⟩ := hrel
    have hbs := hbel.size
    have hrl := mayL_le X r
    by_cases hlt : r < 15
    · have l1 : (r : Int) + 1 ≤ 15 := by omega
      by_cases ea : (r : Int) + 1 = (a : Int)
      · have HN := Lib.hid (ct_out X r ((HIN.out _).2 (Or.inr (Or.inl ea))))
        have ea2 : (((r : Int) + 1) == (a : Int)) = true := beq_iff_eq.2 ea
        have ea3 : (((r : Int) + 1) != (a : Int)) = false := by rw [bne, ea2]; rfl
        have ea4 := eq_true ea
        clear ea
        go_wp2_with fail
        go_roundw
        case rel => exact ⟨r + 1, by omega, by go_num, by rw [HN.out]; exact hown, hbel⟩
        case measure => simp [intOf]; omega
      · have ea5 : (((r : Int) + 1) == (a : Int)) = false := beq_eq_false_iff_ne.2 ea
        have ea6 : (((r : Int) + 1) != (a : Int)) = true := by rw [bne, ea5]; rfl
        by_cases eb : (r : Int) + 1 = (b : Int)
        · have HN := Lib.hid (ct_out X r ((HIN.out _).2 (Or.inr (Or.inr eb))))
          have eb2 : (((r : Int) + 1) == (b : Int)) = true := beq_iff_eq.2 eb
          have eb3 : (((r : Int) + 1) != (b : Int)) = false := by rw [bne, eb2]; rfl
          have eb4 := eq_true eb
          clear eb
          go_wp2_with fail
          go_roundw
          case rel => exact ⟨r + 1, by omega, by go_num, by rw [HN.out]; exact hown, hbel⟩
          case measure => simp [intOf]; omega
        · have eb5 : (((r : Int) + 1) == (b : Int)) = false := beq_eq_false_iff_ne.2 eb
          have eb6 : (((r : Int) + 1) != (b : Int)) = true := by rw [bne, eb5]; rfl
          by_cases eh : (r : Int) + 1 = (had : Int)
          · have HN := Lib.hid (ct_out X r ((HIN.out _).2 (Or.inl eh)))
            have eh2 : (((r : Int) + 1) == (had : Int)) = true := beq_iff_eq.2 eh
            have eh3 : (((r : Int) + 1) != (had : Int)) = false := by rw [bne, eh2]; rfl
            have eh4 := eq_true eh
            clear eh
            go_wp2_with fail
            go_roundw
            case rel => exact ⟨r + 1, by omega, by go_num, by rw [HN.out]; exact hown, hbel⟩
            case measure => simp [intOf]; omega
          · have eh5 : (((r : Int) + 1) == (had : Int)) = false := beq_eq_false_iff_ne.2 eh
            have eh6 : (((r : Int) + 1) != (had : Int)) = true := by rw [bne, eh5]; rfl
            have HN := Lib.hid (ct_in X r (fun h => by rcases (HIN.out _).1 h with h | h | h <;> contradiction))
            go_wp2_with (at_builtin; refine wpList_append_own _ rfl _ _ 54 rfl v10.heap.size 3 i0 (.int .i64 0) 1 8 Tryd.underlying54 hi hz0 hz1 hz2 rfl (by decide) _ _ _ rfl (hown.alloc _) ⟨wr.heap.size, 0, none⟩ 1 1 [.int .i64 ((r : Int) + 1)] rfl rfl ?c1 ?c2 ?c3 ?c4 ?c5 ?_)
            case c1 => exact cell_one_new _ _ _
            case c2 => simp [Value.oneCell']
            case c3 => unfold maxLen; omega
            case c4 => omega
            case c5 => simp; omega
            intro v' w2 hown1 hgrow _
            have hb1 : Below v10.heap.size v10 w2 := (hbel.alloc hbs _).grown hgrow (by simp; omega) (fun j hj => (hown.lt j hj).1)
            clear hgrow hown
            go_wp2_with fail
            go_roundw
            case rel => exact ⟨r + 1, by omega, by go_num, by rw [HN.out]; simpa using hown1, hb1⟩
            case measure => simp [intOf]; omega
    · obtain rfl : r = 15 := by omega
      obtain ⟨v11, rfl⟩ : ∃ W : World, W = wr := ⟨_, rfl⟩
      obtain ⟨al, cap, rfl, hx⟩ := pk_ints_of_row hown
      have HX := Lib.hid hx
      have HM11 := Lib.hid (HM10.out.later hbel)
      have HC11 := Lib.hid (HC10.out.below hbel)
      have HB11 := Lib.hid (HB10.out.trans (hbel.mono HM10.out.size))
      have hof : ofP d X = if mayL X 15 = [] then 0 else (mayL X 15).getD (d % ((mayL X 15).length : Int)).toNat 0 := rfl
      rw [if_neg HNE.out, HOX.out] at hof
      have hne := HNE.out
      clear hx hown hbel HM10 HC10 HB10 HNE HOX HIN
      generalize mayL X 15 = l at *
      obtain ⟨_, hin⟩ := HX.out
      have hn1 : 0 < l.length := List.length_pos_iff.2 hne
      rcases hin with h0 | ⟨bk, off, rfl, hbk, _, hc⟩
      · omega
      clear hne
      obtain ⟨q, k, hq, hk, k0, k1, hqk⟩ := tmod_cases d (l.length : Int) (by omega)
      have hck := hc k.toNat (by omega)
      rw [hk] at hof
      rw [← hof] at hck
      have hn0 : ¬ (l.length : Int) = 0 := by omega
      have hrl2 : (l.length : Int) ≤ 15 := by omega
      have HK2 : Hid (v11.cell? ⟨bk, off + k.toNat, none⟩ = some (.int .i64 (t : Int))) := Lib.hid hck
      have HBK := Lib.hid hbk
      clear hc hof hk hck hbk
      have HBS : Hid (∀ col' w', MEM v0.heap.size col' M w' (s8t (setF (tg3 a b had m) 16 m t)) → Calls Tryd.prog 48 #[.agg #[.pointer (some ⟨M, 0, none⟩), .int .u64 1], .int .i64 16, .int .i64 2032] w' fun e w'' => e = .returned (.tuple #[.int .i64 0, .int .i64 0]) ∧ Below w'.heap.size w' w'') := Lib.hid (fun col' w' hM => chbeside 1 16 2032 2032 (-1) (-1) 0 0 (by decide) (by decide) (by decide) (by decide) hM (s8_tag_no _ _ (by omega)) (s8_tag_no _ _ (by omega)) (by decide) (by decide))
      have wk : IntKind.i64.wrap k = k := IntWalk.i64_in _ (by omega)
      have q2 : -9223372036854775808 ≤ q := by omega
      obtain ⟨-, c0, c1⟩ := HC11.out
      rcases hqk with ⟨q0, q1⟩ | ⟨q0, q1⟩
      · have hq2 : d.tmod (l.length : Int) = k := hq.trans q1
        clear hq q1 q0 q2
        go_wp2_with fail
        refine (HBS.out _ _ HM11.out).mono ?_
        rintro e v12 ⟨rfl, hb12⟩
        have HM12 := Lib.hid (HM11.out.later hb12)
        have HB12 := Lib.hid (HB11.out.trans (hb12.mono HM11.out.size))
        have HK12 := Lib.hid ((hb12.cell (p := ⟨bk, off + k.toNat, none⟩) HBK.out).trans HK2.out)
        clear hb12 c0 c1 HM11 HC11 HB11 HK2 HBS
        have kk := HK12.out
        go_wp2_with fail
        with_reducible refine Calls.mono (mtagged true 256 (u : Int) (t : Int) HM12.out (by
          rw [HG.out.2.1.1, HG.out.2.1.2, s8t_open _ (by decide) (by omega) (by omega), Bool.true_and]
          rw [s8t_f]
          exact allR_set _ 16 m t m (Nat.le_refl _))) ?_
        rintro e v13 ⟨rfl, hb13⟩
        have HM13 := Lib.hid (HM12.out.later hb13)
        have HB13 := Lib.hid (HB12.out.trans (hb13.mono HM12.out.size))
        clear hb13 kk HM12 HB12
        go_wp2_with fail
        with_reducible refine Calls.mono (mtag (a : Int) 224 HM13.out (s8_tag _ 224 14 a (by decide) (by decide) (by unfold setF; rw [if_neg (by omega)]; unfold tg3 setF; rw [if_neg (by omega), if_neg (by omega), if_pos (by omega)]))) ?_
        rintro e v14 ⟨rfl, hb14⟩
        have HM14 := Lib.hid (HM13.out.later hb14)
        have HB14 := Lib.hid (HB13.out.trans (hb14.mono HM13.out.size))
        clear hb14 HM13 HB13
        go_wp2_with fail
        with_reducible refine Calls.mono (mtag (b : Int) (256 + (u : Int) + 16) HM14.out (by
          have hu := HU.out
          have := s8_tag (setF (tg3 a b had m) 16 m t) (256 + u + 16) (16 + m + 1) b (by omega) (by omega) (by unfold setF; rw [if_neg (by omega)]; unfold tg3 setF; rw [if_pos (by omega)])
          rwa [show ((256 + u + 16 : Nat) : Int) = 256 + (u : Int) + 16 by omega] at this)) ?_
        rintro e v15 ⟨rfl, hb15⟩
        have HM15 := Lib.hid (HM14.out.later hb15)
        have HB15 := Lib.hid (HB14.out.trans (hb15.mono HM14.out.size))
        clear hb15 HM14 HB14
        go_wp2_with fail
        with_reducible refine Calls.mono (mtag ((0 : Nat) : Int) 240 HM15.out (s8_tag _ 240 15 0 (by decide) (by decide) (by unfold setF; rw [if_neg (by omega)]; unfold tg3 setF; rw [if_neg (by omega), if_neg (by omega), if_neg (by omega)]; exact s8_f 15))) ?_
        rintro e v16 ⟨rfl, hb16⟩
        have HB16 := Lib.hid (HB15.out.trans (hb16.mono HM15.out.size))
        clear hb16 HM15 HB15
        go_wp2_with fail
        go_ret
        exact ⟨rfl, HB0.out.trans (HB16.out.mono HB0.out.size)⟩
      · clear HX
        go_wp2_with fail
        refine (HBS.out _ _ HM11.out).mono ?_
        rintro e v12 ⟨rfl, hb12⟩
        have HM12 := Lib.hid (HM11.out.later hb12)
        have HB12 := Lib.hid (HB11.out.trans (hb12.mono HM11.out.size))
        have HK12 := Lib.hid ((hb12.cell (p := ⟨bk, off + k.toNat, none⟩) HBK.out).trans HK2.out)
        clear hb12 c0 c1 HM11 HC11 HB11 HK2 HBS
        have kk := HK12.out
        go_wp2_with fail
        with_reducible refine Calls.mono (mtagged true 256 (u : Int) (t : Int) HM12.out (by
          rw [HG.out.2.1.1, HG.out.2.1.2, s8t_open _ (by decide) (by omega) (by omega), Bool.true_and]
          rw [s8t_f]
          exact allR_set _ 16 m t m (Nat.le_refl _))) ?_
        rintro e v13 ⟨rfl, hb13⟩
        have HM13 := Lib.hid (HM12.out.later hb13)
        have HB13 := Lib.hid (HB12.out.trans (hb13.mono HM12.out.size))
        clear hb13 kk HM12 HB12
        go_wp2_with fail
        with_reducible refine Calls.mono (mtag (a : Int) 224 HM13.out (s8_tag _ 224 14 a (by decide) (by decide) (by unfold setF; rw [if_neg (by omega)]; unfold tg3 setF; rw [if_neg (by omega), if_neg (by omega), if_pos (by omega)]))) ?_
        rintro e v14 ⟨rfl, hb14⟩
        have HM14 := Lib.hid (HM13.out.later hb14)
        have HB14 := Lib.hid (HB13.out.trans (hb14.mono HM13.out.size))
        clear hb14 HM13 HB13
        go_wp2_with fail
        with_reducible refine Calls.mono (mtag (b : Int) (256 + (u : Int) + 16) HM14.out (by
          have hu := HU.out
          have := s8_tag (setF (tg3 a b had m) 16 m t) (256 + u + 16) (16 + m + 1) b (by omega) (by omega) (by unfold setF; rw [if_neg (by omega)]; unfold tg3 setF; rw [if_pos (by omega)])
          rwa [show ((256 + u + 16 : Nat) : Int) = 256 + (u : Int) + 16 by omega] at this)) ?_
        rintro e v15 ⟨rfl, hb15⟩
        have HM15 := Lib.hid (HM14.out.later hb15)
        have HB15 := Lib.hid (HB14.out.trans (hb15.mono HM14.out.size))
        clear hb15 HM14 HB14
        go_wp2_with fail
        with_reducible refine Calls.mono (mtag ((0 : Nat) : Int) 240 HM15.out (s8_tag _ 240 15 0 (by decide) (by decide) (by unfold setF; rw [if_neg (by omega)]; unfold tg3 setF; rw [if_neg (by omega), if_neg (by omega), if_neg (by omega)]; exact s8_f 15))) ?_
        rintro e v16 ⟨rfl, hb16⟩
        have HB16 := Lib.hid (HB15.out.trans (hb16.mono HM15.out.size))
        clear hb16 HM15 HB15
        go_wp2_with fail
        go_ret
        exact ⟨rfl, HB0.out.trans (HB16.out.mono HB0.out.size)⟩
end Go.Proofs.YtgidnmjeifgciaaDoor
