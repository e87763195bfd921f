/- MoR. -/
import Derived.Test.YtanmmhbnjmglhaaZ23
import Derived.Deep.RegionHeld3
namespace Go.Proofs.Ytanmmhbnjmglhaa
set_option maxRecDepth 100000
open Go.RowKit Go.ChangeMaps Go.MapKept
set_option linter.unusedVariables false
set_option linter.unusedSimpArgs false
section
variable {C : Cf} {R : Option Addr} {lb ll lc k kc : Nat} {W : World}
set_option maxHeartbeats 1000000 in
theorem rgood1 (o l u p : Int) (hl : 1 ≤ ll) (hb : lb < W.heap.size) (hlive : W.cell? ⟨lb, 3, none⟩ = some (.bool true)) : Calls Try.prog 32 #[rmv C (some ⟨lb, 0, none⟩) ll lc R k kc, .agg #[.int .i64 1, .int .i64 o, .int .i64 l, .int .i64 u, .int .i64 p]] W fun e w' => e = .returned (.agg #[.int .i64 1, .int .i64 o, .int .i64 l, .int .i64 u, .int .i64 p]) ∧ Below W.heap.size W w' := by
  have h1 : ¬ (1 : Int) > (ll : Int) := by omega
  have h2 : (0 : Int) < (ll : Int) := by omega
  have HLV := Lib.hid (fun (w' : World) (h9 : Below W.heap.size W w') => (h9.cell (p := ⟨lb, 3, none⟩) hb).trans hlive)
  clear hlive
  go_enter Try.func32, Try.ntmps32
  have hlv := fun a b c => HLV.out _ (alc (alc (alc0 W a) b) c)
  go_wp2_with fail
  refine bodyPost_ret (v := .agg #[.int .i64 1, .int .i64 o, .int .i64 l, .int .i64 u, .int .i64 p]) (by simp [results, Try.results32, go_sem]) rfl ⟨rfl, ?_⟩
  exact alc (alc (alc0 W _) _) _
end
theorem infoRR : (Try.prog.info? 54).map (fun i => (i.zero, i.size, i.bytes)) = some (some z5, 5, 40) := by kernel_rfl
theorem rkRef (k : Nat) (hk : k ≤ 64) (W : World) : (Instr.makeSlice 32 (.int .i64 (k : Int)) (.int .i64 (k : Int))).run Try.prog W = .ok (.slice (some ⟨W.heap.size, 0, none⟩) k k) (W.alloc (.cells (madeCells #[.int .i64 0, .int .i64 0, .int .i64 0, .int .i64 0, .int .i64 0] (k * 5)) 54)) := by
  obtain ⟨i0, hi, hz0, hz1, hz2⟩ := info_parts infoRR
  have := run_make (P := Try.prog) (w := W) 32 54 i0 z5 Try.underlying32 hi hz0 .i64 .i64 k k (by omega) (by omega) (by rw [hz2]; omega) (by omega)
  rw [hz1] at this
  simp only [Int.toNat_natCast] at this
  exact this
def RNewPost (C : Cf) (k : Nat) (W : World) (e : Ending) (w' : World) : Prop :=
  ∃ r, e = .returned (rmv C none 0 0 (some ⟨r, 0, none⟩) k k) ∧ (∀ i, i < k * 5 → w'.cell? ⟨r, i, none⟩ = some (.int .i64 0)) ∧ W.heap.size ≤ r ∧ r < w'.heap.size ∧ Below W.heap.size W w'
set_option maxHeartbeats 1000000 in
theorem rnew (C : Cf) (k : Nat) (hk : min (max C.re 0) 64 = (k : Int)) (W : World) : Calls Try.prog 8 #[C.v] W (RNewPost C k W) := by
  have hk64 : k ≤ 64 := by omega
  have hmk := rkRef k hk64
  obtain ⟨pg, rg, lg, th, ca, ba, sh, re, mo, fi, ky⟩ := C
  simp only [Cf.v] at *
  go_enter Try.func8, Try.ntmps8
  go_upto_region 1 with (fail)
  obtain ⟨wb, hwb⟩ : ∃ wb, (W.alloc (.cells #[.int .i64 pg, .int .i64 rg, .int .i64 lg, .int .i64 th, .int .i64 ca, .int .i64 ba, .int .i64 sh, .int .i64 re, .int .i64 mo, .int .i64 fi, .int .u64 ky] 27)).alloc (.cells #[.int .i64 0, .int .i64 0, .int .i64 0, .int .i64 0, .int .i64 0, .int .i64 0, .int .i64 0, .int .i64 0, .int .i64 0, .int .i64 0, .int .u64 0, .slice none 0 0, .slice none 0 0] 34) = wb := ⟨_, rfl⟩
  have hbb : Below W.heap.size W wb := by rw [← hwb]; exact alc (alc0 _ _) _
  have hsb : wb.heap.size = W.heap.size + 2 := by rw [← hwb]; simp
  have hcc : ∀ o u, (#[.int .i64 pg, .int .i64 rg, .int .i64 lg, .int .i64 th, .int .i64 ca, .int .i64 ba, .int .i64 sh, .int .i64 re, .int .i64 mo, .int .i64 fi, .int .u64 ky] : Array Value)[o]? = some u → wb.cell? ⟨W.heap.size, o, none⟩ = some u := fun o u hu => by
    rw [← hwb]
    refine ((alc0 (W.alloc (.cells #[.int .i64 pg, .int .i64 rg, .int .i64 lg, .int .i64 th, .int .i64 ca, .int .i64 ba, .int .i64 sh, .int .i64 re, .int .i64 mo, .int .i64 fi, .int .u64 ky] 27)) _).cell (p := ⟨W.heap.size, o, none⟩) (by simp)).trans ?_
    rw [World.cell?_alloc_mark]
    exact hu
  have hyy : ∀ o u, (#[.int .i64 0, .int .i64 0, .int .i64 0, .int .i64 0, .int .i64 0, .int .i64 0, .int .i64 0, .int .i64 0, .int .i64 0, .int .i64 0, .int .u64 0, .slice none 0 0, .slice none 0 0] : Array Value)[o]? = some u → wb.cell? ⟨W.heap.size + 1, o, none⟩ = some u ∧ wb.frozen? ⟨W.heap.size + 1, o, none⟩ = false := fun o u hu => by
    have e9 : (W.alloc (.cells #[.int .i64 pg, .int .i64 rg, .int .i64 lg, .int .i64 th, .int .i64 ca, .int .i64 ba, .int .i64 sh, .int .i64 re, .int .i64 mo, .int .i64 fi, .int .u64 ky] 27)).heap.size = W.heap.size + 1 := World.size_alloc _ _
    rw [← hwb, ← e9]
    refine ⟨?_, frz_new _ _ _ _⟩
    rw [World.cell?_alloc_mark]
    exact hu
  have HYY := Lib.hid hyy
  clear hyy
  rw [hwb]
  clear hwb
  have x0 := hcc 0 _ rfl
  have x1 := hcc 1 _ rfl
  have x2 := hcc 2 _ rfl
  have x3 := hcc 3 _ rfl
  have x4 := hcc 4 _ rfl
  have x5 := hcc 5 _ rfl
  have x6 := hcc 6 _ rfl
  have x7 := hcc 7 _ rfl
  have x8 := hcc 8 _ rfl
  have x9 := hcc 9 _ rfl
  have x10 := hcc 10 _ rfl
  clear hcc
  have HBB := Lib.hid hbb
  clear hbb
  have hkk : (if 64 < if re < 0 then 0 else re then 64 else if re < 0 then 0 else re) = (k : Int) := by
    have h9 : min (max re 0) 64 = (k : Int) := hk
    clear x0 x1 x2 x3 x4 x5 x6 x7 x8 x9 x10
    split <;> split at * <;> omega
  refine wp_region_held_drew (S := fun w' => w'.cell? ⟨W.heap.size, 0, none⟩ = some (.int .i64 pg) ∧ w'.cell? ⟨W.heap.size, 1, none⟩ = some (.int .i64 rg) ∧ w'.cell? ⟨W.heap.size, 2, none⟩ = some (.int .i64 lg) ∧ w'.cell? ⟨W.heap.size, 3, none⟩ = some (.int .i64 th) ∧ w'.cell? ⟨W.heap.size, 4, none⟩ = some (.int .i64 ca) ∧ w'.cell? ⟨W.heap.size, 5, none⟩ = some (.int .i64 ba) ∧ w'.cell? ⟨W.heap.size, 6, none⟩ = some (.int .i64 sh) ∧ w'.cell? ⟨W.heap.size, 7, none⟩ = some (.int .i64 re) ∧ w'.cell? ⟨W.heap.size, 8, none⟩ = some (.int .i64 mo) ∧ w'.cell? ⟨W.heap.size, 9, none⟩ = some (.int .i64 fi) ∧ w'.cell? ⟨W.heap.size, 10, none⟩ = some (.int .u64 ky)) (by kernel_rfl) ?_ (fun hHeld => ?_)
  · exact ⟨x0, x1, x2, x3, x4, x5, x6, x7, x8, x9, x10⟩
  refine wpAnyH_take (i := 0) (v := ?_) rfl (by kernel_rfl) (by kernel_rfl) (by kernel_rfl) (fun _ _ _ h => h) (Or.inl ⟨by kernel_rfl, ?_⟩) (by assumption) ?_
  rotate_left
  · (intro w hSw; (try dsimp only at hSw); go_simp)
    try (with_reducible rfl)
  rotate_left
  try simp (maxSteps := 4000000) only [Act.put, List.setIfInBounds_toArray, List.set_cons_zero, List.set_cons_succ, List.getElem_toArray, List.getElem_cons_zero, List.getElem_cons_succ]
  refine wpAnyH_take (i := 1) (v := ?_) rfl (by kernel_rfl) (by kernel_rfl) (by kernel_rfl) (fun _ _ _ h => h) (Or.inl ⟨by kernel_rfl, ?_⟩) (by assumption) ?_
  rotate_left
  · (intro w hSw; (try dsimp only at hSw); go_simp)
    try (with_reducible rfl)
  rotate_left
  try simp (maxSteps := 4000000) only [Act.put, List.setIfInBounds_toArray, List.set_cons_zero, List.set_cons_succ, List.getElem_toArray, List.getElem_cons_zero, List.getElem_cons_succ]
  refine wpAnyH_take (i := 2) (v := ?_) rfl (by kernel_rfl) (by kernel_rfl) (by kernel_rfl) (fun _ _ _ h => h) (Or.inl ⟨by kernel_rfl, ?_⟩) (by assumption) ?_
  rotate_left
  · (intro w hSw; (try dsimp only at hSw); go_simp)
    try (with_reducible rfl)
  rotate_left
  try simp (maxSteps := 4000000) only [Act.put, List.setIfInBounds_toArray, List.set_cons_zero, List.set_cons_succ, List.getElem_toArray, List.getElem_cons_zero, List.getElem_cons_succ]
  refine wpAnyH_take (i := 3) (v := ?_) rfl (by kernel_rfl) (by kernel_rfl) (by kernel_rfl) (fun _ _ _ h => h) (Or.inl ⟨by kernel_rfl, ?_⟩) (by assumption) ?_
  rotate_left
  · (intro w hSw; (try dsimp only at hSw); go_simp)
    try (with_reducible rfl)
  rotate_left
  try simp (maxSteps := 4000000) only [Act.put, List.setIfInBounds_toArray, List.set_cons_zero, List.set_cons_succ, List.getElem_toArray, List.getElem_cons_zero, List.getElem_cons_succ]
  refine wpAnyH_take (i := 4) (v := ?_) rfl (by kernel_rfl) (by kernel_rfl) (by kernel_rfl) (fun _ _ _ h => h) (Or.inl ⟨by kernel_rfl, ?_⟩) (by assumption) ?_
  rotate_left
  · (intro w hSw; (try dsimp only at hSw); go_simp)
    try (with_reducible rfl)
  rotate_left
  try simp (maxSteps := 4000000) only [Act.put, List.setIfInBounds_toArray, List.set_cons_zero, List.set_cons_succ, List.getElem_toArray, List.getElem_cons_zero, List.getElem_cons_succ]
  refine wpAnyH_ready (rs := [5]) (by kernel_rfl) (by simp) ?_
  refine AllReadyH.cons rfl (fun K2 hK2 => ?_) AllReadyH.nil
  go_simp
  obtain ⟨w3, hw3⟩ : ∃ w3, (wb.alloc (.cells (madeCells #[.int .i64 0, .int .i64 0, .int .i64 0, .int .i64 0, .int .i64 0] (k * 5)) 54)).drew = w3 := ⟨_, rfl⟩
  rw [hw3]
  have hb3 : Below wb.heap.size wb w3 := by rw [← hw3]; exact (alc0 _ _).drew
  have hs3 : w3.heap.size = W.heap.size + 3 := by
    rw [← hw3]
    show (wb.alloc _).heap.size = _
    rw [World.size_alloc]; omega
  have hrc : ∀ i, i < k * 5 → w3.cell? ⟨W.heap.size + 2, i, none⟩ = some (.int .i64 0) := fun i hi => by
    rw [← hw3, ← hsb]
    show (wb.alloc _).cell? _ = _
    rw [World.cell?_alloc_mark]
    exact made5 k i hi
  have s3 : w3.cell? ⟨W.heap.size, 0, none⟩ = some (.int .i64 pg) ∧ w3.cell? ⟨W.heap.size, 1, none⟩ = some (.int .i64 rg) ∧ w3.cell? ⟨W.heap.size, 2, none⟩ = some (.int .i64 lg) ∧ w3.cell? ⟨W.heap.size, 3, none⟩ = some (.int .i64 th) ∧ w3.cell? ⟨W.heap.size, 4, none⟩ = some (.int .i64 ca) ∧ w3.cell? ⟨W.heap.size, 5, none⟩ = some (.int .i64 ba) ∧ w3.cell? ⟨W.heap.size, 6, none⟩ = some (.int .i64 sh) ∧ w3.cell? ⟨W.heap.size, 7, none⟩ = some (.int .i64 re) ∧ w3.cell? ⟨W.heap.size, 8, none⟩ = some (.int .i64 mo) ∧ w3.cell? ⟨W.heap.size, 9, none⟩ = some (.int .i64 fi) ∧ w3.cell? ⟨W.heap.size, 10, none⟩ = some (.int .u64 ky) := ⟨(hb3.cell (p := ⟨W.heap.size, 0, none⟩) (by show W.heap.size < _; omega)).trans x0, (hb3.cell (p := ⟨W.heap.size, 1, none⟩) (by show W.heap.size < _; omega)).trans x1, (hb3.cell (p := ⟨W.heap.size, 2, none⟩) (by show W.heap.size < _; omega)).trans x2, (hb3.cell (p := ⟨W.heap.size, 3, none⟩) (by show W.heap.size < _; omega)).trans x3, (hb3.cell (p := ⟨W.heap.size, 4, none⟩) (by show W.heap.size < _; omega)).trans x4, (hb3.cell (p := ⟨W.heap.size, 5, none⟩) (by show W.heap.size < _; omega)).trans x5, (hb3.cell (p := ⟨W.heap.size, 6, none⟩) (by show W.heap.size < _; omega)).trans x6, (hb3.cell (p := ⟨W.heap.size, 7, none⟩) (by show W.heap.size < _; omega)).trans x7, (hb3.cell (p := ⟨W.heap.size, 8, none⟩) (by show W.heap.size < _; omega)).trans x8, (hb3.cell (p := ⟨W.heap.size, 9, none⟩) (by show W.heap.size < _; omega)).trans x9, (hb3.cell (p := ⟨W.heap.size, 10, none⟩) (by show W.heap.size < _; omega)).trans x10⟩
  have y0 : w3.cell? ⟨W.heap.size + 1, 0, none⟩ = some (.int .i64 0) := (hb3.cell (p := ⟨W.heap.size + 1, 0, none⟩) (by show W.heap.size + 1 < _; omega)).trans (HYY.out 0 _ rfl).1
  have z0 := (hb3.frozen (p := ⟨W.heap.size + 1, 0, none⟩) (by show W.heap.size + 1 < _; omega)).trans (HYY.out 0 _ rfl).2
  have y1 : w3.cell? ⟨W.heap.size + 1, 1, none⟩ = some (.int .i64 0) := (hb3.cell (p := ⟨W.heap.size + 1, 1, none⟩) (by show W.heap.size + 1 < _; omega)).trans (HYY.out 1 _ rfl).1
  have z1 := (hb3.frozen (p := ⟨W.heap.size + 1, 1, none⟩) (by show W.heap.size + 1 < _; omega)).trans (HYY.out 1 _ rfl).2
  have y2 : w3.cell? ⟨W.heap.size + 1, 2, none⟩ = some (.int .i64 0) := (hb3.cell (p := ⟨W.heap.size + 1, 2, none⟩) (by show W.heap.size + 1 < _; omega)).trans (HYY.out 2 _ rfl).1
  have z2 := (hb3.frozen (p := ⟨W.heap.size + 1, 2, none⟩) (by show W.heap.size + 1 < _; omega)).trans (HYY.out 2 _ rfl).2
  have y3 : w3.cell? ⟨W.heap.size + 1, 3, none⟩ = some (.int .i64 0) := (hb3.cell (p := ⟨W.heap.size + 1, 3, none⟩) (by show W.heap.size + 1 < _; omega)).trans (HYY.out 3 _ rfl).1
  have z3 := (hb3.frozen (p := ⟨W.heap.size + 1, 3, none⟩) (by show W.heap.size + 1 < _; omega)).trans (HYY.out 3 _ rfl).2
  have y4 : w3.cell? ⟨W.heap.size + 1, 4, none⟩ = some (.int .i64 0) := (hb3.cell (p := ⟨W.heap.size + 1, 4, none⟩) (by show W.heap.size + 1 < _; omega)).trans (HYY.out 4 _ rfl).1
  have z4 := (hb3.frozen (p := ⟨W.heap.size + 1, 4, none⟩) (by show W.heap.size + 1 < _; omega)).trans (HYY.out 4 _ rfl).2
  have y5 : w3.cell? ⟨W.heap.size + 1, 5, none⟩ = some (.int .i64 0) := (hb3.cell (p := ⟨W.heap.size + 1, 5, none⟩) (by show W.heap.size + 1 < _; omega)).trans (HYY.out 5 _ rfl).1
  have z5 := (hb3.frozen (p := ⟨W.heap.size + 1, 5, none⟩) (by show W.heap.size + 1 < _; omega)).trans (HYY.out 5 _ rfl).2
  have y6 : w3.cell? ⟨W.heap.size + 1, 6, none⟩ = some (.int .i64 0) := (hb3.cell (p := ⟨W.heap.size + 1, 6, none⟩) (by show W.heap.size + 1 < _; omega)).trans (HYY.out 6 _ rfl).1
  have z6 := (hb3.frozen (p := ⟨W.heap.size + 1, 6, none⟩) (by show W.heap.size + 1 < _; omega)).trans (HYY.out 6 _ rfl).2
  have y7 : w3.cell? ⟨W.heap.size + 1, 7, none⟩ = some (.int .i64 0) := (hb3.cell (p := ⟨W.heap.size + 1, 7, none⟩) (by show W.heap.size + 1 < _; omega)).trans (HYY.out 7 _ rfl).1
  have z7 := (hb3.frozen (p := ⟨W.heap.size + 1, 7, none⟩) (by show W.heap.size + 1 < _; omega)).trans (HYY.out 7 _ rfl).2
  have y8 : w3.cell? ⟨W.heap.size + 1, 8, none⟩ = some (.int .i64 0) := (hb3.cell (p := ⟨W.heap.size + 1, 8, none⟩) (by show W.heap.size + 1 < _; omega)).trans (HYY.out 8 _ rfl).1
  have z8 := (hb3.frozen (p := ⟨W.heap.size + 1, 8, none⟩) (by show W.heap.size + 1 < _; omega)).trans (HYY.out 8 _ rfl).2
  have y9 : w3.cell? ⟨W.heap.size + 1, 9, none⟩ = some (.int .i64 0) := (hb3.cell (p := ⟨W.heap.size + 1, 9, none⟩) (by show W.heap.size + 1 < _; omega)).trans (HYY.out 9 _ rfl).1
  have z9 := (hb3.frozen (p := ⟨W.heap.size + 1, 9, none⟩) (by show W.heap.size + 1 < _; omega)).trans (HYY.out 9 _ rfl).2
  have y10 : w3.cell? ⟨W.heap.size + 1, 10, none⟩ = some (.int .u64 0) := (hb3.cell (p := ⟨W.heap.size + 1, 10, none⟩) (by show W.heap.size + 1 < _; omega)).trans (HYY.out 10 _ rfl).1
  have z10 := (hb3.frozen (p := ⟨W.heap.size + 1, 10, none⟩) (by show W.heap.size + 1 < _; omega)).trans (HYY.out 10 _ rfl).2
  have y11 : w3.cell? ⟨W.heap.size + 1, 11, none⟩ = some (.slice none 0 0) := (hb3.cell (p := ⟨W.heap.size + 1, 11, none⟩) (by show W.heap.size + 1 < _; omega)).trans (HYY.out 11 _ rfl).1
  have z11 := (hb3.frozen (p := ⟨W.heap.size + 1, 11, none⟩) (by show W.heap.size + 1 < _; omega)).trans (HYY.out 11 _ rfl).2
  have y12 : w3.cell? ⟨W.heap.size + 1, 12, none⟩ = some (.slice none 0 0) := (hb3.cell (p := ⟨W.heap.size + 1, 12, none⟩) (by show W.heap.size + 1 < _; omega)).trans (HYY.out 12 _ rfl).1
  have z12 := (hb3.frozen (p := ⟨W.heap.size + 1, 12, none⟩) (by show W.heap.size + 1 < _; omega)).trans (HYY.out 12 _ rfl).2
  have HB3 := Lib.hid (thn HBB.out hb3)
  have HRC := Lib.hid hrc
  clear hw3 hb3 hrc x0 x1 x2 x3 x4 x5 x6 x7 x8 x9 x10
  refine hK2.out _ _ (s3) (fun hHeld2 => ?_)
  clear hK2 K2 hHeld
  have hHeld := hHeld2
  clear hHeld2
  try simp (maxSteps := 4000000) only [Act.put, List.setIfInBounds_toArray, List.set_cons_zero, List.set_cons_succ]
  refine wpAnyH_take (i := 6) (v := ?_) rfl (by kernel_rfl) (by kernel_rfl) (by kernel_rfl) (fun _ _ _ h => h) (Or.inl ⟨by kernel_rfl, ?_⟩) (by assumption) ?_
  rotate_left
  · (intro w hSw; (try dsimp only at hSw); go_simp)
    try (with_reducible rfl)
  rotate_left
  try simp (maxSteps := 4000000) only [Act.put, List.setIfInBounds_toArray, List.set_cons_zero, List.set_cons_succ, List.getElem_toArray, List.getElem_cons_zero, List.getElem_cons_succ]
  refine wpAnyH_ready (rs := [7]) (by kernel_rfl) (by simp) ?_
  refine AllReadyH.cons rfl (fun K2 hK2 => ?_) AllReadyH.nil
  go_simp
  obtain ⟨w4, hw4⟩ : ∃ w4, w4 = (((((((((((((w3.setCell ⟨W.heap.size + 1, 0, none⟩ (.int .i64 pg)).setCell ⟨W.heap.size + 1, 1, none⟩ (.int .i64 rg)).setCell ⟨W.heap.size + 1, 2, none⟩ (.int .i64 lg)).setCell ⟨W.heap.size + 1, 3, none⟩ (.int .i64 th)).setCell ⟨W.heap.size + 1, 4, none⟩ (.int .i64 ca)).setCell ⟨W.heap.size + 1, 5, none⟩ (.int .i64 ba)).setCell ⟨W.heap.size + 1, 6, none⟩ (.int .i64 sh)).setCell ⟨W.heap.size + 1, 7, none⟩ (.int .i64 re)).setCell ⟨W.heap.size + 1, 8, none⟩ (.int .i64 mo)).setCell ⟨W.heap.size + 1, 9, none⟩ (.int .i64 fi)).setCell ⟨W.heap.size + 1, 10, none⟩ (.int .u64 ky)).setCell ⟨W.heap.size + 1, 11, none⟩ (.slice none 0 0)).setCell ⟨W.heap.size + 1, 12, none⟩ (.slice (some ⟨W.heap.size + 2, 0, none⟩) k k)) := ⟨_, rfl⟩
  rw [← hw4]
  have hk4 : ∀ i, i ≠ W.heap.size + 1 → w4.heap[i]? = w3.heap[i]? := fun i hi => by rw [hw4]; simp only [heap_other _ _ _ _ _ hi]
  have hs4 : w4.heap.size = w3.heap.size := by rw [hw4]; simp only [size_set]
  have HB4 := Lib.hid (show Below W.heap.size W w4 from by
    rw [hw4]
    exact HB3.out |>.setCell (p := ⟨W.heap.size + 1, 0, none⟩) (show W.heap.size ≤ W.heap.size + 1 by omega) _ |>.setCell (p := ⟨W.heap.size + 1, 1, none⟩) (show W.heap.size ≤ W.heap.size + 1 by omega) _ |>.setCell (p := ⟨W.heap.size + 1, 2, none⟩) (show W.heap.size ≤ W.heap.size + 1 by omega) _ |>.setCell (p := ⟨W.heap.size + 1, 3, none⟩) (show W.heap.size ≤ W.heap.size + 1 by omega) _ |>.setCell (p := ⟨W.heap.size + 1, 4, none⟩) (show W.heap.size ≤ W.heap.size + 1 by omega) _ |>.setCell (p := ⟨W.heap.size + 1, 5, none⟩) (show W.heap.size ≤ W.heap.size + 1 by omega) _ |>.setCell (p := ⟨W.heap.size + 1, 6, none⟩) (show W.heap.size ≤ W.heap.size + 1 by omega) _ |>.setCell (p := ⟨W.heap.size + 1, 7, none⟩) (show W.heap.size ≤ W.heap.size + 1 by omega) _ |>.setCell (p := ⟨W.heap.size + 1, 8, none⟩) (show W.heap.size ≤ W.heap.size + 1 by omega) _ |>.setCell (p := ⟨W.heap.size + 1, 9, none⟩) (show W.heap.size ≤ W.heap.size + 1 by omega) _ |>.setCell (p := ⟨W.heap.size + 1, 10, none⟩) (show W.heap.size ≤ W.heap.size + 1 by omega) _ |>.setCell (p := ⟨W.heap.size + 1, 11, none⟩) (show W.heap.size ≤ W.heap.size + 1 by omega) _ |>.setCell (p := ⟨W.heap.size + 1, 12, none⟩) (show W.heap.size ≤ W.heap.size + 1 by omega) _)
  have s4 : w4.cell? ⟨W.heap.size, 0, none⟩ = some (.int .i64 pg) ∧ w4.cell? ⟨W.heap.size, 1, none⟩ = some (.int .i64 rg) ∧ w4.cell? ⟨W.heap.size, 2, none⟩ = some (.int .i64 lg) ∧ w4.cell? ⟨W.heap.size, 3, none⟩ = some (.int .i64 th) ∧ w4.cell? ⟨W.heap.size, 4, none⟩ = some (.int .i64 ca) ∧ w4.cell? ⟨W.heap.size, 5, none⟩ = some (.int .i64 ba) ∧ w4.cell? ⟨W.heap.size, 6, none⟩ = some (.int .i64 sh) ∧ w4.cell? ⟨W.heap.size, 7, none⟩ = some (.int .i64 re) ∧ w4.cell? ⟨W.heap.size, 8, none⟩ = some (.int .i64 mo) ∧ w4.cell? ⟨W.heap.size, 9, none⟩ = some (.int .i64 fi) ∧ w4.cell? ⟨W.heap.size, 10, none⟩ = some (.int .u64 ky) := ⟨(World.cell?_of_block (hk4 W.heap.size (by omega))).trans s3.1, (World.cell?_of_block (hk4 W.heap.size (by omega))).trans s3.2.1, (World.cell?_of_block (hk4 W.heap.size (by omega))).trans s3.2.2.1, (World.cell?_of_block (hk4 W.heap.size (by omega))).trans s3.2.2.2.1, (World.cell?_of_block (hk4 W.heap.size (by omega))).trans s3.2.2.2.2.1, (World.cell?_of_block (hk4 W.heap.size (by omega))).trans s3.2.2.2.2.2.1, (World.cell?_of_block (hk4 W.heap.size (by omega))).trans s3.2.2.2.2.2.2.1, (World.cell?_of_block (hk4 W.heap.size (by omega))).trans s3.2.2.2.2.2.2.2.1, (World.cell?_of_block (hk4 W.heap.size (by omega))).trans s3.2.2.2.2.2.2.2.2.1, (World.cell?_of_block (hk4 W.heap.size (by omega))).trans s3.2.2.2.2.2.2.2.2.2.1, (World.cell?_of_block (hk4 W.heap.size (by omega))).trans s3.2.2.2.2.2.2.2.2.2.2⟩
  have q0 : w4.cell? ⟨W.heap.size + 1, 0, none⟩ = some (.int .i64 pg) := by rw [hw4]; simp [go_sem, y0, y1, y2, y3, y4, y5, y6, y7, y8, y9, y10, y11, y12]
  have q1 : w4.cell? ⟨W.heap.size + 1, 1, none⟩ = some (.int .i64 rg) := by rw [hw4]; simp [go_sem, y0, y1, y2, y3, y4, y5, y6, y7, y8, y9, y10, y11, y12]
  have q2 : w4.cell? ⟨W.heap.size + 1, 2, none⟩ = some (.int .i64 lg) := by rw [hw4]; simp [go_sem, y0, y1, y2, y3, y4, y5, y6, y7, y8, y9, y10, y11, y12]
  have q3 : w4.cell? ⟨W.heap.size + 1, 3, none⟩ = some (.int .i64 th) := by rw [hw4]; simp [go_sem, y0, y1, y2, y3, y4, y5, y6, y7, y8, y9, y10, y11, y12]
  have q4 : w4.cell? ⟨W.heap.size + 1, 4, none⟩ = some (.int .i64 ca) := by rw [hw4]; simp [go_sem, y0, y1, y2, y3, y4, y5, y6, y7, y8, y9, y10, y11, y12]
  have q5 : w4.cell? ⟨W.heap.size + 1, 5, none⟩ = some (.int .i64 ba) := by rw [hw4]; simp [go_sem, y0, y1, y2, y3, y4, y5, y6, y7, y8, y9, y10, y11, y12]
  have q6 : w4.cell? ⟨W.heap.size + 1, 6, none⟩ = some (.int .i64 sh) := by rw [hw4]; simp [go_sem, y0, y1, y2, y3, y4, y5, y6, y7, y8, y9, y10, y11, y12]
  have q7 : w4.cell? ⟨W.heap.size + 1, 7, none⟩ = some (.int .i64 re) := by rw [hw4]; simp [go_sem, y0, y1, y2, y3, y4, y5, y6, y7, y8, y9, y10, y11, y12]
  have q8 : w4.cell? ⟨W.heap.size + 1, 8, none⟩ = some (.int .i64 mo) := by rw [hw4]; simp [go_sem, y0, y1, y2, y3, y4, y5, y6, y7, y8, y9, y10, y11, y12]
  have q9 : w4.cell? ⟨W.heap.size + 1, 9, none⟩ = some (.int .i64 fi) := by rw [hw4]; simp [go_sem, y0, y1, y2, y3, y4, y5, y6, y7, y8, y9, y10, y11, y12]
  have q10 : w4.cell? ⟨W.heap.size + 1, 10, none⟩ = some (.int .u64 ky) := by rw [hw4]; simp [go_sem, y0, y1, y2, y3, y4, y5, y6, y7, y8, y9, y10, y11, y12]
  have q11 : w4.cell? ⟨W.heap.size + 1, 11, none⟩ = some (.slice none 0 0) := by rw [hw4]; simp [go_sem, y0, y1, y2, y3, y4, y5, y6, y7, y8, y9, y10, y11, y12]
  have q12 : w4.cell? ⟨W.heap.size + 1, 12, none⟩ = some (.slice (some ⟨W.heap.size + 2, 0, none⟩) k k) := by rw [hw4]; simp [go_sem, y0, y1, y2, y3, y4, y5, y6, y7, y8, y9, y10, y11, y12]
  have hrc4 : ∀ i, i < k * 5 → w4.cell? ⟨W.heap.size + 2, i, none⟩ = some (.int .i64 0) := fun i hi => (World.cell?_of_block (hk4 (W.heap.size + 2) (by omega))).trans (HRC.out i hi)
  have HRC4 := Lib.hid hrc4
  clear hw4 hk4 hrc4
  refine hK2.out _ _ (s4) (fun hHeld2 => ?_)
  clear hK2 K2 hHeld
  have hHeld := hHeld2
  clear hHeld2
  try simp (maxSteps := 4000000) only [Act.put, List.setIfInBounds_toArray, List.set_cons_zero, List.set_cons_succ]
  refine wpAnyH_done (by kernel_rfl) ?_ _
  go_wp2_with fail
  all_goals (refine bodyPost_ret (v := .agg #[.int .i64 pg, .int .i64 rg, .int .i64 lg, .int .i64 th, .int .i64 ca, .int .i64 ba, .int .i64 sh, .int .i64 re, .int .i64 mo, .int .i64 fi, .int .u64 ky, .slice none 0 0, .slice (some ⟨W.heap.size + 2, 0, none⟩) k k]) (by simp [results, Try.results8, go_sem, q0, q1, q2, q3, q4, q5, q6, q7, q8, q9, q10, q11, q12]) rfl ?_; exact ⟨W.heap.size + 2, rfl, HRC4.out, by omega, by omega, HB4.out⟩)
end Go.Proofs.Ytanmmhbnjmglhaa
