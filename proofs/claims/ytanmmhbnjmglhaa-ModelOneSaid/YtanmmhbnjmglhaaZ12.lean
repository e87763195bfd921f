/- MoF. -/
import Derived.Test.YtanmmhbnjmglhaaZ11
import Derived.Deep.RegionHeld3
namespace Go.Proofs.Ytanmmhbnjmglhaa
set_option maxRecDepth 100000
open Go.RowKit Go.ChangeMaps Go.MapKept
set_option linter.unusedVariables false
set_option linter.unusedSimpArgs false
theorem infoRef : (Try.prog.info? 52).map (fun i => (i.zero, i.size, i.bytes)) = some (some z5, 5, 40) := by kernel_rfl
theorem mkRef (k : Nat) (hk : k ≤ 64) (W : World) : (Instr.makeSlice 60 (.int .i64 (k : Int)) (.int .i64 (k : Int))).run Try.prog W = .ok (.slice (some ⟨W.heap.size, 0, none⟩) k k) (W.alloc (.cells (madeCells #[.int .i64 0, .int .i64 0, .int .i64 0, .int .i64 0, .int .i64 0] (k * 5)) 52)) := by
  obtain ⟨i0, hi, hz0, hz1, hz2⟩ := info_parts infoRef
  have := run_make (P := Try.prog) (w := W) 60 52 i0 z5 Try.underlying60 hi hz0 .i64 .i64 k k (by omega) (by omega) (by rw [hz2]; omega) (by omega)
  rw [hz1] at this
  simp only [Int.toNat_natCast] at this
  exact this
def zV (i : Nat) : Value := (#[.int .i64 0, .int .i64 0, .int .i64 0, .int .i64 0, .int .i64 0] : Array Value)[i % 5]!
theorem zV0 (i : Nat) : zV i = .int .i64 0 := by
  unfold zV
  have : i % 5 = 0 ∨ i % 5 = 1 ∨ i % 5 = 2 ∨ i % 5 = 3 ∨ i % 5 = 4 := by omega
  rcases this with h | h | h | h | h <;> rw [h] <;> rfl
theorem made5 (k i : Nat) (h : i < k * 5) : (madeCells #[.int .i64 0, .int .i64 0, .int .i64 0, .int .i64 0, .int .i64 0] (k * 5))[i]? = some (.int .i64 0) := by
  have h2 : (madeCells #[.int .i64 0, .int .i64 0, .int .i64 0, .int .i64 0, .int .i64 0] (k * 5))[i]? = some (zV i) := by simp [madeCells, h, zV]
  exact h2.trans (congrArg some (zV0 i))
theorem mclip (n : Int) (k : Nat) (hk : (k : Int) = min (max n 0) 64) (W : World) : Calls Try.prog 19 #[.int .i64 n, .int .i64 0, .int .i64 64] W fun e w' => e = .returned (.int .i64 (k : Int)) ∧ W = w' := by
  by_cases h1 : n > 64
  · have e : (k : Int) = 64 := by omega
    rw [e]
    clear hk e
    go_enter Try.func19, Try.ntmps19
    go_wp2
    go_ret
    exact ⟨rfl, rfl⟩
  · by_cases h2 : n < 0
    · have e : (k : Int) = 0 := by omega
      rw [e]
      clear hk e
      go_enter Try.func19, Try.ntmps19
      go_wp2
      go_ret
      exact ⟨rfl, rfl⟩
    · obtain rfl : n = (k : Int) := by omega
      clear hk
      go_enter Try.func19, Try.ntmps19
      go_wp2
      go_ret
      exact ⟨rfl, rfl⟩
def Cf.v (C : Cf) : Value := .agg #[.int .i64 C.pg, .int .i64 C.rg, .int .i64 C.lg, .int .i64 C.th, .int .i64 C.ca, .int .i64 C.ba, .int .i64 C.sh, .int .i64 C.re, .int .i64 C.mo, .int .i64 C.fi, .int .u64 C.ky]
def MNewPost (C : Cf) (k : Nat) (W : World) (e : Ending) (w' : World) : Prop :=
  ∃ m mb r, e = .returned (.pointer (some ⟨m, 0, none⟩)) ∧ MO m mb r C 0 [] (List.replicate k Rf0) w' ∧ W.heap.size ≤ m ∧ W.heap.size ≤ mb ∧ W.heap.size ≤ r ∧ Below W.heap.size W w'
theorem frz_new (W : World) (cs : Array Value) (T : TypeId) (o : Nat) : (W.alloc (.cells cs T)).frozen? ⟨W.heap.size, o, none⟩ = false := by simp
theorem mo_new (C : Cf) (k : Nat) (hk : k ≤ 64) (hok : C.ok) (w2 : World) (mb r : Nat) (hmp : MP mb w2 []) (hr : r < w2.heap.size) (hc : ∀ i, i < k * 5 → w2.cell? ⟨r, i, none⟩ = some (.int .i64 0)) (hf : ∀ o, w2.frozen? ⟨r, o, none⟩ = false) (hne : mb ≠ r) :
    ∀ T, MO w2.heap.size mb r C 0 [] (List.replicate k Rf0) (w2.alloc (.cells #[.int .i64 C.pg, .int .i64 C.rg, .int .i64 C.lg, .int .i64 C.th, .int .i64 C.ca, .int .i64 C.ba, .int .i64 C.sh, .int .i64 C.re, .int .i64 C.mo, .int .i64 C.fi, .int .u64 C.ky, .int .i64 0, .map (some mb), .slice (some ⟨r, 0, none⟩) k k] T)) := fun T => by
  have hmb := hmp.lt
  have hcell : ∀ o u, (#[.int .i64 C.pg, .int .i64 C.rg, .int .i64 C.lg, .int .i64 C.th, .int .i64 C.ca, .int .i64 C.ba, .int .i64 C.sh, .int .i64 C.re, .int .i64 C.mo, .int .i64 C.fi, .int .u64 C.ky, .int .i64 0, .map (some mb), .slice (some ⟨r, 0, none⟩) k k] : Array Value)[o]? = some u → (w2.alloc (.cells #[.int .i64 C.pg, .int .i64 C.rg, .int .i64 C.lg, .int .i64 C.th, .int .i64 C.ca, .int .i64 C.ba, .int .i64 C.sh, .int .i64 C.re, .int .i64 C.mo, .int .i64 C.fi, .int .u64 C.ky, .int .i64 0, .map (some mb), .slice (some ⟨r, 0, none⟩) k k] T)).cell? ⟨w2.heap.size, o, none⟩ = some u := fun o u hu => by
    rw [World.cell?_alloc_mark]
    exact hu
  have hfr : ∀ o, (w2.alloc (.cells #[.int .i64 C.pg, .int .i64 C.rg, .int .i64 C.lg, .int .i64 C.th, .int .i64 C.ca, .int .i64 C.ba, .int .i64 C.sh, .int .i64 C.re, .int .i64 C.mo, .int .i64 C.fi, .int .u64 C.ky, .int .i64 0, .map (some mb), .slice (some ⟨r, 0, none⟩) k k] T)).frozen? ⟨w2.heap.size, o, none⟩ = false := fun o => by simp
  have hB := alc0 w2 (.cells #[.int .i64 C.pg, .int .i64 C.rg, .int .i64 C.lg, .int .i64 C.th, .int .i64 C.ca, .int .i64 C.ba, .int .i64 C.sh, .int .i64 C.re, .int .i64 C.mo, .int .i64 C.fi, .int .u64 C.ky, .int .i64 0, .map (some mb), .slice (some ⟨r, 0, none⟩) k k] T)
  have hsz : (w2.alloc (.cells #[.int .i64 C.pg, .int .i64 C.rg, .int .i64 C.lg, .int .i64 C.th, .int .i64 C.ca, .int .i64 C.ba, .int .i64 C.sh, .int .i64 C.re, .int .i64 C.mo, .int .i64 C.fi, .int .u64 C.ky, .int .i64 0, .map (some mb), .slice (some ⟨r, 0, none⟩) k k] T)).heap.size = w2.heap.size + 1 := World.size_alloc _ _
  generalize w2.alloc (.cells #[.int .i64 C.pg, .int .i64 C.rg, .int .i64 C.lg, .int .i64 C.th, .int .i64 C.ca, .int .i64 C.ba, .int .i64 C.sh, .int .i64 C.re, .int .i64 C.mo, .int .i64 C.fi, .int .u64 C.ky, .int .i64 0, .map (some mb), .slice (some ⟨r, 0, none⟩) k k] T) = w3 at *
  refine ⟨⟨by omega, by omega, by omega, by omega, hne⟩, ⟨hcell 0 _ rfl, hcell 1 _ rfl, hcell 2 _ rfl, hcell 3 _ rfl, hcell 4 _ rfl, hcell 5 _ rfl, hcell 6 _ rfl, hcell 7 _ rfl, hcell 8 _ rfl, hcell 9 _ rfl, hcell 10 _ rfl⟩, hcell 11 _ rfl, hcell 12 _ rfl, by rw [List.length_replicate]; exact hcell 13 _ rfl, fun o => ⟨hfr o, (hB.frozen (p := ⟨r, o, none⟩) hr).trans (hf o)⟩, hmp.keep (hB.block mb hmb), fun i q hq => ?_, ⟨hok, by rw [List.length_replicate]; exact hk, by omega⟩, fun q hq => ?_⟩
  · have hi : i < k := by have := (List.getElem?_eq_some_iff.1 hq).1; simpa using this
    obtain rfl : Rf0 = q := by rw [List.getElem?_replicate, if_pos hi] at hq; exact Option.some.inj hq
    have hk5 : i * 5 + 5 ≤ k * 5 := by omega
    have hcc : ∀ j, j < k * 5 → w3.cell? ⟨r, j, none⟩ = some (.int .i64 0) := fun j hj => (hB.cell (p := ⟨r, j, none⟩) hr).trans (hc j hj)
    exact ⟨hcc _ (by omega), hcc _ (by omega), hcc _ (by omega), hcc _ (by omega), hcc _ (by omega)⟩
  · obtain rfl := List.eq_of_mem_replicate hq
    exact ⟨by decide, by decide⟩
set_option maxHeartbeats 3200000 in
theorem mnew (C : Cf) (k : Nat) (hk : (k : Int) = min (max C.re 0) 64) (hok : C.ok) (W : World) : Calls Try.prog 7 #[C.v] W (MNewPost C k W) := by
  have hk64 : k ≤ 64 := by omega
  have HCL := Lib.hid (mclip C.re k hk)
  have hmk := mkRef k hk64
  have HOK := Lib.hid hok
  have hmm := @run_makeMap Try.prog
  clear hk hok
  obtain ⟨pg, rg, lg, th, ca, ba, sh, re, mo, fi, ky⟩ := C
  simp only [Cf.v] at *
  go_enter Try.func7, Try.ntmps7
  go_upto_region 1 with (fail)
  obtain ⟨w0, hw0⟩ : ∃ w0, W.alloc (.cells #[.int .i64 pg, .int .i64 rg, .int .i64 lg, .int .i64 th, .int .i64 ca, .int .i64 ba, .int .i64 sh, .int .i64 re, .int .i64 mo, .int .i64 fi, .int .u64 ky] 27) = w0 := ⟨_, rfl⟩
  have hcc : ∀ o u, (#[.int .i64 pg, .int .i64 rg, .int .i64 lg, .int .i64 th, .int .i64 ca, .int .i64 ba, .int .i64 sh, .int .i64 re, .int .i64 mo, .int .i64 fi, .int .u64 ky] : Array Value)[o]? = some u → w0.cell? ⟨W.heap.size, o, none⟩ = some u := fun o u hu => by
    rw [← hw0, World.cell?_alloc_mark]
    exact hu
  have hB0 : Below W.heap.size W w0 := by rw [← hw0]; exact alc0 _ _
  have hs0 : W.heap.size < w0.heap.size := by rw [← hw0]; simp
  rw [hw0]
  have HB0 := Lib.hid hB0
  have x0 := hcc 0 _ rfl
  have x1 := hcc 1 _ rfl
  have x2 := hcc 2 _ rfl
  have x3 := hcc 3 _ rfl
  have x4 := hcc 4 _ rfl
  have x5 := hcc 5 _ rfl
  have x6 := hcc 6 _ rfl
  have x7 := hcc 7 _ rfl
  have x8 := hcc 8 _ rfl
  have x9 := hcc 9 _ rfl
  have x10 := hcc 10 _ rfl
  have HTAKE := Lib.hid (fun (w' : World) (hb : Below w0.heap.size w0 w') => (⟨(hb.cell (p := ⟨W.heap.size, 0, none⟩) hs0).trans x0, (hb.cell (p := ⟨W.heap.size, 1, none⟩) hs0).trans x1, (hb.cell (p := ⟨W.heap.size, 2, none⟩) hs0).trans x2, (hb.cell (p := ⟨W.heap.size, 3, none⟩) hs0).trans x3, (hb.cell (p := ⟨W.heap.size, 4, none⟩) hs0).trans x4, (hb.cell (p := ⟨W.heap.size, 5, none⟩) hs0).trans x5, (hb.cell (p := ⟨W.heap.size, 6, none⟩) hs0).trans x6, (hb.cell (p := ⟨W.heap.size, 7, none⟩) hs0).trans x7, (hb.cell (p := ⟨W.heap.size, 8, none⟩) hs0).trans x8, (hb.cell (p := ⟨W.heap.size, 9, none⟩) hs0).trans x9, (hb.cell (p := ⟨W.heap.size, 10, none⟩) hs0).trans x10⟩ : _ ∧ _ ∧ _ ∧ _ ∧ _ ∧ _ ∧ _ ∧ _ ∧ _ ∧ _ ∧ _))
  clear hcc hw0 hB0
  refine wp_region_held_drew (S := fun w' => Below w0.heap.size w0 w') (by kernel_rfl) ?_ (fun hHeld => ?_)
  · exact (Below.refl _ _).drew
  refine wpAnyH_take (i := 0) (v := ?_) rfl (by kernel_rfl) (by kernel_rfl) (by kernel_rfl) (fun _ _ _ h => h) (Or.inl ⟨by kernel_rfl, ?_⟩) (by assumption) ?_
  rotate_left
  · (intro w hSw; (try dsimp only at hSw); (try have hTk := Hid.out HTAKE _ hSw); go_simp)
    try (with_reducible rfl)
  rotate_left
  try simp (maxSteps := 4000000) only [Act.put, List.setIfInBounds_toArray, List.set_cons_zero, List.set_cons_succ, List.getElem_toArray, List.getElem_cons_zero, List.getElem_cons_succ]
  refine wpAnyH_take (i := 2) (v := ?_) rfl (by kernel_rfl) (by kernel_rfl) (by kernel_rfl) (fun _ _ _ h => h) (Or.inl ⟨by kernel_rfl, ?_⟩) (by assumption) ?_
  rotate_left
  · (intro w hSw; (try dsimp only at hSw); (try have hTk := Hid.out HTAKE _ hSw); go_simp)
    try (with_reducible rfl)
  rotate_left
  try simp (maxSteps := 4000000) only [Act.put, List.setIfInBounds_toArray, List.set_cons_zero, List.set_cons_succ, List.getElem_toArray, List.getElem_cons_zero, List.getElem_cons_succ]
  refine wpAnyH_take (i := 3) (v := ?_) rfl (by kernel_rfl) (by kernel_rfl) (by kernel_rfl) (fun _ _ _ h => h) (Or.inl ⟨by kernel_rfl, ?_⟩) (by assumption) ?_
  rotate_left
  · (intro w hSw; (try dsimp only at hSw); (try have hTk := Hid.out HTAKE _ hSw); go_simp)
    try (with_reducible rfl)
  rotate_left
  try simp (maxSteps := 4000000) only [Act.put, List.setIfInBounds_toArray, List.set_cons_zero, List.set_cons_succ, List.getElem_toArray, List.getElem_cons_zero, List.getElem_cons_succ]
  refine wpAnyH_ready (rs := [1, 4]) (by kernel_rfl) (by simp) ?_
  refine AllReadyH.cons rfl (fun K2 hK2 => ?_) (AllReadyH.cons rfl (fun K2 hK2 => ?_) AllReadyH.nil)
  all_goals go_simp
  · refine hK2.out _ _ (thn hHeld (alc0 _ _)) (fun hHeld2 => ?_)
    clear hK2 K2 hHeld
    have hHeld := hHeld2
    clear hHeld2
    try simp (maxSteps := 4000000) only [Act.put, List.setIfInBounds_toArray, List.set_cons_zero, List.set_cons_succ]
    refine wpAnyH_ready (rs := [4]) (by kernel_rfl) (by simp) ?_
    refine AllReadyH.cons rfl (fun K2 hK2 => ?_) AllReadyH.nil
    go_simp
    with_reducible refine Calls.mono (HCL.out _) ?_
    rintro e w9 ⟨rfl, rfl⟩
    refine hK2.out _ _ (hHeld) (fun hHeld2 => ?_)
    clear hK2 K2 hHeld
    have hHeld := hHeld2
    clear hHeld2
    try simp (maxSteps := 4000000) only [Act.put, List.setIfInBounds_toArray, List.set_cons_zero, List.set_cons_succ]
    refine wpAnyH_ready (rs := [5]) (by kernel_rfl) (by simp) ?_
    refine AllReadyH.cons rfl (fun K2 hK2 => ?_) AllReadyH.nil
    go_simp
    refine hK2.out _ _ (thn hHeld (alc0 _ _)) (fun hHeld2 => ?_)
    clear hK2 K2 hHeld
    have hHeld := hHeld2
    clear hHeld2
    try simp (maxSteps := 4000000) only [Act.put, List.setIfInBounds_toArray, List.set_cons_zero, List.set_cons_succ]
    refine wpAnyH_take (i := 6) (v := ?_) rfl (by kernel_rfl) (by kernel_rfl) (by kernel_rfl) (fun _ _ _ h => h) (Or.inl ⟨by kernel_rfl, ?_⟩) (by assumption) ?_
    rotate_left
    · (intro w hSw; (try dsimp only at hSw); (try have hTk := Hid.out HTAKE _ hSw); go_simp)
      try (with_reducible rfl)
    rotate_left
    try simp (maxSteps := 4000000) only [Act.put, List.setIfInBounds_toArray, List.set_cons_zero, List.set_cons_succ, List.getElem_toArray, List.getElem_cons_zero, List.getElem_cons_succ]
    refine wpAnyH_ready (rs := [7]) (by kernel_rfl) (by simp) ?_
    refine AllReadyH.cons rfl (fun K2 hK2 => ?_) AllReadyH.nil
    go_simp
    refine hK2.out _ _ (thn hHeld (alc0 _ _)) (fun hHeld2 => ?_)
    clear hK2 K2 hHeld
    have hHeld := hHeld2
    clear hHeld2
    try simp (maxSteps := 4000000) only [Act.put, List.setIfInBounds_toArray, List.set_cons_zero, List.set_cons_succ]
    refine wpAnyH_take (i := 8) (v := ?_) rfl (by kernel_rfl) (by kernel_rfl) (by kernel_rfl) (fun _ _ _ h => h) (Or.inl ⟨by kernel_rfl, ?_⟩) (by assumption) ?_
    rotate_left
    · (intro w hSw; (try dsimp only at hSw); (try have hTk := Hid.out HTAKE _ hSw); go_simp)
      try (with_reducible rfl)
    rotate_left
    try simp (maxSteps := 4000000) only [Act.put, List.setIfInBounds_toArray, List.set_cons_zero, List.set_cons_succ, List.getElem_toArray, List.getElem_cons_zero, List.getElem_cons_succ]
    refine wpAnyH_done (by kernel_rfl) ?_ _
    have hsA : ((w0.drew.alloc (.map #[] 0)).alloc (.cells (madeCells #[.int .i64 0, .int .i64 0, .int .i64 0, .int .i64 0, .int .i64 0] (k * 5)) 52)).heap.size = w0.heap.size + 1 + 1 := by
      rw [World.size_alloc, World.size_alloc]
      rfl
    have hsB : (w0.drew.alloc (.map #[] 0)).heap.size = w0.heap.size + 1 := World.size_alloc _ _
    have hMP : MP w0.heap.size ((w0.drew.alloc (.map #[] 0)).alloc (.cells (madeCells #[.int .i64 0, .int .i64 0, .int .i64 0, .int .i64 0, .int .i64 0] (k * 5)) 52)) [] := (mp_made w0.drew).keep ((alc0 (w0.drew.alloc (.map #[] 0)) _).block _ (by rw [hsB]; show w0.heap.size < _; omega))
    have hRC : ∀ i, i < k * 5 → ((w0.drew.alloc (.map #[] 0)).alloc (.cells (madeCells #[.int .i64 0, .int .i64 0, .int .i64 0, .int .i64 0, .int .i64 0] (k * 5)) 52)).cell? ⟨w0.heap.size + 1, i, none⟩ = some (.int .i64 0) := fun i hi => by
      rw [← hsB, World.cell?_alloc_mark]
      exact made5 k i hi
    have hRF : ∀ o, ((w0.drew.alloc (.map #[] 0)).alloc (.cells (madeCells #[.int .i64 0, .int .i64 0, .int .i64 0, .int .i64 0, .int .i64 0] (k * 5)) 52)).frozen? ⟨w0.heap.size + 1, o, none⟩ = false := fun o => by
      rw [← hsB]
      exact frz_new _ _ _ _
    have hFIN := mo_new ⟨pg, rg, lg, th, ca, ba, sh, re, mo, fi, ky⟩ k hk64 HOK.out ((w0.drew.alloc (.map #[] 0)).alloc (.cells (madeCells #[.int .i64 0, .int .i64 0, .int .i64 0, .int .i64 0, .int .i64 0] (k * 5)) 52)) (w0.heap.size) (w0.heap.size + 1) hMP (by rw [hsA]; omega) hRC hRF (by omega) 63
    rw [hsA] at hFIN
    have HFIN := Lib.hid hFIN
    clear hFIN hMP hRC hRF
    go_wp2_with fail
    go_ret
    exact ⟨w0.heap.size + 1 + 1, w0.heap.size, w0.heap.size + 1, rfl, by first | exact HFIN.out | exact HFIN.out.below (Below.refl _ _).drew, by omega, by omega, by omega, by first | exact HB0.out.trans ((alc (alc (alc ((Below.refl _ w0).drew) _) _) _).mono HB0.out.size) | exact HB0.out.trans (((alc (alc (alc (Below.refl _ w0) _) _) _).drew).mono HB0.out.size)⟩
  · with_reducible refine Calls.mono (HCL.out _) ?_
    rintro e w9 ⟨rfl, rfl⟩
    refine hK2.out _ _ (hHeld) (fun hHeld2 => ?_)
    clear hK2 K2 hHeld
    have hHeld := hHeld2
    clear hHeld2
    try simp (maxSteps := 4000000) only [Act.put, List.setIfInBounds_toArray, List.set_cons_zero, List.set_cons_succ]
    refine wpAnyH_ready (rs := [1, 5]) (by kernel_rfl) (by simp) ?_
    refine AllReadyH.cons rfl (fun K2 hK2 => ?_) (AllReadyH.cons rfl (fun K2 hK2 => ?_) AllReadyH.nil)
    all_goals go_simp
    · refine hK2.out _ _ (thn hHeld (alc0 _ _)) (fun hHeld2 => ?_)
      clear hK2 K2 hHeld
      have hHeld := hHeld2
      clear hHeld2
      try simp (maxSteps := 4000000) only [Act.put, List.setIfInBounds_toArray, List.set_cons_zero, List.set_cons_succ]
      refine wpAnyH_ready (rs := [5]) (by kernel_rfl) (by simp) ?_
      refine AllReadyH.cons rfl (fun K2 hK2 => ?_) AllReadyH.nil
      go_simp
      refine hK2.out _ _ (thn hHeld (alc0 _ _)) (fun hHeld2 => ?_)
      clear hK2 K2 hHeld
      have hHeld := hHeld2
      clear hHeld2
      try simp (maxSteps := 4000000) only [Act.put, List.setIfInBounds_toArray, List.set_cons_zero, List.set_cons_succ]
      refine wpAnyH_take (i := 6) (v := ?_) rfl (by kernel_rfl) (by kernel_rfl) (by kernel_rfl) (fun _ _ _ h => h) (Or.inl ⟨by kernel_rfl, ?_⟩) (by assumption) ?_
      rotate_left
      · (intro w hSw; (try dsimp only at hSw); (try have hTk := Hid.out HTAKE _ hSw); go_simp)
        try (with_reducible rfl)
      rotate_left
      try simp (maxSteps := 4000000) only [Act.put, List.setIfInBounds_toArray, List.set_cons_zero, List.set_cons_succ, List.getElem_toArray, List.getElem_cons_zero, List.getElem_cons_succ]
      refine wpAnyH_ready (rs := [7]) (by kernel_rfl) (by simp) ?_
      refine AllReadyH.cons rfl (fun K2 hK2 => ?_) AllReadyH.nil
      go_simp
      refine hK2.out _ _ (thn hHeld (alc0 _ _)) (fun hHeld2 => ?_)
      clear hK2 K2 hHeld
      have hHeld := hHeld2
      clear hHeld2
      try simp (maxSteps := 4000000) only [Act.put, List.setIfInBounds_toArray, List.set_cons_zero, List.set_cons_succ]
      refine wpAnyH_take (i := 8) (v := ?_) rfl (by kernel_rfl) (by kernel_rfl) (by kernel_rfl) (fun _ _ _ h => h) (Or.inl ⟨by kernel_rfl, ?_⟩) (by assumption) ?_
      rotate_left
      · (intro w hSw; (try dsimp only at hSw); (try have hTk := Hid.out HTAKE _ hSw); go_simp)
        try (with_reducible rfl)
      rotate_left
      try simp (maxSteps := 4000000) only [Act.put, List.setIfInBounds_toArray, List.set_cons_zero, List.set_cons_succ, List.getElem_toArray, List.getElem_cons_zero, List.getElem_cons_succ]
      refine wpAnyH_done (by kernel_rfl) ?_ _
      have hsA : ((w0.drew.alloc (.map #[] 0)).alloc (.cells (madeCells #[.int .i64 0, .int .i64 0, .int .i64 0, .int .i64 0, .int .i64 0] (k * 5)) 52)).heap.size = w0.heap.size + 1 + 1 := by
        rw [World.size_alloc, World.size_alloc]
        rfl
      have hsB : (w0.drew.alloc (.map #[] 0)).heap.size = w0.heap.size + 1 := World.size_alloc _ _
      have hMP : MP w0.heap.size ((w0.drew.alloc (.map #[] 0)).alloc (.cells (madeCells #[.int .i64 0, .int .i64 0, .int .i64 0, .int .i64 0, .int .i64 0] (k * 5)) 52)) [] := (mp_made w0.drew).keep ((alc0 (w0.drew.alloc (.map #[] 0)) _).block _ (by rw [hsB]; show w0.heap.size < _; omega))
      have hRC : ∀ i, i < k * 5 → ((w0.drew.alloc (.map #[] 0)).alloc (.cells (madeCells #[.int .i64 0, .int .i64 0, .int .i64 0, .int .i64 0, .int .i64 0] (k * 5)) 52)).cell? ⟨w0.heap.size + 1, i, none⟩ = some (.int .i64 0) := fun i hi => by
        rw [← hsB, World.cell?_alloc_mark]
        exact made5 k i hi
      have hRF : ∀ o, ((w0.drew.alloc (.map #[] 0)).alloc (.cells (madeCells #[.int .i64 0, .int .i64 0, .int .i64 0, .int .i64 0, .int .i64 0] (k * 5)) 52)).frozen? ⟨w0.heap.size + 1, o, none⟩ = false := fun o => by
        rw [← hsB]
        exact frz_new _ _ _ _
      have hFIN := mo_new ⟨pg, rg, lg, th, ca, ba, sh, re, mo, fi, ky⟩ k hk64 HOK.out ((w0.drew.alloc (.map #[] 0)).alloc (.cells (madeCells #[.int .i64 0, .int .i64 0, .int .i64 0, .int .i64 0, .int .i64 0] (k * 5)) 52)) (w0.heap.size) (w0.heap.size + 1) hMP (by rw [hsA]; omega) hRC hRF (by omega) 63
      rw [hsA] at hFIN
      have HFIN := Lib.hid hFIN
      clear hFIN hMP hRC hRF
      go_wp2_with fail
      go_ret
      exact ⟨w0.heap.size + 1 + 1, w0.heap.size, w0.heap.size + 1, rfl, by first | exact HFIN.out | exact HFIN.out.below (Below.refl _ _).drew, by omega, by omega, by omega, by first | exact HB0.out.trans ((alc (alc (alc ((Below.refl _ w0).drew) _) _) _).mono HB0.out.size) | exact HB0.out.trans (((alc (alc (alc (Below.refl _ w0) _) _) _).drew).mono HB0.out.size)⟩
    · refine hK2.out _ _ (thn hHeld (alc0 _ _)) (fun hHeld2 => ?_)
      clear hK2 K2 hHeld
      have hHeld := hHeld2
      clear hHeld2
      try simp (maxSteps := 4000000) only [Act.put, List.setIfInBounds_toArray, List.set_cons_zero, List.set_cons_succ]
      refine wpAnyH_ready (rs := [1]) (by kernel_rfl) (by simp) ?_
      refine AllReadyH.cons rfl (fun K2 hK2 => ?_) AllReadyH.nil
      go_simp
      refine hK2.out _ _ (thn hHeld (alc0 _ _)) (fun hHeld2 => ?_)
      clear hK2 K2 hHeld
      have hHeld := hHeld2
      clear hHeld2
      try simp (maxSteps := 4000000) only [Act.put, List.setIfInBounds_toArray, List.set_cons_zero, List.set_cons_succ]
      refine wpAnyH_take (i := 6) (v := ?_) rfl (by kernel_rfl) (by kernel_rfl) (by kernel_rfl) (fun _ _ _ h => h) (Or.inl ⟨by kernel_rfl, ?_⟩) (by assumption) ?_
      rotate_left
      · (intro w hSw; (try dsimp only at hSw); (try have hTk := Hid.out HTAKE _ hSw); go_simp)
        try (with_reducible rfl)
      rotate_left
      try simp (maxSteps := 4000000) only [Act.put, List.setIfInBounds_toArray, List.set_cons_zero, List.set_cons_succ, List.getElem_toArray, List.getElem_cons_zero, List.getElem_cons_succ]
      refine wpAnyH_ready (rs := [7]) (by kernel_rfl) (by simp) ?_
      refine AllReadyH.cons rfl (fun K2 hK2 => ?_) AllReadyH.nil
      go_simp
      refine hK2.out _ _ (thn hHeld (alc0 _ _)) (fun hHeld2 => ?_)
      clear hK2 K2 hHeld
      have hHeld := hHeld2
      clear hHeld2
      try simp (maxSteps := 4000000) only [Act.put, List.setIfInBounds_toArray, List.set_cons_zero, List.set_cons_succ]
      refine wpAnyH_take (i := 8) (v := ?_) rfl (by kernel_rfl) (by kernel_rfl) (by kernel_rfl) (fun _ _ _ h => h) (Or.inl ⟨by kernel_rfl, ?_⟩) (by assumption) ?_
      rotate_left
      · (intro w hSw; (try dsimp only at hSw); (try have hTk := Hid.out HTAKE _ hSw); go_simp)
        try (with_reducible rfl)
      rotate_left
      try simp (maxSteps := 4000000) only [Act.put, List.setIfInBounds_toArray, List.set_cons_zero, List.set_cons_succ, List.getElem_toArray, List.getElem_cons_zero, List.getElem_cons_succ]
      refine wpAnyH_done (by kernel_rfl) ?_ _
      have hsA : ((w0.drew.alloc (.cells (madeCells #[.int .i64 0, .int .i64 0, .int .i64 0, .int .i64 0, .int .i64 0] (k * 5)) 52)).alloc (.map #[] 0)).heap.size = w0.heap.size + 1 + 1 := by
        rw [World.size_alloc, World.size_alloc]
        rfl
      have hsB : (w0.drew.alloc (.cells (madeCells #[.int .i64 0, .int .i64 0, .int .i64 0, .int .i64 0, .int .i64 0] (k * 5)) 52)).heap.size = w0.heap.size + 1 := World.size_alloc _ _
      have hMP : MP (w0.heap.size + 1) ((w0.drew.alloc (.cells (madeCells #[.int .i64 0, .int .i64 0, .int .i64 0, .int .i64 0, .int .i64 0] (k * 5)) 52)).alloc (.map #[] 0)) [] := by
        have h9 := mp_made (w0.drew.alloc (.cells (madeCells #[.int .i64 0, .int .i64 0, .int .i64 0, .int .i64 0, .int .i64 0] (k * 5)) 52))
        rw [hsB] at h9
        exact h9
      have hBm := alc0 (w0.drew.alloc (.cells (madeCells #[.int .i64 0, .int .i64 0, .int .i64 0, .int .i64 0, .int .i64 0] (k * 5)) 52)) (.map #[] 0)
      have hltm : w0.heap.size < (w0.drew.alloc (.cells (madeCells #[.int .i64 0, .int .i64 0, .int .i64 0, .int .i64 0, .int .i64 0] (k * 5)) 52)).heap.size := by rw [hsB]; omega
      have hRC : ∀ i, i < k * 5 → ((w0.drew.alloc (.cells (madeCells #[.int .i64 0, .int .i64 0, .int .i64 0, .int .i64 0, .int .i64 0] (k * 5)) 52)).alloc (.map #[] 0)).cell? ⟨w0.heap.size, i, none⟩ = some (.int .i64 0) := fun i hi => by
        rw [hBm.cell (p := ⟨w0.heap.size, i, none⟩) hltm]
        exact (show (w0.drew.alloc _).cell? ⟨w0.drew.heap.size, i, none⟩ = _ from by rw [World.cell?_alloc_mark]; exact made5 k i hi)
      have hRF : ∀ o, ((w0.drew.alloc (.cells (madeCells #[.int .i64 0, .int .i64 0, .int .i64 0, .int .i64 0, .int .i64 0] (k * 5)) 52)).alloc (.map #[] 0)).frozen? ⟨w0.heap.size, o, none⟩ = false := fun o => by
        rw [hBm.frozen (p := ⟨w0.heap.size, o, none⟩) hltm]
        exact frz_new w0.drew _ _ o
      have hFIN := mo_new ⟨pg, rg, lg, th, ca, ba, sh, re, mo, fi, ky⟩ k hk64 HOK.out ((w0.drew.alloc (.cells (madeCells #[.int .i64 0, .int .i64 0, .int .i64 0, .int .i64 0, .int .i64 0] (k * 5)) 52)).alloc (.map #[] 0)) (w0.heap.size + 1) (w0.heap.size) hMP (by rw [hsA]; omega) hRC hRF (by omega) 63
      rw [hsA] at hFIN
      have HFIN := Lib.hid hFIN
      clear hFIN hMP hRC hRF
      go_wp2_with fail
      go_ret
      exact ⟨w0.heap.size + 1 + 1, w0.heap.size + 1, w0.heap.size, rfl, by first | exact HFIN.out | exact HFIN.out.below (Below.refl _ _).drew, by omega, by omega, by omega, by first | exact HB0.out.trans ((alc (alc (alc ((Below.refl _ w0).drew) _) _) _).mono HB0.out.size) | exact HB0.out.trans (((alc (alc (alc (Below.refl _ w0) _) _) _).drew).mono HB0.out.size)⟩
section
variable {m mb r : Nat} {C : Cf} {md : Nat} {rs : List Rf} {W : World}
theorem mgetd (k : Int) (h : MO m mb r C md [] rs W) : Calls Try.prog 16 #[.pointer (some ⟨m, 0, none⟩), .int .i64 k] W fun e w' => e = .returned z5 ∧ Below W.heap.size W w' := by
  by_cases hk : k < 0 ∨ (rs.length : Int) ≤ k
  · exact mget_no k h hk
  · obtain ⟨q, hq⟩ : ∃ q : Nat, k = (q : Int) := ⟨k.toNat, by omega⟩
    subst hq
    have hlt : q < rs.length := by omega
    have := mget_yes q (rs[q]) h (List.getElem?_eq_getElem hlt)
    rw [goodR_nil] at this
    exact this
end
end Go.Proofs.Ytanmmhbnjmglhaa
