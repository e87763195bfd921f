/- MoQ. -/
import Derived.Test.YtanmmhbnjmglhaaZ22
import Derived.Deep.RegionHeld3
namespace Go.Proofs.Ytanmmhbnjmglhaa
set_option maxRecDepth 100000
open Go.RowKit Go.ChangeMaps Go.MapKept
set_option linter.unusedVariables false
set_option linter.unusedSimpArgs false
section
variable {C : Cf} {L : Option Addr} {r ll lc k kc : Nat} {W : World}
theorem rget_no (R : Option Addr) (i : Int) (hi : i < 0 ∨ (k : Int) ≤ i) : Calls Try.prog 17 #[rmv C L ll lc R k kc, .int .i64 i] W fun e w' => e = .returned z5 ∧ Below W.heap.size W w' := by
  by_cases h1 : i < 0
  · clear hi
    go_enter Try.func17, Try.ntmps17
    go_wp2_with fail
    refine bodyPost_ret (v := z5) (by simp [results, Try.results17, go_sem]) rfl ⟨rfl, ?_⟩
    exact alc (alc0 W _) _
  · have h2 : i ≥ (k : Int) := by omega
    clear hi
    go_enter Try.func17, Try.ntmps17
    go_wp2_with fail
    refine bodyPost_ret (v := z5) (by simp [results, Try.results17, go_sem]) rfl ⟨rfl, ?_⟩
    exact alc (alc0 W _) _
set_option maxHeartbeats 1000000 in
theorem rget_yes (i : Nat) (q g : Rf) (hi : i < k) (hr : r < W.heap.size) (hq : RfAt W r (i * 5) q)
    (HG : ∀ w : World, (∀ b, b < W.heap.size → w.heap[b]? = W.heap[b]?) → Calls Try.prog 32 #[rmv C L ll lc (some ⟨r, 0, none⟩) k kc, q.v] w fun e w' => e = .returned g.v ∧ Below w.heap.size w w') :
    Calls Try.prog 17 #[rmv C L ll lc (some ⟨r, 0, none⟩) k kc, .int .i64 (i : Int)] W fun e w' => e = .returned g.v ∧ Below W.heap.size W w' := by
  have h0 : ¬ (i : Int) < 0 := by omega
  have h1 : ¬ (i : Int) ≥ (k : Int) := by omega
  have h2 : (i : Int) < (k : Int) := by omega
  have h3 : (0 : Int) ≤ (i : Int) := by omega
  have HGR := Lib.hid HG
  clear HG
  obtain ⟨g0, g1, g2, g3, g4⟩ := hq
  obtain ⟨gc, go, gl, gu, gp⟩ := g
  simp only [Rf.v] at *
  go_enter Try.func17, Try.ntmps17
  go_upto_region 3 with (fail)
  obtain ⟨wb, hwb⟩ : ∃ wb, (W.alloc (.cells #[.int .i64 C.pg, .int .i64 C.rg, .int .i64 C.lg, .int .i64 C.th, .int .i64 C.ca, .int .i64 C.ba, .int .i64 C.sh, .int .i64 C.re, .int .i64 C.mo, .int .i64 C.fi, .int .u64 C.ky, .slice L ll lc, .slice (some ⟨r, 0, none⟩) k kc] 34)).alloc (.cells #[.int .i64 0, .int .i64 0, .int .i64 0, .int .i64 0, .int .i64 0] 54) = wb := ⟨_, rfl⟩
  have hbb : Below W.heap.size W wb := by rw [← hwb]; exact alc (alc0 _ _) _
  have hsb : wb.heap.size = W.heap.size + 2 := by rw [← hwb]; simp
  have hmc : ∀ o u, (#[.int .i64 C.pg, .int .i64 C.rg, .int .i64 C.lg, .int .i64 C.th, .int .i64 C.ca, .int .i64 C.ba, .int .i64 C.sh, .int .i64 C.re, .int .i64 C.mo, .int .i64 C.fi, .int .u64 C.ky, .slice L ll lc, .slice (some ⟨r, 0, none⟩) k kc] : Array Value)[o]? = some u → wb.cell? ⟨W.heap.size, o, none⟩ = some u := fun o u hu => by
    rw [← hwb]
    refine ((alc0 (W.alloc (.cells #[.int .i64 C.pg, .int .i64 C.rg, .int .i64 C.lg, .int .i64 C.th, .int .i64 C.ca, .int .i64 C.ba, .int .i64 C.sh, .int .i64 C.re, .int .i64 C.mo, .int .i64 C.fi, .int .u64 C.ky, .slice L ll lc, .slice (some ⟨r, 0, none⟩) k kc] 34)) _).cell (p := ⟨W.heap.size, o, none⟩) (by simp)).trans ?_
    rw [World.cell?_alloc_mark]
    exact hu
  have hyc : YC (W.heap.size + 1) wb := by
    have h9 := yc_new (W.alloc (.cells #[.int .i64 C.pg, .int .i64 C.rg, .int .i64 C.lg, .int .i64 C.th, .int .i64 C.ca, .int .i64 C.ba, .int .i64 C.sh, .int .i64 C.re, .int .i64 C.mo, .int .i64 C.fi, .int .u64 C.ky, .slice L ll lc, .slice (some ⟨r, 0, none⟩) k kc] 34)) 54
    rw [World.size_alloc] at h9
    rw [← hwb]; exact h9
  rw [hwb]
  clear hwb
  have m0 := hmc 0 _ rfl
  have m1 := hmc 1 _ rfl
  have m2 := hmc 2 _ rfl
  have m3 := hmc 3 _ rfl
  have m4 := hmc 4 _ rfl
  have m5 := hmc 5 _ rfl
  have m6 := hmc 6 _ rfl
  have m7 := hmc 7 _ rfl
  have m8 := hmc 8 _ rfl
  have m9 := hmc 9 _ rfl
  have m10 := hmc 10 _ rfl
  have m11 := hmc 11 _ rfl
  have m12 := hmc 12 _ rfl
  have f0 := (hbb.cell (p := ⟨r, i * 5, none⟩) hr).trans g0
  have f1 := (hbb.cell (p := ⟨r, i * 5 + 1, none⟩) hr).trans g1
  have f2 := (hbb.cell (p := ⟨r, i * 5 + 2, none⟩) hr).trans g2
  have f3 := (hbb.cell (p := ⟨r, i * 5 + 3, none⟩) hr).trans g3
  have f4 := (hbb.cell (p := ⟨r, i * 5 + 4, none⟩) hr).trans g4
  have HBB := Lib.hid hbb
  have HYC := Lib.hid hyc
  clear hmc hbb hyc g0 g1 g2 g3 g4
  refine wp_region_held_drew (S := fun w' => w'.cell? ⟨W.heap.size, 0, none⟩ = some (.int .i64 C.pg) ∧ w'.cell? ⟨W.heap.size, 1, none⟩ = some (.int .i64 C.rg) ∧ w'.cell? ⟨W.heap.size, 2, none⟩ = some (.int .i64 C.lg) ∧ w'.cell? ⟨W.heap.size, 3, none⟩ = some (.int .i64 C.th) ∧ w'.cell? ⟨W.heap.size, 4, none⟩ = some (.int .i64 C.ca) ∧ w'.cell? ⟨W.heap.size, 5, none⟩ = some (.int .i64 C.ba) ∧ w'.cell? ⟨W.heap.size, 6, none⟩ = some (.int .i64 C.sh) ∧ w'.cell? ⟨W.heap.size, 7, none⟩ = some (.int .i64 C.re) ∧ w'.cell? ⟨W.heap.size, 8, none⟩ = some (.int .i64 C.mo) ∧ w'.cell? ⟨W.heap.size, 9, none⟩ = some (.int .i64 C.fi) ∧ w'.cell? ⟨W.heap.size, 10, none⟩ = some (.int .u64 C.ky) ∧ w'.cell? ⟨W.heap.size, 11, none⟩ = some (.slice L ll lc) ∧ w'.cell? ⟨W.heap.size, 12, none⟩ = some (.slice (some ⟨r, 0, none⟩) k kc) ∧ w'.cell? ⟨r, i * 5, none⟩ = some (.int .i64 q.c) ∧ w'.cell? ⟨r, i * 5 + 1, none⟩ = some (.int .i64 q.o) ∧ w'.cell? ⟨r, i * 5 + 2, none⟩ = some (.int .i64 q.l) ∧ w'.cell? ⟨r, i * 5 + 3, none⟩ = some (.int .i64 q.u) ∧ w'.cell? ⟨r, i * 5 + 4, none⟩ = some (.int .i64 q.p)) (by kernel_rfl) ?_ (fun hHeld => ?_)
  · exact ⟨m0, m1, m2, m3, m4, m5, m6, m7, m8, m9, m10, m11, m12, f0, f1, f2, f3, f4⟩
  refine wpAnyH_take (i := 0) (v := ?_) rfl (by kernel_rfl) (by kernel_rfl) (by kernel_rfl) (fun _ _ _ h => h) (Or.inl ⟨by kernel_rfl, ?_⟩) (by assumption) ?_
  rotate_left
  · (intro w hSw; (try dsimp only at hSw); go_simp)
    try (with_reducible rfl)
  rotate_left
  try simp (maxSteps := 4000000) only [Act.put, List.setIfInBounds_toArray, List.set_cons_zero, List.set_cons_succ, List.getElem_toArray, List.getElem_cons_zero, List.getElem_cons_succ]
  refine wpAnyH_take (i := 1) (v := ?_) rfl (by kernel_rfl) (by kernel_rfl) (by kernel_rfl) (fun _ _ _ h => h) (Or.inl ⟨by kernel_rfl, ?_⟩) (by assumption) ?_
  rotate_left
  · (intro w hSw; (try dsimp only at hSw); go_simp)
    try (with_reducible rfl)
  rotate_left
  try simp (maxSteps := 4000000) only [Act.put, List.setIfInBounds_toArray, List.set_cons_zero, List.set_cons_succ, List.getElem_toArray, List.getElem_cons_zero, List.getElem_cons_succ]
  refine wpAnyH_take (i := 2) (v := ?_) rfl (by kernel_rfl) (by kernel_rfl) (by kernel_rfl) (fun _ _ _ h => h) (Or.inl ⟨by kernel_rfl, ?_⟩) (by assumption) ?_
  rotate_left
  · (intro w hSw; (try dsimp only at hSw); go_simp)
    try (with_reducible rfl)
  rotate_left
  try simp (maxSteps := 4000000) only [Act.put, List.setIfInBounds_toArray, List.set_cons_zero, List.set_cons_succ, List.getElem_toArray, List.getElem_cons_zero, List.getElem_cons_succ]
  refine wpAnyH_take (i := 3) (v := ?_) rfl (by kernel_rfl) (by kernel_rfl) (by kernel_rfl) (fun _ _ _ h => h) (Or.inl ⟨by kernel_rfl, ?_⟩) (by assumption) ?_
  rotate_left
  · (intro w hSw; (try dsimp only at hSw); go_simp)
    try (with_reducible rfl)
  rotate_left
  try simp (maxSteps := 4000000) only [Act.put, List.setIfInBounds_toArray, List.set_cons_zero, List.set_cons_succ, List.getElem_toArray, List.getElem_cons_zero, List.getElem_cons_succ]
  refine wpAnyH_take (i := 4) (v := ?_) rfl (by kernel_rfl) (by kernel_rfl) (by kernel_rfl) (fun _ _ _ h => h) (Or.inl ⟨by kernel_rfl, ?_⟩) (by assumption) ?_
  rotate_left
  · (intro w hSw; (try dsimp only at hSw); go_simp)
    try (with_reducible rfl)
  rotate_left
  try simp (maxSteps := 4000000) only [Act.put, List.setIfInBounds_toArray, List.set_cons_zero, List.set_cons_succ, List.getElem_toArray, List.getElem_cons_zero, List.getElem_cons_succ]
  refine wpAnyH_take (i := 5) (v := ?_) rfl (by kernel_rfl) (by kernel_rfl) (by kernel_rfl) (fun _ _ _ h => h) (Or.inl ⟨by kernel_rfl, ?_⟩) (by assumption) ?_
  rotate_left
  · (intro w hSw; (try dsimp only at hSw); go_simp)
    try (with_reducible rfl)
  rotate_left
  try simp (maxSteps := 4000000) only [Act.put, List.setIfInBounds_toArray, List.set_cons_zero, List.set_cons_succ, List.getElem_toArray, List.getElem_cons_zero, List.getElem_cons_succ]
  refine wpAnyH_ready (rs := [6]) (by kernel_rfl) (by simp) ?_
  refine AllReadyH.cons rfl (fun K2 hK2 => ?_) AllReadyH.nil
  go_simp
  with_reducible refine Calls.mono (HGR.out wb.drew (fun b hb => HBB.out.drew.block b hb)) ?_
  rintro e w3 ⟨rfl, hb3⟩
  have hs3 : wb.heap.size ≤ w3.heap.size := hb3.size
  have hk9 : ∀ q : Nat, q < wb.heap.size → w3.heap[q]? = wb.heap[q]? := fun q hq => hb3.block q (by show q < wb.heap.size; omega)
  have HB3 := Lib.hid (HBB.out.drew.trans (hb3.mono HBB.out.size))
  have hyc3 := HYC.out.block (hk9 (W.heap.size + 1) (by omega))
  have s1 : w3.cell? ⟨W.heap.size, 0, none⟩ = some (.int .i64 C.pg) ∧ w3.cell? ⟨W.heap.size, 1, none⟩ = some (.int .i64 C.rg) ∧ w3.cell? ⟨W.heap.size, 2, none⟩ = some (.int .i64 C.lg) ∧ w3.cell? ⟨W.heap.size, 3, none⟩ = some (.int .i64 C.th) ∧ w3.cell? ⟨W.heap.size, 4, none⟩ = some (.int .i64 C.ca) ∧ w3.cell? ⟨W.heap.size, 5, none⟩ = some (.int .i64 C.ba) ∧ w3.cell? ⟨W.heap.size, 6, none⟩ = some (.int .i64 C.sh) ∧ w3.cell? ⟨W.heap.size, 7, none⟩ = some (.int .i64 C.re) ∧ w3.cell? ⟨W.heap.size, 8, none⟩ = some (.int .i64 C.mo) ∧ w3.cell? ⟨W.heap.size, 9, none⟩ = some (.int .i64 C.fi) ∧ w3.cell? ⟨W.heap.size, 10, none⟩ = some (.int .u64 C.ky) ∧ w3.cell? ⟨W.heap.size, 11, none⟩ = some (.slice L ll lc) ∧ w3.cell? ⟨W.heap.size, 12, none⟩ = some (.slice (some ⟨r, 0, none⟩) k kc) ∧ w3.cell? ⟨r, i * 5, none⟩ = some (.int .i64 q.c) ∧ w3.cell? ⟨r, i * 5 + 1, none⟩ = some (.int .i64 q.o) ∧ w3.cell? ⟨r, i * 5 + 2, none⟩ = some (.int .i64 q.l) ∧ w3.cell? ⟨r, i * 5 + 3, none⟩ = some (.int .i64 q.u) ∧ w3.cell? ⟨r, i * 5 + 4, none⟩ = some (.int .i64 q.p) := ⟨(World.cell?_of_block (hk9 W.heap.size (by omega))).trans m0, (World.cell?_of_block (hk9 W.heap.size (by omega))).trans m1, (World.cell?_of_block (hk9 W.heap.size (by omega))).trans m2, (World.cell?_of_block (hk9 W.heap.size (by omega))).trans m3, (World.cell?_of_block (hk9 W.heap.size (by omega))).trans m4, (World.cell?_of_block (hk9 W.heap.size (by omega))).trans m5, (World.cell?_of_block (hk9 W.heap.size (by omega))).trans m6, (World.cell?_of_block (hk9 W.heap.size (by omega))).trans m7, (World.cell?_of_block (hk9 W.heap.size (by omega))).trans m8, (World.cell?_of_block (hk9 W.heap.size (by omega))).trans m9, (World.cell?_of_block (hk9 W.heap.size (by omega))).trans m10, (World.cell?_of_block (hk9 W.heap.size (by omega))).trans m11, (World.cell?_of_block (hk9 W.heap.size (by omega))).trans m12, (World.cell?_of_block (hk9 r (by omega))).trans f0, (World.cell?_of_block (hk9 r (by omega))).trans f1, (World.cell?_of_block (hk9 r (by omega))).trans f2, (World.cell?_of_block (hk9 r (by omega))).trans f3, (World.cell?_of_block (hk9 r (by omega))).trans f4⟩
  clear hk9 hb3
  obtain ⟨y0, z0⟩ := hyc3 0 (by decide)
  obtain ⟨y1, z1⟩ := hyc3 1 (by decide)
  obtain ⟨y2, z2⟩ := hyc3 2 (by decide)
  obtain ⟨y3, z3⟩ := hyc3 3 (by decide)
  obtain ⟨y4, z4⟩ := hyc3 4 (by decide)
  refine hK2.out _ _ (s1) (fun hHeld2 => ?_)
  clear hK2 K2 hHeld
  have hHeld := hHeld2
  clear hHeld2
  try simp (maxSteps := 4000000) only [Act.put, List.setIfInBounds_toArray, List.set_cons_zero, List.set_cons_succ]
  refine wpAnyH_ready (rs := [7]) (by kernel_rfl) (by simp) ?_
  refine AllReadyH.cons rfl (fun K2 hK2 => ?_) AllReadyH.nil
  go_simp
  obtain ⟨w4, hw4⟩ : ∃ w4, w4 = (((((w3.setCell ⟨W.heap.size + 1, 0, none⟩ (.int .i64 gc)).setCell ⟨W.heap.size + 1, 1, none⟩ (.int .i64 go)).setCell ⟨W.heap.size + 1, 2, none⟩ (.int .i64 gl)).setCell ⟨W.heap.size + 1, 3, none⟩ (.int .i64 gu)).setCell ⟨W.heap.size + 1, 4, none⟩ (.int .i64 gp)) := ⟨_, rfl⟩
  obtain ⟨g1, g2, g3⟩ := set5 w3 (W.heap.size + 1) (.int .i64 gc) (.int .i64 go) (.int .i64 gl) (.int .i64 gu) (.int .i64 gp) w4 hw4
  rw [← hw4]
  have e4 : ∀ q : Nat, q ≠ W.heap.size + 1 → ∀ k o v, w3.cell? ⟨q, k, o⟩ = some v → w4.cell? ⟨q, k, o⟩ = some v := fun q hq k o v hv => (World.cell?_of_block (a := ⟨q, k, o⟩) (g2 q hq)).trans hv
  have s4 : w4.cell? ⟨W.heap.size, 0, none⟩ = some (.int .i64 C.pg) ∧ w4.cell? ⟨W.heap.size, 1, none⟩ = some (.int .i64 C.rg) ∧ w4.cell? ⟨W.heap.size, 2, none⟩ = some (.int .i64 C.lg) ∧ w4.cell? ⟨W.heap.size, 3, none⟩ = some (.int .i64 C.th) ∧ w4.cell? ⟨W.heap.size, 4, none⟩ = some (.int .i64 C.ca) ∧ w4.cell? ⟨W.heap.size, 5, none⟩ = some (.int .i64 C.ba) ∧ w4.cell? ⟨W.heap.size, 6, none⟩ = some (.int .i64 C.sh) ∧ w4.cell? ⟨W.heap.size, 7, none⟩ = some (.int .i64 C.re) ∧ w4.cell? ⟨W.heap.size, 8, none⟩ = some (.int .i64 C.mo) ∧ w4.cell? ⟨W.heap.size, 9, none⟩ = some (.int .i64 C.fi) ∧ w4.cell? ⟨W.heap.size, 10, none⟩ = some (.int .u64 C.ky) ∧ w4.cell? ⟨W.heap.size, 11, none⟩ = some (.slice L ll lc) ∧ w4.cell? ⟨W.heap.size, 12, none⟩ = some (.slice (some ⟨r, 0, none⟩) k kc) ∧ w4.cell? ⟨r, i * 5, none⟩ = some (.int .i64 q.c) ∧ w4.cell? ⟨r, i * 5 + 1, none⟩ = some (.int .i64 q.o) ∧ w4.cell? ⟨r, i * 5 + 2, none⟩ = some (.int .i64 q.l) ∧ w4.cell? ⟨r, i * 5 + 3, none⟩ = some (.int .i64 q.u) ∧ w4.cell? ⟨r, i * 5 + 4, none⟩ = some (.int .i64 q.p) := ⟨e4 W.heap.size (by omega) _ _ _ s1.1, e4 W.heap.size (by omega) _ _ _ s1.2.1, e4 W.heap.size (by omega) _ _ _ s1.2.2.1, e4 W.heap.size (by omega) _ _ _ s1.2.2.2.1, e4 W.heap.size (by omega) _ _ _ s1.2.2.2.2.1, e4 W.heap.size (by omega) _ _ _ s1.2.2.2.2.2.1, e4 W.heap.size (by omega) _ _ _ s1.2.2.2.2.2.2.1, e4 W.heap.size (by omega) _ _ _ s1.2.2.2.2.2.2.2.1, e4 W.heap.size (by omega) _ _ _ s1.2.2.2.2.2.2.2.2.1, e4 W.heap.size (by omega) _ _ _ s1.2.2.2.2.2.2.2.2.2.1, e4 W.heap.size (by omega) _ _ _ s1.2.2.2.2.2.2.2.2.2.2.1, e4 W.heap.size (by omega) _ _ _ s1.2.2.2.2.2.2.2.2.2.2.2.1, e4 W.heap.size (by omega) _ _ _ s1.2.2.2.2.2.2.2.2.2.2.2.2.1, e4 r (by omega) _ _ _ s1.2.2.2.2.2.2.2.2.2.2.2.2.2.1, e4 r (by omega) _ _ _ s1.2.2.2.2.2.2.2.2.2.2.2.2.2.2.1, e4 r (by omega) _ _ _ s1.2.2.2.2.2.2.2.2.2.2.2.2.2.2.2.1, e4 r (by omega) _ _ _ s1.2.2.2.2.2.2.2.2.2.2.2.2.2.2.2.2.1, e4 r (by omega) _ _ _ s1.2.2.2.2.2.2.2.2.2.2.2.2.2.2.2.2.2⟩
  have q0 : w4.cell? ⟨W.heap.size + 1, 0, none⟩ = some (.int .i64 gc) := by rw [hw4]; simp [go_sem, y0, y1, y2, y3, y4]
  have q1 : w4.cell? ⟨W.heap.size + 1, 1, none⟩ = some (.int .i64 go) := by rw [hw4]; simp [go_sem, y0, y1, y2, y3, y4]
  have q2 : w4.cell? ⟨W.heap.size + 1, 2, none⟩ = some (.int .i64 gl) := by rw [hw4]; simp [go_sem, y0, y1, y2, y3, y4]
  have q3 : w4.cell? ⟨W.heap.size + 1, 3, none⟩ = some (.int .i64 gu) := by rw [hw4]; simp [go_sem, y0, y1, y2, y3, y4]
  have q4 : w4.cell? ⟨W.heap.size + 1, 4, none⟩ = some (.int .i64 gp) := by rw [hw4]; simp [go_sem, y0, y1, y2, y3, y4]
  clear hw4 e4
  refine hK2.out _ _ (s4) (fun hHeld2 => ?_)
  clear hK2 K2 hHeld
  have hHeld := hHeld2
  clear hHeld2
  try simp (maxSteps := 4000000) only [Act.put, List.setIfInBounds_toArray, List.set_cons_zero, List.set_cons_succ]
  refine wpAnyH_done (by kernel_rfl) ?_ _
  go_wp2_with fail
  refine bodyPost_ret (v := .agg #[.int .i64 gc, .int .i64 go, .int .i64 gl, .int .i64 gu, .int .i64 gp]) (by simp [results, Try.results17, go_sem, q0, q1, q2, q3, q4]) rfl ⟨rfl, ?_⟩
  exact HB3.out.trans (g3 _ (by omega))
end
end Go.Proofs.Ytanmmhbnjmglhaa
