/- SweepClears: a granule is swept. -/
import Derived.Test.YtljjcomedjdpaaaDoorSgA
import Derived.Deep.RegionHeld3
import Derived.Deep.DeepCutAuto
namespace Go.Proofs.YtljjcomedjdpaaaDoor
set_option maxRecDepth 100000
open Go.RowKit Go.ChangeMaps Go.MapKept
set_option linter.unusedVariables false
set_option linter.unusedSimpArgs false

/-- The pages of a sweep. -/
def PgR (b o ln : Nat) (W : World) (PL : Nat → Nat) : Prop := b < W.heap.size ∧ ∀ i, i < ln → W.cell? ⟨b, o + i, none⟩ = some (.int .i64 (PL i : Int))
theorem PgR.keep {b o ln : Nat} {W W' : World} {PL : Nat → Nat} (h : PgR b o ln W PL) (hs : W.heap.size ≤ W'.heap.size) (hk : W'.heap[b]? = W.heap[b]?) : PgR b o ln W' PL :=
  ⟨Nat.lt_of_lt_of_le h.1 hs, fun i hi => (World.cell?_of_block hk).trans (h.2 i hi)⟩
theorem PgR.below {b o ln : Nat} {W W' : World} {PL : Nat → Nat} (h : PgR b o ln W PL) (hb : Below W.heap.size W W') : PgR b o ln W' PL := h.keep hb.size (hb.block b h.1)
set_option maxHeartbeats 6400000 in
theorem sone_g (s k ln cp d n M R P lo hi gp pb po x q B : Nat) (col : Nat → Nat) (PL : Nat → Nat) (PT : Nat → Bool) (σ : MS) (W : World) (c : Int) (ws : List Nat) (r : Bool) (hs : SWAt s k (some ⟨pb, po, none⟩) ln cp d n W) (hm : MEM B col M W σ) (hp : PtIs lo hi gp P W c ws) (hb : ∀ y, bitB ws y = PT y) (hl : PgR pb po ln W PL) (hk : k ≤ d) (hq : d - k = q) (hql : q < 16 * ln) (hx : PL (q / 16) * 16 + q % 16 = x) (hx2 : x < 16384) (hkp : σ.kp x = true → Kept9 (σ.kv x)) (hkv : ∀ i, σ.kv x i < 256) (hr : PM PT (capK σ x) = r) :
    Calls Tryd.prog 39 #[.pointer (some ⟨s, 0, none⟩), .pointer (some ⟨M, 0, none⟩), .pointer (some ⟨R, 0, none⟩), .pointer (some ⟨P, 0, none⟩)] W fun e w' => e = .returned (.bool r) ∧ if r then MStep B col M W { σ with kp := offK σ.kp x } w' else Below W.heap.size W w' := by
  have HS := Lib.hid hs
  have HM := Lib.hid hm
  have HP := Lib.hid hp
  have HBT := Lib.hid hb
  have HL := Lib.hid hl
  have HKP := Lib.hid hkp
  have HKV := Lib.hid hkv
  have HR := Lib.hid hr
  have hk64 : k ≤ 64 ∧ ln ≤ 1024 ∧ d ≤ 20000 := ⟨hs.2.2.2.1, hs.2.2.2.2.1, hs.2.2.2.2.2.1⟩
  obtain ⟨i, hi'⟩ : ∃ i, q / 16 = i := ⟨_, rfl⟩
  obtain ⟨j, hj⟩ : ∃ j, q % 16 = j := ⟨_, rfl⟩
  rw [hi', hj] at hx
  obtain ⟨pv, hpv⟩ : ∃ pv, PL i = pv := ⟨_, rfl⟩
  rw [hpv] at hx
  have n1 : ¬ (d : Int) < (k : Int) := by omega
  have w1 : IntKind.i64.wrap ((d : Int) - (k : Int)) = (q : Int) := by rw [IntWalk.i64_in _ (by omega)]; omega
  have w2 : (q : Int).tdiv 16 = (i : Int) := by rw [Int.tdiv_eq_ediv_of_nonneg (by omega)]; omega
  have w3 : (q : Int).tmod 16 = (j : Int) := by rw [Int.tmod_eq_emod_of_nonneg (by omega)]; omega
  have w4 : IntKind.i64.wrap ((pv : Int) * 16) = ((pv * 16 : Nat) : Int) := by rw [IntWalk.i64_in _ (by omega)]; omega
  have w5 : IntKind.i64.wrap (((pv * 16 : Nat) : Int) + (j : Int)) = (x : Int) := by rw [IntWalk.i64_in _ (by omega)]; omega
  have w6 : (i : Int) < (ln : Int) := by omega
  have w7 : (0 : Int) ≤ (i : Int) := by omega
  have hil : i < ln := by omega
  have HPV : Hid (∀ w', PgR pb po ln w' PL → w'.cell? ⟨pb, po + i, none⟩ = some (.int .i64 (pv : Int))) := Lib.hid (fun w' h => by rw [← hpv]; exact h.2 i hil)
  have HT := Lib.hid hm.tz
  have HXX := Lib.hid hx2
  generalize pv * 16 = pv16 at *
  clear hs hm hp hb hl hk hq hql hx hx2 hkp hkv hr hi' hj hpv hil
  go_enter Tryd.func39, Tryd.ntmps39
  go_upto_region 1 with (fail)
  have HTAKE := Lib.hid (fun (w' : World) (h : SWAt s k (some ⟨pb, po, none⟩) ln cp d n w') => h.2.1)
  refine wp_region_held_drew (S := fun w' => SWAt s k (some ⟨pb, po, none⟩) ln cp d n w') (by kernel_rfl) ?_ (fun hHeld => ?_)
  · exact HS.out.below (Below.refl _ _).drew
  refine wpAnyH_take (i := 0) (v := ?_) rfl (by kernel_rfl) (by kernel_rfl) (by kernel_rfl) (fun _ _ _ h => h) (Or.inl ⟨by kernel_rfl, ?_⟩) (by assumption) ?_
  rotate_left
  · (intro w hSw; (try dsimp only at hSw); (try have hTk := Hid.out HTAKE _ hSw); go_simp)
    try (with_reducible rfl)
  rotate_left
  try simp (maxSteps := 4000000) only [Act.put, List.setIfInBounds_toArray, List.set_cons_zero, List.set_cons_succ, List.getElem_toArray, List.getElem_cons_zero, List.getElem_cons_succ]
  refine wpAnyH_take (i := 1) (v := ?_) rfl (by kernel_rfl) (by kernel_rfl) (by kernel_rfl) (fun _ _ _ h => h) (Or.inl ⟨by kernel_rfl, ?_⟩) (by assumption) ?_
  rotate_left
  · (intro w hSw; (try dsimp only at hSw); (try have hTk := Hid.out HTAKE _ hSw); go_simp)
    try (with_reducible rfl)
  rotate_left
  try simp (maxSteps := 4000000) only [Act.put, List.setIfInBounds_toArray, List.set_cons_zero, List.set_cons_succ, List.getElem_toArray, List.getElem_cons_zero, List.getElem_cons_succ]
  refine wpAnyH_take (i := 2) (v := ?_) rfl (by kernel_rfl) (by kernel_rfl) (by kernel_rfl) (fun _ _ _ h => h) (Or.inl ⟨by kernel_rfl, ?_⟩) (by assumption) ?_
  rotate_left
  · (intro w hSw; (try dsimp only at hSw); (try have hTk := Hid.out HTAKE _ hSw); go_simp)
    try (with_reducible rfl)
  rotate_left
  try simp (maxSteps := 4000000) only [Act.put, List.setIfInBounds_toArray, List.set_cons_zero, List.set_cons_succ, List.getElem_toArray, List.getElem_cons_zero, List.getElem_cons_succ]
  refine wpAnyH_take (i := 3) (v := ?_) rfl (by kernel_rfl) (by kernel_rfl) (by kernel_rfl) (fun _ _ _ h => h) (Or.inl ⟨by kernel_rfl, ?_⟩) (by assumption) ?_
  rotate_left
  · (intro w hSw; (try dsimp only at hSw); (try have hTk := Hid.out HTAKE _ hSw); go_simp)
    try (with_reducible rfl)
  rotate_left
  try simp (maxSteps := 4000000) only [Act.put, List.setIfInBounds_toArray, List.set_cons_zero, List.set_cons_succ, List.getElem_toArray, List.getElem_cons_zero, List.getElem_cons_succ]
  refine wpAnyH_take (i := 4) (v := ?_) rfl (by kernel_rfl) (by kernel_rfl) (by kernel_rfl) (fun _ _ _ h => h) (Or.inl ⟨by kernel_rfl, ?_⟩) (by assumption) ?_
  rotate_left
  · (intro w hSw; (try dsimp only at hSw); (try have hTk := Hid.out HTAKE _ hSw); go_simp)
    try (with_reducible rfl)
  rotate_left
  try simp (maxSteps := 4000000) only [Act.put, List.setIfInBounds_toArray, List.set_cons_zero, List.set_cons_succ, List.getElem_toArray, List.getElem_cons_zero, List.getElem_cons_succ]
  refine wpAnyH_take (i := 5) (v := ?_) rfl (by kernel_rfl) (by kernel_rfl) (by kernel_rfl) (fun _ _ _ h => h) (Or.inl ⟨by kernel_rfl, ?_⟩) (by assumption) ?_
  rotate_left
  · (intro w hSw; (try dsimp only at hSw); (try have hTk := Hid.out HTAKE _ hSw); go_simp)
    try (with_reducible rfl)
  rotate_left
  try simp (maxSteps := 4000000) only [Act.put, List.setIfInBounds_toArray, List.set_cons_zero, List.set_cons_succ, List.getElem_toArray, List.getElem_cons_zero, List.getElem_cons_succ]
  refine wpAnyH_take (i := 6) (v := ?_) rfl (by kernel_rfl) (by kernel_rfl) (by kernel_rfl) (fun _ _ _ h => h) (Or.inl ⟨by kernel_rfl, ?_⟩) (by assumption) ?_
  rotate_left
  · (intro w hSw; (try dsimp only at hSw); (try have hTk := Hid.out HTAKE _ hSw); go_simp)
    try (with_reducible rfl)
  rotate_left
  try simp (maxSteps := 4000000) only [Act.put, List.setIfInBounds_toArray, List.set_cons_zero, List.set_cons_succ, List.getElem_toArray, List.getElem_cons_zero, List.getElem_cons_succ]
  refine wpAnyH_take (i := 7) (v := ?_) rfl (by kernel_rfl) (by kernel_rfl) (by kernel_rfl) (fun _ _ _ h => h) (Or.inl ⟨by kernel_rfl, ?_⟩) (by assumption) ?_
  rotate_left
  · (intro w hSw; (try dsimp only at hSw); (try have hTk := Hid.out HTAKE _ hSw); go_simp)
    try (with_reducible rfl)
  rotate_left
  try simp (maxSteps := 4000000) only [Act.put, List.setIfInBounds_toArray, List.set_cons_zero, List.set_cons_succ, List.getElem_toArray, List.getElem_cons_zero, List.getElem_cons_succ]
  refine wpAnyH_take (i := 8) (v := ?_) rfl (by kernel_rfl) (by kernel_rfl) (by kernel_rfl) (fun _ _ _ h => h) (Or.inl ⟨by kernel_rfl, ?_⟩) (by assumption) ?_
  rotate_left
  · (intro w hSw; (try dsimp only at hSw); (try have hTk := Hid.out HTAKE _ hSw); go_simp)
    try (with_reducible rfl)
  rotate_left
  try simp (maxSteps := 4000000) only [Act.put, List.setIfInBounds_toArray, List.set_cons_zero, List.set_cons_succ, List.getElem_toArray, List.getElem_cons_zero, List.getElem_cons_succ]
  refine wpAnyH_done (by kernel_rfl) ?_ _
  clear hHeld
  have HB1 : Hid (Below W.heap.size W W.drew) := Lib.hid (Below.refl _ _).drew
  generalize W.drew = v1 at *
  have HS1 := Lib.hid (HS.out.below HB1.out)
  go_upto_region 4 with (fail)
  refine wp_region_held_drew (S := fun w' => SWAt s k (some ⟨pb, po, none⟩) ln cp d n w') (by kernel_rfl) ?_ (fun hHeld => ?_)
  · exact HS1.out.below (Below.refl _ _).drew
  refine wpAnyH_take (i := 0) (v := ?_) rfl (by kernel_rfl) (by kernel_rfl) (by kernel_rfl) (fun _ _ _ h => h) (Or.inl ⟨by kernel_rfl, ?_⟩) (by assumption) ?_
  rotate_left
  · (intro w hSw; (try dsimp only at hSw); (try have hTk := Hid.out HTAKE _ hSw); go_simp)
    try (with_reducible rfl)
  rotate_left
  try simp (maxSteps := 4000000) only [Act.put, List.setIfInBounds_toArray, List.set_cons_zero, List.set_cons_succ, List.getElem_toArray, List.getElem_cons_zero, List.getElem_cons_succ]
  refine wpAnyH_take (i := 1) (v := ?_) rfl (by kernel_rfl) (by kernel_rfl) (by kernel_rfl) (fun _ _ _ h => h) (Or.inl ⟨by kernel_rfl, ?_⟩) (by assumption) ?_
  rotate_left
  · (intro w hSw; (try dsimp only at hSw); (try have hTk := Hid.out HTAKE _ hSw); go_simp)
    try (with_reducible rfl)
  rotate_left
  try simp (maxSteps := 4000000) only [Act.put, List.setIfInBounds_toArray, List.set_cons_zero, List.set_cons_succ, List.getElem_toArray, List.getElem_cons_zero, List.getElem_cons_succ]
  refine wpAnyH_take (i := 2) (v := ?_) rfl (by kernel_rfl) (by kernel_rfl) (by kernel_rfl) (fun _ _ _ h => h) (Or.inl ⟨by kernel_rfl, ?_⟩) (by assumption) ?_
  rotate_left
  · (intro w hSw; (try dsimp only at hSw); (try have hTk := Hid.out HTAKE _ hSw); go_simp)
    try (with_reducible rfl)
  rotate_left
  try simp (maxSteps := 4000000) only [Act.put, List.setIfInBounds_toArray, List.set_cons_zero, List.set_cons_succ, List.getElem_toArray, List.getElem_cons_zero, List.getElem_cons_succ]
  refine wpAnyH_take (i := 3) (v := ?_) rfl (by kernel_rfl) (by kernel_rfl) (by kernel_rfl) (fun _ _ _ h => h) (Or.inl ⟨by kernel_rfl, ?_⟩) (by assumption) ?_
  rotate_left
  · (intro w hSw; (try dsimp only at hSw); (try have hTk := Hid.out HTAKE _ hSw); go_simp)
    try (with_reducible rfl)
  rotate_left
  try simp (maxSteps := 4000000) only [Act.put, List.setIfInBounds_toArray, List.set_cons_zero, List.set_cons_succ, List.getElem_toArray, List.getElem_cons_zero, List.getElem_cons_succ]
  refine wpAnyH_take (i := 4) (v := ?_) rfl (by kernel_rfl) (by kernel_rfl) (by kernel_rfl) (fun _ _ _ h => h) (Or.inl ⟨by kernel_rfl, ?_⟩) (by assumption) ?_
  rotate_left
  · (intro w hSw; (try dsimp only at hSw); (try have hTk := Hid.out HTAKE _ hSw); go_simp)
    try (with_reducible rfl)
  rotate_left
  try simp (maxSteps := 4000000) only [Act.put, List.setIfInBounds_toArray, List.set_cons_zero, List.set_cons_succ, List.getElem_toArray, List.getElem_cons_zero, List.getElem_cons_succ]
  refine wpAnyH_take (i := 5) (v := ?_) rfl (by kernel_rfl) (by kernel_rfl) (by kernel_rfl) (fun _ _ _ h => h) (Or.inl ⟨by kernel_rfl, ?_⟩) (by assumption) ?_
  rotate_left
  · (intro w hSw; (try dsimp only at hSw); (try have hTk := Hid.out HTAKE _ hSw); go_simp)
    try (with_reducible rfl)
  rotate_left
  try simp (maxSteps := 4000000) only [Act.put, List.setIfInBounds_toArray, List.set_cons_zero, List.set_cons_succ, List.getElem_toArray, List.getElem_cons_zero, List.getElem_cons_succ]
  refine wpAnyH_take (i := 6) (v := ?_) rfl (by kernel_rfl) (by kernel_rfl) (by kernel_rfl) (fun _ _ _ h => h) (Or.inl ⟨by kernel_rfl, ?_⟩) (by assumption) ?_
  rotate_left
  · (intro w hSw; (try dsimp only at hSw); (try have hTk := Hid.out HTAKE _ hSw); go_simp)
    try (with_reducible rfl)
  rotate_left
  try simp (maxSteps := 4000000) only [Act.put, List.setIfInBounds_toArray, List.set_cons_zero, List.set_cons_succ, List.getElem_toArray, List.getElem_cons_zero, List.getElem_cons_succ]
  refine wpAnyH_take (i := 7) (v := ?_) rfl (by kernel_rfl) (by kernel_rfl) (by kernel_rfl) (fun _ _ _ h => h) (Or.inl ⟨by kernel_rfl, ?_⟩) (by assumption) ?_
  rotate_left
  · (intro w hSw; (try dsimp only at hSw); (try have hTk := Hid.out HTAKE _ hSw); go_simp)
    try (with_reducible rfl)
  rotate_left
  try simp (maxSteps := 4000000) only [Act.put, List.setIfInBounds_toArray, List.set_cons_zero, List.set_cons_succ, List.getElem_toArray, List.getElem_cons_zero, List.getElem_cons_succ]
  refine wpAnyH_take (i := 8) (v := ?_) rfl (by kernel_rfl) (by kernel_rfl) (by kernel_rfl) (fun _ _ _ h => h) (Or.inl ⟨by kernel_rfl, ?_⟩) (by assumption) ?_
  rotate_left
  · (intro w hSw; (try dsimp only at hSw); (try have hTk := Hid.out HTAKE _ hSw); go_simp)
    try (with_reducible rfl)
  rotate_left
  try simp (maxSteps := 4000000) only [Act.put, List.setIfInBounds_toArray, List.set_cons_zero, List.set_cons_succ, List.getElem_toArray, List.getElem_cons_zero, List.getElem_cons_succ]
  refine wpAnyH_take (i := 9) (v := ?_) rfl (by kernel_rfl) (by kernel_rfl) (by kernel_rfl) (fun _ _ _ h => h) (Or.inl ⟨by kernel_rfl, ?_⟩) (by assumption) ?_
  rotate_left
  · (intro w hSw; (try dsimp only at hSw); (try have hTk := Hid.out HTAKE _ hSw); go_simp)
    try (with_reducible rfl)
  rotate_left
  try simp (maxSteps := 4000000) only [Act.put, List.setIfInBounds_toArray, List.set_cons_zero, List.set_cons_succ, List.getElem_toArray, List.getElem_cons_zero, List.getElem_cons_succ]
  refine wpAnyH_done (by kernel_rfl) ?_ _
  clear hHeld HTAKE
  have HB2 : Hid (Below W.heap.size W v1.drew) := Lib.hid (HB1.out.drew)
  generalize v1.drew = v2 at *
  clear HS1 HB1
  have HS2 := Lib.hid (HS.out.below HB2.out)
  have HM2 := Lib.hid (HM.out.later HB2.out)
  have cpg := HPV.out _ (HL.out.below HB2.out)
  have hpb : pb < v2.heap.size := World.block_lt_of_cell? v2 _ cpg
  obtain ⟨h1, ⟨c0, c1, c2, c3⟩, -, -, -, -, -⟩ := HS2.out
  cases hkx : σ.kp x with
  | false =>
    have HNO : Hid ((decide (0 ≤ (x : Int) ∧ (x : Int) < 16384) && σ.kp (x : Int).toNat) = false) := Lib.hid (by rw [Int.toNat_natCast, hkx, Bool.and_false])
    obtain rfl : false = r := by rw [← HR.out]; exact (PM_none (by unfold capK; rw [hkx]; rfl)).symm
    clear hkx
    go_wp2_with fail
    refine (mkept_no (x : Int) HM2.out HNO.out).mono ?_
    rintro e v3 ⟨rfl, rfl⟩
    go_wp2_with fail
    go_ret
    exact ⟨rfl, HB2.out⟩
  | true =>
    have HK9 := Lib.hid (HKP.out hkx)
    have HKX := Lib.hid hkx
    clear hkx
    obtain ⟨bb, hbb⟩ : ∃ q, get3 (σ.kv x) 1 = q := ⟨_, rfl⟩
    obtain ⟨ll, hll⟩ : ∃ q, get3 (σ.kv x) 4 = q := ⟨_, rfl⟩
    obtain ⟨cc, hcc⟩ : ∃ q, (bb : Int) + get3 (σ.kv x) 7 - 1048576 = q := ⟨_, rfl⟩
    obtain ⟨pp, hpp⟩ : ∃ q, σ.kv x 10 = q := ⟨_, rfl⟩
    obtain ⟨tt, htt⟩ : ∃ q, σ.kv x 11 = q := ⟨_, rfl⟩
    have hck : capK σ x = ⟨bb, ll, cc, pp, tt, true⟩ := by
      unfold capK
      rw [HKX.out, if_pos rfl, hbb, hll, hcc, hpp, htt]
    have HE := Lib.hid (And.intro hbb (And.intro hll (And.intro hcc (And.intro hpp htt))))
    have HSM : Hid (SomeR 16384 (spF (bb : Int) (ll : Int) 16) (spN (bb : Int) (ll : Int) 16) ws r) := Lib.hid (by
      have h9 : Cap9 (capK σ x) := by
        have := HK9.out.ok.2
        rw [hbb, hll, hcc, hpp, htt] at this
        rw [hck]; exact this
      have h := PM_some (ws := ws) (by rw [hck]) h9 HBT.out
      rw [HR.out, hck] at h
      exact h)
    clear hbb hll hcc hpp htt hck
    go_wp2_with fail
    refine (mkept_yes x HM2.out HKX.out).mono ?_
    rintro e v3 ⟨D, cap, rfl, hD, hcap, hP, hb3⟩
    have HP3 := Lib.hid hP.row9
    have HM3 := Lib.hid (HM2.out.later hb3)
    have HB3 := Lib.hid (thn HB2.out hb3)
    have HCP := Lib.hid hcap
    clear hD hP hb3 hcap HM2 HB2 HS2 cpg hpb h1 c0 c1 c2 c3
    go_wp2_with fail
    refine (cread_ok D cap (σ.kv x) v3 HP3.out HKV.out HCP.out HK9.out.ok.1 bb ll pp tt cc HE.out.1 HE.out.2.1 HE.out.2.2.1 HE.out.2.2.2.1 HE.out.2.2.2.2).mono ?_
    rintro e v4 ⟨rfl, hb4⟩
    have HM4 := Lib.hid (HM3.out.later hb4)
    have HB4 := Lib.hid (thn HB3.out hb4)
    clear hb4 HM3 HB3 HP3
    go_upto_region 10 with (fail)
    have hal := alc0 v4 (.cells #[.int .i64 (bb : Int), .int .i64 (ll : Int), .int .i64 cc, .int .i64 (pp : Int), .int .i64 (tt : Int), .bool true] 37)
    have HC5 := Lib.hid (CapAt.new v4 bb ll cc pp tt true 37)
    have HM5 := Lib.hid (HM4.out.later hal)
    have HB5 := Lib.hid (thn HB4.out hal)
    clear hal HM4 HB4
    generalize hv5 : v4.alloc (.cells #[.int .i64 (bb : Int), .int .i64 (ll : Int), .int .i64 cc, .int .i64 (pp : Int), .int .i64 (tt : Int), .bool true] 37) = v5 at *
    clear hv5
    generalize v4.heap.size = x15 at *
    obtain ⟨-, z0, z1, z2, z3, z4, z5, -⟩ := HC5.out
    go_wp2_with fail
    refine (capspan_any (bb : Int) (ll : Int) cc (pp : Int) (tt : Int) true _).mono ?_
    rintro e v6 ⟨rfl, hb6⟩
    have HM6 := Lib.hid (HM5.out.later hb6)
    have HB6 := Lib.hid (thn HB5.out hb6)
    clear hb6 z0 z1 z2 z3 z4 z5 HC5 HM5 HB5
    go_wp2_with fail
    refine (ptsome (bb : Int) (ll : Int) r (HP.out.below HB6.out HP.out.2.1.2 HB6.out.size) HSM.out (HT.out.later HB6.out)).mono ?_
    rintro e v7 ⟨rfl, hb7⟩
    have HM7 := Lib.hid (HM6.out.later hb7)
    have HB7 := Lib.hid (thn HB6.out hb7)
    clear hb7 HM6 HB6
    cases r with
    | false =>
      go_wp2_with fail
      go_ret
      exact ⟨rfl, HB7.out⟩
    | true =>
      go_wp2_with fail
      refine (mclear_yes x HM7.out HKX.out).mono ?_
      rintro e v8 ⟨rfl, hs8⟩
      have HS8 := Lib.hid hs8
      clear hs8
      go_wp2_with fail
      go_ret
      exact ⟨rfl, MStep.before HM.out.size HB7.out HS8.out⟩
end Go.Proofs.YtljjcomedjdpaaaDoor
