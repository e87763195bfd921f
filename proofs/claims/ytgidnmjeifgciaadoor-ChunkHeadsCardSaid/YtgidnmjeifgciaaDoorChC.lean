/- Package chunk: Beside, Retag. -/
import Derived.Test.YtgidnmjeifgciaaDoorChB
import Derived.Test.YtgidnmjeifgciaaDoorPickT
import Derived.Deep.RegionHeld3
namespace Go.Proofs.YtgidnmjeifgciaaDoor
set_option maxRecDepth 100000
open Go.RowKit Go.ChangeMaps Go.MapKept
set_option linter.unusedVariables false
set_option linter.unusedSimpArgs false

theorem up16 (n : Nat) (hn : n ≤ 1073741824) (u : Nat) (hu : (n + 15) / 16 * 16 = u) (w : World) :
    Calls Tryd.prog 95 #[.int .i64 (n : Int), .int .i64 16] w fun e w' => e = .returned (.int .i64 (u : Int)) ∧ w = w' := by
  obtain ⟨o, ho⟩ : ∃ o : Nat, n % 16 = o := ⟨_, rfl⟩
  have g1 : (n : Int) % 16 = (o : Int) := by omega
  have g2 : (n : Int).tmod 16 = (o : Int) := by rw [Int.tmod_eq_emod_of_nonneg (by omega)]; exact g1
  by_cases h0 : o = 0
  · subst h0
    obtain rfl : n = u := by omega
    have g1 : (n : Int) % 16 = 0 := g1
    have g2 : (n : Int).tmod 16 = 0 := g2
    clear ho hu
    go_enter Tryd.func95, Tryd.ntmps95
    go_wp2
    go_ret
    exact ⟨rfl, rfl⟩
  · have h5 : ((o : Int) == 0) = false := by simp; omega
    have h6 : ¬ (o : Int) = 0 := by omega
    have h7 : (n : Int) + (16 - (o : Int)) = u := by omega
    have h8 : o < 16 := by omega
    have b1 : ¬ 9223372036854775807 - (16 - (o : Int)) < (n : Int) := by omega
    clear ho hu h0
    go_enter Tryd.func95, Tryd.ntmps95
    go_wp2
    go_ret
    first
    | exact ⟨ret_int h7, rfl⟩
    | exact ⟨rfl, rfl⟩
section
variable {B : Nat} {col : Nat → Nat} {M : Nat} {W : World} {σ : MS}
set_option maxHeartbeats 3200000 in
theorem chbeside (key a : Int) (n u : Nat) (ta tb xa xb : Int) (ha0 : 0 ≤ a) (ha1 : a ≤ 1073741824) (hn : n ≤ 1073741824) (hu : (n + 15) / 16 * 16 = u) (h : MEM B col M W σ) (hta : tagI σ (a - 32) = ta) (htb : tagI σ (a + u + 16) = tb)
    (hxa : max ta 0 = xa) (hxb : max tb 0 = xb) :
    Calls Tryd.prog 48 #[.agg #[.pointer (some ⟨M, 0, none⟩), .int .u64 key], .int .i64 a, .int .i64 (n : Int)] W fun e w' => e = .returned (.tuple #[.int .i64 xa, .int .i64 xb]) ∧ Below W.heap.size W w' := by
  have H := Lib.hid h
  have HTA : Hid (tagI σ (a - 32) = ta) := Lib.hid hta
  have HTB := Lib.hid htb
  have HU := Lib.hid (fun w => up16 n hn u hu w)
  have HC0 := Lib.hid (ChAt.new W M key 85)
  have hu9 : u ≤ 1073741840 := by omega
  have e1 : a - 16 - 16 = a - 32 := by omega
  obtain ⟨q, hq⟩ : ∃ q, a + (u : Int) + 16 = q := ⟨_, rfl⟩
  have e7 : IntKind.i64.wrap (a + (u : Int)) = a + u := IntWalk.i64_in _ (by omega)
  have e8 : IntKind.i64.wrap (a + (u : Int) + 16) = q := by rw [hq]; exact IntWalk.i64_in _ (by omega)
  rw [hq] at HTB
  clear h hta htb hn hu hq
  go_enter Tryd.func48, Tryd.ntmps48
  go_wp2_with fail
  refine (mtag ta (a - 32) (H.out.later (alc0 _ _)) HTA.out).mono ?_
  rintro e w1 ⟨rfl, hb⟩
  have HB := Lib.hid (thn (alc0 W _) hb)
  have HC := Lib.hid (HC0.out.below hb)
  clear hb e1
  go_upto_region 2 with (fail)
  have HTAKE := Lib.hid (fun (w' : World) (h : ChAt W.heap.size w' M key ∧ Below W.heap.size W w') => h.1.2)
  refine wp_region_held_drew (S := fun w' => ChAt W.heap.size w' M key ∧ Below W.heap.size W w') (by kernel_rfl) ?_ (fun hHeld => ?_)
  · exact ⟨HC.out.below (Below.refl _ _).drew, HB.out.drew⟩
  refine wpAnyH_take (i := 0) (v := ?_) rfl (by kernel_rfl) (by kernel_rfl) (by kernel_rfl) (fun _ _ _ h => h) (Or.inl ⟨by kernel_rfl, ?_⟩) (by assumption) ?_
  rotate_left
  · (intro w hSw; (try dsimp only at hSw); (try have hTk := Hid.out HTAKE _ hSw); go_simp)
    try (with_reducible rfl)
  rotate_left
  try simp (maxSteps := 4000000) only [Act.put, List.setIfInBounds_toArray, List.set_cons_zero, List.set_cons_succ, List.getElem_toArray, List.getElem_cons_zero, List.getElem_cons_succ]
  refine wpAnyH_take (i := 1) (v := ?_) rfl (by kernel_rfl) (by kernel_rfl) (by kernel_rfl) (fun _ _ _ h => h) (Or.inl ⟨by kernel_rfl, ?_⟩) (by assumption) ?_
  rotate_left
  · (intro w hSw; (try dsimp only at hSw); (try have hTk := Hid.out HTAKE _ hSw); go_simp)
    try (with_reducible rfl)
  rotate_left
  try simp (maxSteps := 4000000) only [Act.put, List.setIfInBounds_toArray, List.set_cons_zero, List.set_cons_succ, List.getElem_toArray, List.getElem_cons_zero, List.getElem_cons_succ]
  refine wpAnyH_take (i := 2) (v := ?_) rfl (by kernel_rfl) (by kernel_rfl) (by kernel_rfl) (fun _ _ _ h => h) (Or.inl ⟨by kernel_rfl, ?_⟩) (by assumption) ?_
  rotate_left
  · (intro w hSw; (try dsimp only at hSw); (try have hTk := Hid.out HTAKE _ hSw); go_simp)
    try (with_reducible rfl)
  rotate_left
  try simp (maxSteps := 4000000) only [Act.put, List.setIfInBounds_toArray, List.set_cons_zero, List.set_cons_succ, List.getElem_toArray, List.getElem_cons_zero, List.getElem_cons_succ]
  refine wpAnyH_take (i := 3) (v := ?_) rfl (by kernel_rfl) (by kernel_rfl) (by kernel_rfl) (fun _ _ _ h => h) (Or.inl ⟨by kernel_rfl, ?_⟩) (by assumption) ?_
  rotate_left
  · (intro w hSw; (try dsimp only at hSw); (try have hTk := Hid.out HTAKE _ hSw); go_simp)
    try (with_reducible rfl)
  rotate_left
  try simp (maxSteps := 4000000) only [Act.put, List.setIfInBounds_toArray, List.set_cons_zero, List.set_cons_succ, List.getElem_toArray, List.getElem_cons_zero, List.getElem_cons_succ]
  refine wpAnyH_ready (rs := [4]) (by kernel_rfl) (by simp) ?_
  refine AllReadyH.cons rfl (fun K2 hK2 => ?_) AllReadyH.nil
  go_simp
  with_reducible refine Calls.mono (HU.out _) ?_
  rintro e w' ⟨rfl, rfl⟩
  refine hK2.out _ _ (hHeld) (fun hHeld2 => ?_)
  clear hK2 K2 hHeld
  have hHeld := hHeld2
  clear hHeld2
  try simp (maxSteps := 4000000) only [Act.put, List.setIfInBounds_toArray, List.set_cons_zero, List.set_cons_succ]
  refine wpAnyH_take (i := 5) (v := ?_) rfl (by kernel_rfl) (by kernel_rfl) (by kernel_rfl) (fun _ _ _ h => h) (Or.inl ⟨by kernel_rfl, ?_⟩) (by assumption) ?_
  rotate_left
  · (intro w hSw; (try dsimp only at hSw); (try have hTk := Hid.out HTAKE _ hSw); go_simp)
    try (with_reducible rfl)
  rotate_left
  try simp (maxSteps := 4000000) only [Act.put, List.setIfInBounds_toArray, List.set_cons_zero, List.set_cons_succ, List.getElem_toArray, List.getElem_cons_zero, List.getElem_cons_succ]
  refine wpAnyH_take (i := 6) (v := ?_) rfl (by kernel_rfl) (by kernel_rfl) (by kernel_rfl) (fun _ _ _ h => h) (Or.inl ⟨by kernel_rfl, ?_⟩) (by assumption) ?_
  rotate_left
  · (intro w hSw; (try dsimp only at hSw); (try have hTk := Hid.out HTAKE _ hSw); go_simp)
    try (with_reducible rfl)
  rotate_left
  try simp (maxSteps := 4000000) only [Act.put, List.setIfInBounds_toArray, List.set_cons_zero, List.set_cons_succ, List.getElem_toArray, List.getElem_cons_zero, List.getElem_cons_succ]
  refine wpAnyH_ready (rs := [7]) (by kernel_rfl) (by simp) ?_
  refine AllReadyH.cons rfl (fun K2 hK2 => ?_) AllReadyH.nil
  go_simp
  with_reducible refine Calls.mono (mtag tb q (H.out.later hHeld.2) HTB.out) ?_
  rintro e w3 ⟨rfl, hb3⟩
  refine hK2.out _ _ (⟨hHeld.1.below hb3, thn hHeld.2 hb3⟩) (fun hHeld2 => ?_)
  clear hK2 K2 hHeld
  have hHeld := hHeld2
  clear hHeld2
  try simp (maxSteps := 4000000) only [Act.put, List.setIfInBounds_toArray, List.set_cons_zero, List.set_cons_succ]
  refine wpAnyH_take (i := 8) (v := ?_) rfl (by kernel_rfl) (by kernel_rfl) (by kernel_rfl) (fun _ _ _ h => h) (Or.inl ⟨by kernel_rfl, ?_⟩) (by assumption) ?_
  rotate_left
  · (intro w hSw; (try dsimp only at hSw); (try have hTk := Hid.out HTAKE _ hSw); go_simp)
    try (with_reducible rfl)
  rotate_left
  try simp (maxSteps := 4000000) only [Act.put, List.setIfInBounds_toArray, List.set_cons_zero, List.set_cons_succ, List.getElem_toArray, List.getElem_cons_zero, List.getElem_cons_succ]
  refine wpAnyH_done (by kernel_rfl) ?_ _
  have HS := Lib.hid hHeld
  clear hHeld HTAKE e7 e8
  by_cases h1 : ta < 0
  · obtain rfl : 0 = xa := by omega
    by_cases h2 : tb < 0
    · obtain rfl : 0 = xb := by omega
      go_wp2
      go_ret2
      exact ⟨rfl, HS.out.2⟩
    · obtain rfl : tb = xb := by omega
      go_wp2
      go_ret2
      exact ⟨rfl, HS.out.2⟩
  · obtain rfl : ta = xa := by omega
    by_cases h2 : tb < 0
    · obtain rfl : 0 = xb := by omega
      go_wp2
      go_ret2
      exact ⟨rfl, HS.out.2⟩
    · obtain rfl : tb = xb := by omega
      go_wp2
      go_ret2
      exact ⟨rfl, HS.out.2⟩
set_option maxHeartbeats 3200000 in
theorem chretag (key had d xa xb : Int) (a n t : Nat) (h : MEM B col M W σ) (ho : openB σ.pg a n = true) (hd : -9223372036854775808 ≤ d ∧ d ≤ 9223372036854775807)
    (hbs : ∀ w, MEM B col M w σ → Calls Tryd.prog 48 #[.agg #[.pointer (some ⟨M, 0, none⟩), .int .u64 key], .int .i64 (a : Int), .int .i64 (n : Int)] w fun e w' => e = .returned (.tuple #[.int .i64 xa, .int .i64 xb]) ∧ Below w.heap.size w w')
    (ht : ofP d [had, xa, xb] = t) :
    Calls Tryd.prog 49 #[.agg #[.pointer (some ⟨M, 0, none⟩), .int .u64 key], .int .i64 (a : Int), .int .i64 (n : Int), .int .i64 had, .int .i64 d] W fun e w' => e = .returned (.tuple #[.int .i64 (t : Int), .int .i64 0]) ∧ MStep B col M W { σ with f := setF σ.f (grF (a : Int)) (grN (a : Int) (n : Int)) t } w' := by
  have H := Lib.hid h
  have HO := Lib.hid ho
  have HBS := Lib.hid hbs
  have HT := Lib.hid ht
  have HD := Lib.hid hd
  have h15 := ofP_three d had xa xb
  have HT15 : Hid (t < 16) := Lib.hid (by omega)
  have HC0 := Lib.hid (ChAt.new W M key 85)
  clear h ho hbs ht h15 hd
  go_enter Tryd.func49, Tryd.ntmps49
  go_wp2_with fail
  refine (HBS.out _ (H.out.later (alc0 _ _))).mono ?_
  rintro e w1 ⟨rfl, hb⟩
  have HB := Lib.hid (thn (alc0 W _) hb)
  have HC := Lib.hid (HC0.out.below hb)
  clear hb
  go_wp2_with fail
  have HI := Lib.hid (ints_lit (k := .i64) w1 [had, xa, xb] 3 (by simp))
  refine (pk_of_any d _ _ _ [had, xa, xb] _ HI.out HD.out).mono ?_
  rintro e w2 ⟨rfl, hb⟩
  rw [HT.out]
  have hbq : Below w1.heap.size w1 w2 := thn (alc0 _ _) hb
  have HB2 := Lib.hid (thn HB.out hbq)
  obtain ⟨-, c0, c1⟩ := HC.out.below hbq
  clear hb hbq HI
  go_wp2_with fail
  refine (msettag_ok (a : Int) (n : Int) t (H.out.later HB2.out) HT15.out HO.out).mono ?_
  rintro e w3 ⟨rfl, hm⟩
  have HM := Lib.hid (MStep.before H.out.size HB2.out hm)
  clear hm c0 c1
  go_wp2
  go_ret2
  exact ⟨rfl, HM.out⟩
end
end Go.Proofs.YtgidnmjeifgciaaDoor
