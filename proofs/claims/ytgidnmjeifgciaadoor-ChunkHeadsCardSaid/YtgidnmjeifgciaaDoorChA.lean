/- Package chunk: where a chunk may begin; Put. -/
import Derived.Test.YtgidnmjeifgciaaDoorHeadG
import Derived.Test.YtgidnmjeifgciaaDoorMmR
import Derived.Test.YtgidnmjeifgciaaDoorMmI
import Derived.Deep.RegionHeld3
namespace Go.Proofs.YtgidnmjeifgciaaDoor
set_option maxRecDepth 100000
open Go.RowKit Go.ChangeMaps Go.MapKept
set_option linter.unusedVariables false
set_option linter.unusedSimpArgs false

/-- Chunks, in block x: of the memory at M, by a key. -/
def ChAt (x : Nat) (W : World) (M : Nat) (key : Int) : Prop := x < W.heap.size ∧ W.cell? ⟨x, 0, none⟩ = some (.pointer (some ⟨M, 0, none⟩)) ∧ W.cell? ⟨x, 1, none⟩ = some (.int .u64 key)
theorem ChAt.keep {x M : Nat} {W W' : World} {key : Int} (h : ChAt x W M key) (hs : W.heap.size ≤ W'.heap.size) (hk : W'.heap[x]? = W.heap[x]?) : ChAt x W' M key :=
  ⟨Nat.lt_of_lt_of_le h.1 hs, (World.cell?_of_block hk).trans h.2.1, (World.cell?_of_block hk).trans h.2.2⟩
theorem ChAt.below {x M : Nat} {W W' : World} {key : Int} (h : ChAt x W M key) (hb : Below W.heap.size W W') : ChAt x W' M key := h.keep hb.size (hb.block x h.1)
theorem ChAt.new (W : World) (M : Nat) (key : Int) (T : TypeId) : ChAt W.heap.size (W.alloc (.cells #[.pointer (some ⟨M, 0, none⟩), .int .u64 key] T)) M key := ⟨by simp, by simp, by simp⟩
theorem RowU.at9 {g K : Nat} {W : World} {f : Nat → Nat} (h : RowU g K W f) (i : Nat) (hi : i < K) : W.cell? ⟨g, 0 + i, none⟩ = some (.int .u8 (f i : Int)) := by rw [Nat.zero_add]; exact (h.2 i hi).1
def thereC (a : Int) : Bool := decide (16 ≤ a) && (a % 16 == 0)
theorem chthere (r : Bool) (a : Int) (w : World) (h : thereC a = r) :
    Calls Tryd.prog 89 #[.int .i64 a] w fun e w' => e = .returned (.bool r) ∧ w = w' := by
  unfold thereC at h
  by_cases h16 : 16 ≤ a
  · rw [decide_eq_true h16, Bool.true_and] at h
    have g1 : a.tmod 16 = a % 16 := Int.tmod_eq_emod_of_nonneg (by omega)
    have b0 : 0 ≤ a := by omega
    have HG := Lib.hid g1
    clear g1
    generalize hq : a % 16 = q at *
    have g1 : a.tmod 16 = q := HG.out
    have g2 : a % 16 = q := hq
    clear hq HG
    go_enter Tryd.func89, Tryd.ntmps89
    go_wp2
    go_ret
    first
    | exact ⟨ret_bool h, rfl⟩
    | exact ⟨rfl, rfl⟩
  · rw [decide_eq_false h16, Bool.false_and] at h
    subst h
    have h2 : ¬ 16 ≤ a := h16
    go_enter Tryd.func89, Tryd.ntmps89
    go_wp2
    go_ret
    exact ⟨rfl, rfl⟩
theorem chgran (a : Nat) (ha : a < 1099511627776) (w : World) :
    Calls Tryd.prog 91 #[.int .i64 ((a : Int) + 16)] w fun e w' => e = .returned (.agg #[.int .i64 (a : Int), .int .i64 16]) ∧ Below w.heap.size w w' := by
  have h1 : (a : Int) + 16 - 16 = a := by omega
  obtain ⟨z, hz⟩ : ∃ z, (a : Int) + 16 = z := ⟨_, rfl⟩
  rw [hz] at h1
  rw [hz]
  have b0 : 16 ≤ z := by omega
  have b1 : z ≤ 1099511627792 := by omega
  clear hz
  go_enter Tryd.func91, Tryd.ntmps91
  go_wp2
  refine bodyPost_ret (v := .agg #[.int .i64 (a : Int), .int .i64 16]) (by simp [results, Tryd.results91, go_sem]) rfl ⟨rfl, ?_⟩
  exact alc0 _ _

section
variable {B : Nat} {col : Nat → Nat} {M : Nat} {W : World} {σ : MS}
def putS (σ : MS) (a : Nat) (d : Nat → Nat) : MS := wrS { σ with f := setF σ.f (grF (a : Int)) (grN (a : Int) 16) 0 } a 16 d
set_option maxHeartbeats 1600000 in
theorem chput_in (key a s c t n e : Int) (h : (thereC a && headOkB s c t n e) = false) :
    Calls Tryd.prog 45 #[.agg #[.pointer (some ⟨M, 0, none⟩), .int .u64 key], .int .i64 a, .agg #[.int .i64 s, .int .i64 c, .int .i64 t, .int .i64 n, .int .i64 e]] W fun e w' => e = .returned (.int .i64 1) ∧ Below W.heap.size W w' := by
  cases ht : thereC a with
  | false =>
    have HT := Lib.hid ht
    clear h ht
    go_enter Tryd.func45, Tryd.ntmps45
    go_wp2_with fail
    refine (chthere false a _ HT.out).mono ?_
    rintro e w' ⟨rfl, rfl⟩
    go_wp2
    go_ret
    exact ⟨rfl, alc (alc0 _ _) _⟩
  | true =>
    rw [ht, Bool.true_and] at h
    have HT := Lib.hid ht
    have HO := Lib.hid h
    clear h ht
    go_enter Tryd.func45, Tryd.ntmps45
    go_wp2_with fail
    refine (chthere true a _ HT.out).mono ?_
    rintro e' w' ⟨rfl, rfl⟩
    go_wp2_with fail
    refine (hmay_is false s c t n e _ HO.out).mono ?_
    rintro e' w1 ⟨rfl, hb⟩
    have HB := Lib.hid (thn (alc (alc0 W _) _) hb)
    clear hb
    go_wp2
    go_ret
    exact ⟨rfl, HB.out⟩
set_option maxHeartbeats 1600000 in
theorem chput_no (r key : Int) (a s c t n e : Nat) (ha : a % 16 = 0) (ha2 : a < 1099511627776) (hok : headOkB s c t n e = true) (h : MEM B col M W σ) (hr : refE σ.pg a 16 = r) (h0 : r ≠ 0) :
    Calls Tryd.prog 45 #[.agg #[.pointer (some ⟨M, 0, none⟩), .int .u64 key], .int .i64 ((a : Int) + 16), .agg #[.int .i64 s, .int .i64 c, .int .i64 t, .int .i64 n, .int .i64 e]] W fun e w' => e = .returned (.int .i64 r) ∧ Below W.heap.size W w' := by
  have H := Lib.hid h
  have HT : Hid (thereC ((a : Int) + 16) = true) := Lib.hid (by unfold thereC; rw [decide_eq_true (by omega), show ((a : Int) + 16) % 16 = 0 by omega]; rfl)
  have HO := Lib.hid hok
  have HR := Lib.hid hr
  have HA := Lib.hid ha2
  have h5 : (r != 0) = true := by simpa using h0
  have HR2 : Hid ((0 : Int) < 0 ∨ (15 : Int) < 0 ∨ True) := Lib.hid (.inr (.inr trivial))
  have HC0 := Lib.hid (ChAt.new W M key 85)
  have HN := Lib.hid h0
  clear h hok hr ha ha2 h0
  generalize hz : (a : Int) + 16 = z at *
  have HZ := Lib.hid hz
  clear hz
  go_enter Tryd.func45, Tryd.ntmps45
  go_wp2_with fail
  refine (chthere true z _ HT.out).mono ?_
  rintro e' w' ⟨rfl, rfl⟩
  go_wp2_with fail
  refine (hmay_is true s c t n e _ HO.out).mono ?_
  rintro e' w1 ⟨rfl, hb⟩
  have HB := Lib.hid (thn (alc (alc0 W _) _) hb)
  have HC := Lib.hid ((HC0.out.below (alc0 _ _)).below hb)
  clear hb
  go_upto_region 3 with (fail)
  have HTAKE := Lib.hid (fun (w' : World) (h : ChAt W.heap.size w' M key ∧ Below W.heap.size W w') => h.1.2)
  refine wp_region_held_drew (S := fun w' => ChAt W.heap.size w' M key ∧ Below W.heap.size W w') (by kernel_rfl) ?_ (fun hHeld => ?_)
  · exact ⟨HC.out.below (Below.refl _ _).drew, HB.out.drew⟩
  refine wpAnyH_take (i := 0) (v := ?_) rfl (by kernel_rfl) (by kernel_rfl) (by kernel_rfl) (fun _ _ _ h => h) (Or.inl ⟨by kernel_rfl, ?_⟩) (by assumption) ?_
  rotate_left
  · (intro w hSw; (try dsimp only at hSw); (try have hTk := Hid.out HTAKE _ hSw); go_simp)
    try (with_reducible rfl)
  rotate_left
  try simp (maxSteps := 4000000) only [Act.put, List.setIfInBounds_toArray, List.set_cons_zero, List.set_cons_succ, List.getElem_toArray, List.getElem_cons_zero, List.getElem_cons_succ]
  refine wpAnyH_take (i := 1) (v := ?_) rfl (by kernel_rfl) (by kernel_rfl) (by kernel_rfl) (fun _ _ _ h => h) (Or.inl ⟨by kernel_rfl, ?_⟩) (by assumption) ?_
  rotate_left
  · (intro w hSw; (try dsimp only at hSw); (try have hTk := Hid.out HTAKE _ hSw); go_simp)
    try (with_reducible rfl)
  rotate_left
  try simp (maxSteps := 4000000) only [Act.put, List.setIfInBounds_toArray, List.set_cons_zero, List.set_cons_succ, List.getElem_toArray, List.getElem_cons_zero, List.getElem_cons_succ]
  refine wpAnyH_take (i := 2) (v := ?_) rfl (by kernel_rfl) (by kernel_rfl) (by kernel_rfl) (fun _ _ _ h => h) (Or.inl ⟨by kernel_rfl, ?_⟩) (by assumption) ?_
  rotate_left
  · (intro w hSw; (try dsimp only at hSw); (try have hTk := Hid.out HTAKE _ hSw); go_simp)
    try (with_reducible rfl)
  rotate_left
  try simp (maxSteps := 4000000) only [Act.put, List.setIfInBounds_toArray, List.set_cons_zero, List.set_cons_succ, List.getElem_toArray, List.getElem_cons_zero, List.getElem_cons_succ]
  refine wpAnyH_ready (rs := [3]) (by kernel_rfl) (by simp) ?_
  refine AllReadyH.cons rfl (fun K2 hK2 => ?_) AllReadyH.nil
  go_simp
  with_reducible refine Calls.mono (HZ.out ▸ chgran a HA.out _) ?_
  rintro e' w2 ⟨rfl, hb⟩
  refine hK2.out _ _ (⟨hHeld.1.below hb, thn hHeld.2 hb⟩) (fun hHeld2 => ?_)
  clear hK2 K2 hHeld
  have hHeld := hHeld2
  clear hHeld2
  try simp (maxSteps := 4000000) only [Act.put, List.setIfInBounds_toArray, List.set_cons_zero, List.set_cons_succ]
  refine wpAnyH_ready (rs := [4]) (by kernel_rfl) (by simp) ?_
  refine AllReadyH.cons rfl (fun K2 hK2 => ?_) AllReadyH.nil
  go_simp
  with_reducible refine Calls.mono (msettag_no r (a : Int) 16 0 (H.out.later hHeld.2) (.inr ⟨by decide, by decide, HR.out, HN.out⟩)) ?_
  rintro e' w3 ⟨rfl, hb3⟩
  refine hK2.out _ _ (⟨hHeld.1.below hb3, thn hHeld.2 hb3⟩) (fun hHeld2 => ?_)
  clear hK2 K2 hHeld
  have hHeld := hHeld2
  clear hHeld2
  try simp (maxSteps := 4000000) only [Act.put, List.setIfInBounds_toArray, List.set_cons_zero, List.set_cons_succ]
  refine wpAnyH_take (i := 5) (v := ?_) rfl (by kernel_rfl) (by kernel_rfl) (by kernel_rfl) (fun _ _ _ h => h) (Or.inl ⟨by kernel_rfl, ?_⟩) (by assumption) ?_
  rotate_left
  · (intro w hSw; (try dsimp only at hSw); (try have hTk := Hid.out HTAKE _ hSw); go_simp)
    try (with_reducible rfl)
  rotate_left
  try simp (maxSteps := 4000000) only [Act.put, List.setIfInBounds_toArray, List.set_cons_zero, List.set_cons_succ, List.getElem_toArray, List.getElem_cons_zero, List.getElem_cons_succ]
  refine wpAnyH_done (by kernel_rfl) ?_ _
  go_wp2
  go_ret
  exact ⟨rfl, hHeld.2⟩
set_option maxHeartbeats 3200000 in
theorem chput_ok (key : Int) (a s c t n e : Nat) (ha : a % 16 = 0) (ha2 : a < 1099511627776) (hok : headOkB s c t n e = true) (hs : s < 256) (hc : c < 256) (ht : t < 256) (hn : n < 16777216) (he : e < 16777216) (hk0 : 0 ≤ key) (hk1 : key < 18446744073709551616) (h : MEM B col M W σ) (ho : openB σ.pg a 16 = true) :
    Calls Tryd.prog 45 #[.agg #[.pointer (some ⟨M, 0, none⟩), .int .u64 key], .int .i64 ((a : Int) + 16), .agg #[.int .i64 s, .int .i64 c, .int .i64 t, .int .i64 n, .int .i64 e]] W fun e' w' => e' = .returned (.int .i64 0) ∧ MStep B col M W (putS σ a (headF key ((a : Int) + 16) s c t n e)) w' := by
  have H := Lib.hid h
  have HT : Hid (thereC ((a : Int) + 16) = true) := Lib.hid (by unfold thereC; rw [decide_eq_true (by omega), show ((a : Int) + 16) % 16 = 0 by omega]; rfl)
  have HO := Lib.hid hok
  have HOP := Lib.hid ho
  have HOP2 : Hid (openB σ.pg (a : Int) ((16 : Nat) : Int) = true) := Lib.hid ho
  have wa : IntKind.i64.wrap (a : Int) = (a : Int) := IntWalk.i64_in _ (by omega)
  have HA := Lib.hid ha2
  have HBY := Lib.hid (fun at_ w => hbytes_yes key at_ s c t n e w hok hs hc ht hn he hk0 hk1)
  have HLT := Lib.hid (headF_lt key ((a : Int) + 16) n e hs hc ht)
  have HC0 := Lib.hid (ChAt.new W M key 85)
  have hsub : (a : Int) + 16 - 16 = a := by omega
  have hb1 : (a : Int) + 16 ≤ 1099511627792 := by omega
  have hb0 : 16 ≤ (a : Int) + 16 := by omega
  have HD0 := Lib.hid (HeadAt.new (W.alloc (.cells #[.pointer (some ⟨M, 0, none⟩), .int .u64 key] 85)) s c t n e 83)
  clear h hok ho ha ha2 hs hc ht hn he hk0 hk1
  generalize hz : (a : Int) + 16 = z at *
  have HZ := Lib.hid hz
  have wz : IntKind.i64.wrap (z - 16) = (a : Int) := by rw [hsub]; exact IntWalk.i64_in _ (by have := HA.out; omega)
  clear hz
  go_enter Tryd.func45, Tryd.ntmps45
  go_wp2_with fail
  refine (chthere true z _ HT.out).mono ?_
  rintro e' w' ⟨rfl, rfl⟩
  go_wp2_with fail
  refine (hmay_is true s c t n e _ HO.out).mono ?_
  rintro e' w1 ⟨rfl, hb⟩
  have HB := Lib.hid (thn (alc (alc0 W _) _) hb)
  have HC := Lib.hid ((HC0.out.below (alc0 _ _)).below hb)
  have HD := Lib.hid (HD0.out.below hb)
  clear hb HC0 HD0
  rw [show (W.alloc (.cells #[.pointer (some ⟨M, 0, none⟩), .int .u64 key] 85)).heap.size = W.heap.size + 1 by simp] at HD
  go_upto_region 3 with (fail)
  have HTAKE := Lib.hid (fun (w' : World) (h : ChAt W.heap.size w' M key) => h.2)
  refine wp_region_held_drew (S := fun w' => ChAt W.heap.size w' M key) (by kernel_rfl) ?_ (fun hHeld => ?_)
  · exact HC.out.below (Below.refl _ _).drew
  refine wpAnyH_take (i := 0) (v := ?_) rfl (by kernel_rfl) (by kernel_rfl) (by kernel_rfl) (fun _ _ _ h => h) (Or.inl ⟨by kernel_rfl, ?_⟩) (by assumption) ?_
  rotate_left
  · (intro w hSw; (try dsimp only at hSw); (try have hTk := Hid.out HTAKE _ hSw); go_simp)
    try (with_reducible rfl)
  rotate_left
  try simp (maxSteps := 4000000) only [Act.put, List.setIfInBounds_toArray, List.set_cons_zero, List.set_cons_succ, List.getElem_toArray, List.getElem_cons_zero, List.getElem_cons_succ]
  refine wpAnyH_take (i := 1) (v := ?_) rfl (by kernel_rfl) (by kernel_rfl) (by kernel_rfl) (fun _ _ _ h => h) (Or.inl ⟨by kernel_rfl, ?_⟩) (by assumption) ?_
  rotate_left
  · (intro w hSw; (try dsimp only at hSw); (try have hTk := Hid.out HTAKE _ hSw); go_simp)
    try (with_reducible rfl)
  rotate_left
  try simp (maxSteps := 4000000) only [Act.put, List.setIfInBounds_toArray, List.set_cons_zero, List.set_cons_succ, List.getElem_toArray, List.getElem_cons_zero, List.getElem_cons_succ]
  refine wpAnyH_take (i := 2) (v := ?_) rfl (by kernel_rfl) (by kernel_rfl) (by kernel_rfl) (fun _ _ _ h => h) (Or.inl ⟨by kernel_rfl, ?_⟩) (by assumption) ?_
  rotate_left
  · (intro w hSw; (try dsimp only at hSw); (try have hTk := Hid.out HTAKE _ hSw); go_simp)
    try (with_reducible rfl)
  rotate_left
  try simp (maxSteps := 4000000) only [Act.put, List.setIfInBounds_toArray, List.set_cons_zero, List.set_cons_succ, List.getElem_toArray, List.getElem_cons_zero, List.getElem_cons_succ]
  refine wpAnyH_ready (rs := [3]) (by kernel_rfl) (by simp) ?_
  refine AllReadyH.cons rfl (fun K2 hK2 => ?_) AllReadyH.nil
  go_simp
  with_reducible refine Calls.mono (HZ.out ▸ chgran a HA.out _) ?_
  rintro e' w2 ⟨rfl, hb⟩
  have hbq : Below w1.heap.size w1 w2 := thn (Below.refl _ _).drew hb
  have HB2 := Lib.hid (thn HB.out hbq)
  have HC2 := Lib.hid (HC.out.below hbq)
  have HD2 := Lib.hid (HD.out.below hbq)
  clear hb hbq
  refine hK2.out _ _ (HC2.out) (fun hHeld2 => ?_)
  clear hK2 K2 hHeld
  have hHeld := hHeld2
  clear hHeld2
  try simp (maxSteps := 4000000) only [Act.put, List.setIfInBounds_toArray, List.set_cons_zero, List.set_cons_succ]
  refine wpAnyH_ready (rs := [4]) (by kernel_rfl) (by simp) ?_
  refine AllReadyH.cons rfl (fun K2 hK2 => ?_) AllReadyH.nil
  go_simp
  with_reducible refine Calls.mono (msettag_ok (a : Int) 16 0 (H.out.later HB2.out) (by decide) HOP.out) ?_
  rintro e' w3 ⟨rfl, hm⟩
  have HM := Lib.hid hm
  have hst := hm.choose_spec
  have HC3 := Lib.hid (HC2.out.keep hst.2.2.2.size (hst.2.2.1 _ HC2.out.1 (by rw [H.out.old (Nat.le_refl _)]; decide)))
  have HD3 := Lib.hid (HD2.out.keep hst.2.2.2.size (hst.2.2.1 _ HD2.out.1 (by rw [H.out.old (Nat.le_succ _)]; decide)))
  clear hm hst
  refine hK2.out _ _ (HC3.out) (fun hHeld2 => ?_)
  clear hK2 K2 hHeld
  have hHeld := hHeld2
  clear hHeld2
  try simp (maxSteps := 4000000) only [Act.put, List.setIfInBounds_toArray, List.set_cons_zero, List.set_cons_succ]
  refine wpAnyH_take (i := 5) (v := ?_) rfl (by kernel_rfl) (by kernel_rfl) (by kernel_rfl) (fun _ _ _ h => h) (Or.inl ⟨by kernel_rfl, ?_⟩) (by assumption) ?_
  rotate_left
  · (intro w hSw; (try dsimp only at hSw); (try have hTk := Hid.out HTAKE _ hSw); go_simp)
    try (with_reducible rfl)
  rotate_left
  try simp (maxSteps := 4000000) only [Act.put, List.setIfInBounds_toArray, List.set_cons_zero, List.set_cons_succ, List.getElem_toArray, List.getElem_cons_zero, List.getElem_cons_succ]
  refine wpAnyH_done (by kernel_rfl) ?_ _
  clear hHeld HTAKE
  go_upto_region 6 with (fail)
  have HTAKE := Lib.hid (fun (w' : World) (h : ChAt W.heap.size w' M key ∧ HeadAt (W.heap.size + 1) w' s c t n e) => And.intro h.1.2 h.2.2)
  refine wp_region_held_drew (S := fun w' => ChAt W.heap.size w' M key ∧ HeadAt (W.heap.size + 1) w' s c t n e) (by kernel_rfl) ?_ (fun hHeld => ?_)
  · exact ⟨HC3.out.below (Below.refl _ _).drew, HD3.out.below (Below.refl _ _).drew⟩
  refine wpAnyH_take (i := 0) (v := ?_) rfl (by kernel_rfl) (by kernel_rfl) (by kernel_rfl) (fun _ _ _ h => h) (Or.inl ⟨by kernel_rfl, ?_⟩) (by assumption) ?_
  rotate_left
  · (intro w hSw; (try dsimp only at hSw); (try have hTk := Hid.out HTAKE _ hSw); go_simp)
    try (with_reducible rfl)
  rotate_left
  try simp (maxSteps := 4000000) only [Act.put, List.setIfInBounds_toArray, List.set_cons_zero, List.set_cons_succ, List.getElem_toArray, List.getElem_cons_zero, List.getElem_cons_succ]
  refine wpAnyH_take (i := 1) (v := ?_) rfl (by kernel_rfl) (by kernel_rfl) (by kernel_rfl) (fun _ _ _ h => h) (Or.inl ⟨by kernel_rfl, ?_⟩) (by assumption) ?_
  rotate_left
  · (intro w hSw; (try dsimp only at hSw); (try have hTk := Hid.out HTAKE _ hSw); go_simp)
    try (with_reducible rfl)
  rotate_left
  try simp (maxSteps := 4000000) only [Act.put, List.setIfInBounds_toArray, List.set_cons_zero, List.set_cons_succ, List.getElem_toArray, List.getElem_cons_zero, List.getElem_cons_succ]
  refine wpAnyH_take (i := 2) (v := ?_) rfl (by kernel_rfl) (by kernel_rfl) (by kernel_rfl) (fun _ _ _ h => h) (Or.inl ⟨by kernel_rfl, ?_⟩) (by assumption) ?_
  rotate_left
  · (intro w hSw; (try dsimp only at hSw); (try have hTk := Hid.out HTAKE _ hSw); go_simp)
    try (with_reducible rfl)
  rotate_left
  try simp (maxSteps := 4000000) only [Act.put, List.setIfInBounds_toArray, List.set_cons_zero, List.set_cons_succ, List.getElem_toArray, List.getElem_cons_zero, List.getElem_cons_succ]
  refine wpAnyH_take (i := 3) (v := ?_) rfl (by kernel_rfl) (by kernel_rfl) (by kernel_rfl) (fun _ _ _ h => h) (Or.inl ⟨by kernel_rfl, ?_⟩) (by assumption) ?_
  rotate_left
  · (intro w hSw; (try dsimp only at hSw); (try have hTk := Hid.out HTAKE _ hSw); go_simp)
    try (with_reducible rfl)
  rotate_left
  try simp (maxSteps := 4000000) only [Act.put, List.setIfInBounds_toArray, List.set_cons_zero, List.set_cons_succ, List.getElem_toArray, List.getElem_cons_zero, List.getElem_cons_succ]
  refine wpAnyH_take (i := 4) (v := ?_) rfl (by kernel_rfl) (by kernel_rfl) (by kernel_rfl) (fun _ _ _ h => h) (Or.inl ⟨by kernel_rfl, ?_⟩) (by assumption) ?_
  rotate_left
  · (intro w hSw; (try dsimp only at hSw); (try have hTk := Hid.out HTAKE _ hSw); go_simp)
    try (with_reducible rfl)
  rotate_left
  try simp (maxSteps := 4000000) only [Act.put, List.setIfInBounds_toArray, List.set_cons_zero, List.set_cons_succ, List.getElem_toArray, List.getElem_cons_zero, List.getElem_cons_succ]
  refine wpAnyH_take (i := 5) (v := ?_) rfl (by kernel_rfl) (by kernel_rfl) (by kernel_rfl) (fun _ _ _ h => h) (Or.inl ⟨by kernel_rfl, ?_⟩) (by assumption) ?_
  rotate_left
  · (intro w hSw; (try dsimp only at hSw); (try have hTk := Hid.out HTAKE _ hSw); go_simp)
    try (with_reducible rfl)
  rotate_left
  try simp (maxSteps := 4000000) only [Act.put, List.setIfInBounds_toArray, List.set_cons_zero, List.set_cons_succ, List.getElem_toArray, List.getElem_cons_zero, List.getElem_cons_succ]
  refine wpAnyH_take (i := 6) (v := ?_) rfl (by kernel_rfl) (by kernel_rfl) (by kernel_rfl) (fun _ _ _ h => h) (Or.inl ⟨by kernel_rfl, ?_⟩) (by assumption) ?_
  rotate_left
  · (intro w hSw; (try dsimp only at hSw); (try have hTk := Hid.out HTAKE _ hSw); go_simp)
    try (with_reducible rfl)
  rotate_left
  try simp (maxSteps := 4000000) only [Act.put, List.setIfInBounds_toArray, List.set_cons_zero, List.set_cons_succ, List.getElem_toArray, List.getElem_cons_zero, List.getElem_cons_succ]
  refine wpAnyH_take (i := 7) (v := ?_) rfl (by kernel_rfl) (by kernel_rfl) (by kernel_rfl) (fun _ _ _ h => h) (Or.inl ⟨by kernel_rfl, ?_⟩) (by assumption) ?_
  rotate_left
  · (intro w hSw; (try dsimp only at hSw); (try have hTk := Hid.out HTAKE _ hSw); go_simp)
    try (with_reducible rfl)
  rotate_left
  try simp (maxSteps := 4000000) only [Act.put, List.setIfInBounds_toArray, List.set_cons_zero, List.set_cons_succ, List.getElem_toArray, List.getElem_cons_zero, List.getElem_cons_succ]
  refine wpAnyH_ready (rs := [8]) (by kernel_rfl) (by simp) ?_
  refine AllReadyH.cons rfl (fun K2 hK2 => ?_) AllReadyH.nil
  go_simp
  with_reducible refine Calls.mono (HBY.out _ _) ?_
  rintro e' w4 ⟨D, rfl, hD, hrw, hb⟩
  have hbq : Below w3.heap.size w3 w4 := thn (Below.refl _ _).drew hb
  have HC4 := Lib.hid (HC3.out.below hbq)
  have HD4 := Lib.hid (HD3.out.below hbq)
  obtain ⟨col3, hm3, hc3, ho3, hb3⟩ := HM.out
  have HM4 := Lib.hid (hm3.later hbq)
  have HDC : Hid (col3 D = 0) := Lib.hid (hm3.old hD)
  have HCX : Hid (col3 W.heap.size = 0 ∧ col3 (W.heap.size + 1) = 0) := Lib.hid ⟨(hc3 _ HC2.out.1).trans (H.out.old (Nat.le_refl _)), (hc3 _ HD2.out.1).trans (H.out.old (Nat.le_succ _))⟩
  have HRW := Lib.hid hrw
  have HJ : Hid (∀ σ' w5, MStep B col3 M w4 σ' w5 → MStep B col M W σ' w5) := Lib.hid (fun σ' w5 h5 => MStep.before H.out.size HB2.out (MStep.join hc3 ho3 hb3 hm3.size hbq h5))
  clear hm3 hc3 ho3 hb3 hrw hb hbq hD
  refine hK2.out _ _ (⟨HC4.out, HD4.out⟩) (fun hHeld2 => ?_)
  clear hK2 K2 hHeld
  have hHeld := hHeld2
  clear hHeld2
  try simp (maxSteps := 4000000) only [Act.put, List.setIfInBounds_toArray, List.set_cons_zero, List.set_cons_succ]
  refine wpAnyH_ready (rs := [9]) (by kernel_rfl) (by simp) ?_
  refine AllReadyH.cons rfl (fun K2 hK2 => ?_) AllReadyH.nil
  go_simp
  with_reducible refine Calls.mono (mwrite_ok a 16 D 0 16 (headF key z s c t n e) HM4.out HOP2.out (by decide) HRW.out.at9 (fun i _ => HLT.out i) HDC.out) ?_
  rintro e' w5 ⟨rfl, hm5⟩
  have HF := Lib.hid (HJ.out _ w5 hm5)
  have hst := hm5.choose_spec
  have HC5 := Lib.hid (HC4.out.keep hst.2.2.2.size (hst.2.2.1 _ HC4.out.1 (by rw [HCX.out.1]; decide)))
  have HD5 := Lib.hid (HD4.out.keep hst.2.2.2.size (hst.2.2.1 _ HD4.out.1 (by rw [HCX.out.2]; decide)))
  clear hm5 hst
  refine hK2.out _ _ (⟨HC5.out, HD5.out⟩) (fun hHeld2 => ?_)
  clear hK2 K2 hHeld
  have hHeld := hHeld2
  clear hHeld2
  try simp (maxSteps := 4000000) only [Act.put, List.setIfInBounds_toArray, List.set_cons_zero, List.set_cons_succ]
  refine wpAnyH_take (i := 10) (v := ?_) rfl (by kernel_rfl) (by kernel_rfl) (by kernel_rfl) (fun _ _ _ h => h) (Or.inl ⟨by kernel_rfl, ?_⟩) (by assumption) ?_
  rotate_left
  · (intro w hSw; (try dsimp only at hSw); (try have hTk := Hid.out HTAKE _ hSw); go_simp)
    try (with_reducible rfl)
  rotate_left
  try simp (maxSteps := 4000000) only [Act.put, List.setIfInBounds_toArray, List.set_cons_zero, List.set_cons_succ, List.getElem_toArray, List.getElem_cons_zero, List.getElem_cons_succ]
  refine wpAnyH_done (by kernel_rfl) ?_ _
  go_wp2
  go_ret
  exact ⟨rfl, HF.out⟩
end
end Go.Proofs.YtgidnmjeifgciaaDoor
