/- Package chunk: Get. -/
import Derived.Test.YtgidnmjeifgciaaDoorChA
import Derived.Deep.RegionHeld3
namespace Go.Proofs.YtgidnmjeifgciaaDoor
set_option maxRecDepth 100000
open Go.RowKit Go.ChangeMaps Go.MapKept
set_option linter.unusedVariables false
set_option linter.unusedSimpArgs false

section
variable {B : Nat} {col : Nat → Nat} {M : Nat} {W : World} {σ : MS}
theorem below_set5 {n x : Nat} {W w1 : World} (h : Below n W w1) (hx : n ≤ x) (a b c d e : Value) : Below n W (((((w1.setCell ⟨x, 0, none⟩ a).setCell ⟨x, 1, none⟩ b).setCell ⟨x, 2, none⟩ c).setCell ⟨x, 3, none⟩ d).setCell ⟨x, 4, none⟩ e) :=
  ((((h.setCell hx _).setCell hx _).setCell hx _).setCell hx _).setCell hx _
theorem HeadAt.new2 (W : World) (o : Obj) (s c t n e : Int) (T : TypeId) : HeadAt (W.heap.size + 1) ((W.alloc o).alloc (.cells #[.int .i64 s, .int .i64 c, .int .i64 t, .int .i64 n, .int .i64 e] T)) s c t n e := by
  have := HeadAt.new (W.alloc o) s c t n e T
  rwa [show (W.alloc o).heap.size = W.heap.size + 1 by simp] at this
theorem HeadAt.fz {x : Nat} {W : World} {s c t n e : Int} (h : HeadAt x W s c t n e) : (W.cell? ⟨x, 0, none⟩ = some (.int .i64 s) ∧ W.cell? ⟨x, 1, none⟩ = some (.int .i64 c) ∧ W.cell? ⟨x, 2, none⟩ = some (.int .i64 t) ∧ W.cell? ⟨x, 3, none⟩ = some (.int .i64 n) ∧ W.cell? ⟨x, 4, none⟩ = some (.int .i64 e)) ∧ W.frozen? ⟨x, 0, none⟩ = false ∧ W.frozen? ⟨x, 1, none⟩ = false ∧ W.frozen? ⟨x, 2, none⟩ = false ∧ W.frozen? ⟨x, 3, none⟩ = false ∧ W.frozen? ⟨x, 4, none⟩ = false := by
  obtain ⟨-, h0, h1, h2, h3, h4, hf⟩ := h
  exact ⟨⟨h0, h1, h2, h3, h4⟩, hf 0 (by decide), hf 1 (by decide), hf 2 (by decide), hf 3 (by decide), hf 4 (by decide)⟩
set_option maxHeartbeats 1600000 in
theorem chget_in (key a : Int) (h : thereC a = false) :
    Calls Tryd.prog 46 #[.agg #[.pointer (some ⟨M, 0, none⟩), .int .u64 key], .int .i64 a] W fun e w' => e = .returned (.tuple #[.agg #[.int .i64 0, .int .i64 0, .int .i64 0, .int .i64 0, .int .i64 0], .int .i64 1]) ∧ Below W.heap.size W w' := by
  have HT := Lib.hid h
  have HY := Lib.hid (HeadAt.new2 W (.cells #[.pointer (some ⟨M, 0, none⟩), .int .u64 key] 85) 0 0 0 0 0 83)
  have HB := Lib.hid (alc (alc0 W (.cells #[.pointer (some ⟨M, 0, none⟩), .int .u64 key] 85)) (.cells #[.int .i64 0, .int .i64 0, .int .i64 0, .int .i64 0, .int .i64 0] 83))
  clear h
  go_enter Tryd.func46, Tryd.ntmps46
  go_wp2_with fail
  refine (chthere false a _ HT.out).mono ?_
  rintro e w' ⟨rfl, rfl⟩
  generalize hw4 : World.alloc (World.alloc W _) _ = w4 at *
  clear hw4
  obtain ⟨⟨d0, d1, d2, d3, d4⟩, f0, f1, f2, f3, f4⟩ := HY.out.fz
  go_wp2
  refine bodyPost_ret (v := .tuple #[.agg #[.int .i64 0, .int .i64 0, .int .i64 0, .int .i64 0, .int .i64 0], .int .i64 1]) (by simp [results, Tryd.results46, go_sem, d0, d1, d2, d3, d4]) rfl ⟨rfl, ?_⟩
  exact below_set5 HB.out (by omega) _ _ _ _ _
set_option maxHeartbeats 3200000 in
theorem chget_no (key : Int) (a : Nat) (ha : a % 16 = 0) (ha2 : a < 1099511627776) (h : MEM B col M W σ) (r : Int) (hr : refE σ.pg a 16 = r) (h0 : r ≠ 0) :
    Calls Tryd.prog 46 #[.agg #[.pointer (some ⟨M, 0, none⟩), .int .u64 key], .int .i64 ((a : Int) + 16)] W fun e w' => e = .returned (.tuple #[.agg #[.int .i64 0, .int .i64 0, .int .i64 0, .int .i64 0, .int .i64 0], .int .i64 r]) ∧ Below W.heap.size W w' := by
  have H := Lib.hid h
  have HT : Hid (thereC ((a : Int) + 16) = true) := Lib.hid (by unfold thereC; rw [decide_eq_true (by omega), show ((a : Int) + 16) % 16 = 0 by omega]; rfl)
  have HA := Lib.hid ha2
  have HC0 := Lib.hid ((ChAt.new W M key 85).below (alc0 _ (.cells #[.int .i64 0, .int .i64 0, .int .i64 0, .int .i64 0, .int .i64 0] 83)))
  have HY0 := Lib.hid (HeadAt.new2 W (.cells #[.pointer (some ⟨M, 0, none⟩), .int .u64 key] 85) 0 0 0 0 0 83)
  have HB0 := Lib.hid (alc (alc0 W (.cells #[.pointer (some ⟨M, 0, none⟩), .int .u64 key] 85)) (.cells #[.int .i64 0, .int .i64 0, .int .i64 0, .int .i64 0, .int .i64 0] 83))
  have HR := Lib.hid hr
  have HN := Lib.hid h0
  have h5 : (r != 0) = true := by simpa using h0
  clear h ha ha2 hr h0
  generalize hz : (a : Int) + 16 = z at *
  have HZ := Lib.hid hz
  clear hz
  go_enter Tryd.func46, Tryd.ntmps46
  go_wp2_with fail
  refine (chthere true z _ HT.out).mono ?_
  rintro e' w' ⟨rfl, rfl⟩
  generalize hw1 : World.alloc (World.alloc W _) _ = w1 at *
  clear hw1
  go_upto_region 3 with (fail)
  have HTAKE := Lib.hid (fun (w' : World) (h : (ChAt W.heap.size w' M key ∧ HeadAt (W.heap.size + 1) w' 0 0 0 0 0) ∧ Below W.heap.size W w') => h.1.1.2)
  refine wp_region_held_drew (S := fun w' => (ChAt W.heap.size w' M key ∧ HeadAt (W.heap.size + 1) w' 0 0 0 0 0) ∧ Below W.heap.size W w') (by kernel_rfl) ?_ (fun hHeld => ?_)
  · exact ⟨⟨HC0.out.below (Below.refl _ _).drew, HY0.out.below (Below.refl _ _).drew⟩, HB0.out.drew⟩
  refine wpAnyH_take (i := 0) (v := ?_) rfl (by kernel_rfl) (by kernel_rfl) (by kernel_rfl) (fun _ _ _ h => h) (Or.inl ⟨by kernel_rfl, ?_⟩) (by assumption) ?_
  rotate_left
  · (intro w hSw; (try dsimp only at hSw); (try have hTk := Hid.out HTAKE _ hSw); go_simp)
    try (with_reducible rfl)
  rotate_left
  try simp (maxSteps := 4000000) only [Act.put, List.setIfInBounds_toArray, List.set_cons_zero, List.set_cons_succ, List.getElem_toArray, List.getElem_cons_zero, List.getElem_cons_succ]
  refine wpAnyH_take (i := 1) (v := ?_) rfl (by kernel_rfl) (by kernel_rfl) (by kernel_rfl) (fun _ _ _ h => h) (Or.inl ⟨by kernel_rfl, ?_⟩) (by assumption) ?_
  rotate_left
  · (intro w hSw; (try dsimp only at hSw); (try have hTk := Hid.out HTAKE _ hSw); go_simp)
    try (with_reducible rfl)
  rotate_left
  try simp (maxSteps := 4000000) only [Act.put, List.setIfInBounds_toArray, List.set_cons_zero, List.set_cons_succ, List.getElem_toArray, List.getElem_cons_zero, List.getElem_cons_succ]
  refine wpAnyH_take (i := 2) (v := ?_) rfl (by kernel_rfl) (by kernel_rfl) (by kernel_rfl) (fun _ _ _ h => h) (Or.inl ⟨by kernel_rfl, ?_⟩) (by assumption) ?_
  rotate_left
  · (intro w hSw; (try dsimp only at hSw); (try have hTk := Hid.out HTAKE _ hSw); go_simp)
    try (with_reducible rfl)
  rotate_left
  try simp (maxSteps := 4000000) only [Act.put, List.setIfInBounds_toArray, List.set_cons_zero, List.set_cons_succ, List.getElem_toArray, List.getElem_cons_zero, List.getElem_cons_succ]
  refine wpAnyH_ready (rs := [3]) (by kernel_rfl) (by simp) ?_
  refine AllReadyH.cons rfl (fun K2 hK2 => ?_) AllReadyH.nil
  go_simp
  with_reducible refine Calls.mono (HZ.out ▸ chgran a HA.out _) ?_
  rintro e' w2 ⟨rfl, hb⟩
  refine hK2.out _ _ (⟨⟨hHeld.1.1.below hb, hHeld.1.2.below hb⟩, thn hHeld.2 hb⟩) (fun hHeld2 => ?_)
  clear hK2 K2 hHeld
  have hHeld := hHeld2
  clear hHeld2
  try simp (maxSteps := 4000000) only [Act.put, List.setIfInBounds_toArray, List.set_cons_zero, List.set_cons_succ]
  refine wpAnyH_ready (rs := [4]) (by kernel_rfl) (by simp) ?_
  refine AllReadyH.cons rfl (fun K2 hK2 => ?_) AllReadyH.nil
  go_simp
  with_reducible refine Calls.mono (mread_no r (a : Int) 16 (H.out.later hHeld.2) HR.out HN.out) ?_
  rintro e' w3 ⟨rfl, hb3⟩
  refine hK2.out _ _ (⟨⟨hHeld.1.1.below hb3, hHeld.1.2.below hb3⟩, thn hHeld.2 hb3⟩) (fun hHeld2 => ?_)
  clear hK2 K2 hHeld
  have hHeld := hHeld2
  clear hHeld2
  try simp (maxSteps := 4000000) only [Act.put, List.setIfInBounds_toArray, List.set_cons_zero, List.set_cons_succ]
  refine wpAnyH_take (i := 5) (v := ?_) rfl (by kernel_rfl) (by kernel_rfl) (by kernel_rfl) (fun _ _ _ h => h) (Or.inl ⟨by kernel_rfl, ?_⟩) (by assumption) ?_
  rotate_left
  · (intro w hSw; (try dsimp only at hSw); (try have hTk := Hid.out HTAKE _ hSw); go_simp)
    try (with_reducible rfl)
  rotate_left
  try simp (maxSteps := 4000000) only [Act.put, List.setIfInBounds_toArray, List.set_cons_zero, List.set_cons_succ, List.getElem_toArray, List.getElem_cons_zero, List.getElem_cons_succ]
  refine wpAnyH_take (i := 6) (v := ?_) rfl (by kernel_rfl) (by kernel_rfl) (by kernel_rfl) (fun _ _ _ h => h) (Or.inl ⟨by kernel_rfl, ?_⟩) (by assumption) ?_
  rotate_left
  · (intro w hSw; (try dsimp only at hSw); (try have hTk := Hid.out HTAKE _ hSw); go_simp)
    try (with_reducible rfl)
  rotate_left
  try simp (maxSteps := 4000000) only [Act.put, List.setIfInBounds_toArray, List.set_cons_zero, List.set_cons_succ, List.getElem_toArray, List.getElem_cons_zero, List.getElem_cons_succ]
  refine wpAnyH_take (i := 7) (v := ?_) rfl (by kernel_rfl) (by kernel_rfl) (by kernel_rfl) (fun _ _ _ h => h) (Or.inl ⟨by kernel_rfl, ?_⟩) (by assumption) ?_
  rotate_left
  · (intro w hSw; (try dsimp only at hSw); (try have hTk := Hid.out HTAKE _ hSw); go_simp)
    try (with_reducible rfl)
  rotate_left
  try simp (maxSteps := 4000000) only [Act.put, List.setIfInBounds_toArray, List.set_cons_zero, List.set_cons_succ, List.getElem_toArray, List.getElem_cons_zero, List.getElem_cons_succ]
  refine wpAnyH_take (i := 8) (v := ?_) rfl (by kernel_rfl) (by kernel_rfl) (by kernel_rfl) (fun _ _ _ h => h) (Or.inl ⟨by kernel_rfl, ?_⟩) (by assumption) ?_
  rotate_left
  · (intro w hSw; (try dsimp only at hSw); (try have hTk := Hid.out HTAKE _ hSw); go_simp)
    try (with_reducible rfl)
  rotate_left
  try simp (maxSteps := 4000000) only [Act.put, List.setIfInBounds_toArray, List.set_cons_zero, List.set_cons_succ, List.getElem_toArray, List.getElem_cons_zero, List.getElem_cons_succ]
  refine wpAnyH_take (i := 9) (v := ?_) rfl (by kernel_rfl) (by kernel_rfl) (by kernel_rfl) (fun _ _ _ h => h) (Or.inl ⟨by kernel_rfl, ?_⟩) (by assumption) ?_
  rotate_left
  · (intro w hSw; (try dsimp only at hSw); (try have hTk := Hid.out HTAKE _ hSw); go_simp)
    try (with_reducible rfl)
  rotate_left
  try simp (maxSteps := 4000000) only [Act.put, List.setIfInBounds_toArray, List.set_cons_zero, List.set_cons_succ, List.getElem_toArray, List.getElem_cons_zero, List.getElem_cons_succ]
  refine wpAnyH_done (by kernel_rfl) ?_ _
  have HS := Lib.hid hHeld
  clear hHeld HTAKE HC0 HY0 HB0
  obtain ⟨⟨d0, d1, d2, d3, d4⟩, f0, f1, f2, f3, f4⟩ := HS.out.1.2.fz
  go_wp2
  refine bodyPost_ret (v := .tuple #[.agg #[.int .i64 0, .int .i64 0, .int .i64 0, .int .i64 0, .int .i64 0], .int .i64 r]) (by simp [results, Tryd.results46, go_sem, d0, d1, d2, d3, d4]) rfl ⟨rfl, ?_⟩
  exact below_set5 HS.out.2 (by omega) _ _ _ _ _
set_option maxHeartbeats 3200000 in
theorem chget_bad (key : Int) (a : Nat) (ha : a % 16 = 0) (ha2 : a < 1099511627776) (h : MEM B col M W σ) (F : Nat → Nat) (ho : openB σ.pg a 16 = true) (hF : ∀ i, i < 16 → σ.c (a + i) = F i) (hF2 : ∀ i, F i < 256) (hk0 : 0 ≤ key) (hk1 : key < 18446744073709551616) (hok : readOk key ((a : Int) + 16) F = false) :
    Calls Tryd.prog 46 #[.agg #[.pointer (some ⟨M, 0, none⟩), .int .u64 key], .int .i64 ((a : Int) + 16)] W fun e w' => e = .returned (.tuple #[.agg #[.int .i64 0, .int .i64 0, .int .i64 0, .int .i64 0, .int .i64 0], .int .i64 11]) ∧ Below W.heap.size W w' := by
  have H := Lib.hid h
  have HT : Hid (thereC ((a : Int) + 16) = true) := Lib.hid (by unfold thereC; rw [decide_eq_true (by omega), show ((a : Int) + 16) % 16 = 0 by omega]; rfl)
  have HA := Lib.hid ha2
  have HC0 := Lib.hid ((ChAt.new W M key 85).below (alc0 _ (.cells #[.int .i64 0, .int .i64 0, .int .i64 0, .int .i64 0, .int .i64 0] 83)))
  have HY0 := Lib.hid (HeadAt.new2 W (.cells #[.pointer (some ⟨M, 0, none⟩), .int .u64 key] 85) 0 0 0 0 0 83)
  have HB0 := Lib.hid (alc (alc0 W (.cells #[.pointer (some ⟨M, 0, none⟩), .int .u64 key] 85)) (.cells #[.int .i64 0, .int .i64 0, .int .i64 0, .int .i64 0, .int .i64 0] 83))
  have HOP : Hid (openB σ.pg (a : Int) ((16 : Nat) : Int) = true) := Lib.hid ho
  have HF := Lib.hid hF
  have HF2 := Lib.hid hF2
  have HK := Lib.hid (And.intro hk0 hk1)
  have HOK := Lib.hid hok
  clear h ha ha2 ho hF hF2 hk0 hk1 hok
  generalize hz : (a : Int) + 16 = z at *
  have HZ := Lib.hid hz
  clear hz
  go_enter Tryd.func46, Tryd.ntmps46
  go_wp2_with fail
  refine (chthere true z _ HT.out).mono ?_
  rintro e' w' ⟨rfl, rfl⟩
  generalize hw1 : World.alloc (World.alloc W _) _ = w1 at *
  clear hw1
  go_upto_region 3 with (fail)
  have HTAKE := Lib.hid (fun (w' : World) (h : (ChAt W.heap.size w' M key ∧ HeadAt (W.heap.size + 1) w' 0 0 0 0 0) ∧ Below W.heap.size W w') => h.1.1.2)
  refine wp_region_held_drew (S := fun w' => (ChAt W.heap.size w' M key ∧ HeadAt (W.heap.size + 1) w' 0 0 0 0 0) ∧ Below W.heap.size W w') (by kernel_rfl) ?_ (fun hHeld => ?_)
  · exact ⟨⟨HC0.out.below (Below.refl _ _).drew, HY0.out.below (Below.refl _ _).drew⟩, HB0.out.drew⟩
  refine wpAnyH_take (i := 0) (v := ?_) rfl (by kernel_rfl) (by kernel_rfl) (by kernel_rfl) (fun _ _ _ h => h) (Or.inl ⟨by kernel_rfl, ?_⟩) (by assumption) ?_
  rotate_left
  · (intro w hSw; (try dsimp only at hSw); (try have hTk := Hid.out HTAKE _ hSw); go_simp)
    try (with_reducible rfl)
  rotate_left
  try simp (maxSteps := 4000000) only [Act.put, List.setIfInBounds_toArray, List.set_cons_zero, List.set_cons_succ, List.getElem_toArray, List.getElem_cons_zero, List.getElem_cons_succ]
  refine wpAnyH_take (i := 1) (v := ?_) rfl (by kernel_rfl) (by kernel_rfl) (by kernel_rfl) (fun _ _ _ h => h) (Or.inl ⟨by kernel_rfl, ?_⟩) (by assumption) ?_
  rotate_left
  · (intro w hSw; (try dsimp only at hSw); (try have hTk := Hid.out HTAKE _ hSw); go_simp)
    try (with_reducible rfl)
  rotate_left
  try simp (maxSteps := 4000000) only [Act.put, List.setIfInBounds_toArray, List.set_cons_zero, List.set_cons_succ, List.getElem_toArray, List.getElem_cons_zero, List.getElem_cons_succ]
  refine wpAnyH_take (i := 2) (v := ?_) rfl (by kernel_rfl) (by kernel_rfl) (by kernel_rfl) (fun _ _ _ h => h) (Or.inl ⟨by kernel_rfl, ?_⟩) (by assumption) ?_
  rotate_left
  · (intro w hSw; (try dsimp only at hSw); (try have hTk := Hid.out HTAKE _ hSw); go_simp)
    try (with_reducible rfl)
  rotate_left
  try simp (maxSteps := 4000000) only [Act.put, List.setIfInBounds_toArray, List.set_cons_zero, List.set_cons_succ, List.getElem_toArray, List.getElem_cons_zero, List.getElem_cons_succ]
  refine wpAnyH_ready (rs := [3]) (by kernel_rfl) (by simp) ?_
  refine AllReadyH.cons rfl (fun K2 hK2 => ?_) AllReadyH.nil
  go_simp
  with_reducible refine Calls.mono (HZ.out ▸ chgran a HA.out _) ?_
  rintro e' w2 ⟨rfl, hb⟩
  refine hK2.out _ _ (⟨⟨hHeld.1.1.below hb, hHeld.1.2.below hb⟩, thn hHeld.2 hb⟩) (fun hHeld2 => ?_)
  clear hK2 K2 hHeld
  have hHeld := hHeld2
  clear hHeld2
  try simp (maxSteps := 4000000) only [Act.put, List.setIfInBounds_toArray, List.set_cons_zero, List.set_cons_succ]
  refine wpAnyH_ready (rs := [4]) (by kernel_rfl) (by simp) ?_
  refine AllReadyH.cons rfl (fun K2 hK2 => ?_) AllReadyH.nil
  go_simp
  with_reducible refine Calls.mono (mread_ok a 16 (H.out.later hHeld.2) HOP.out) ?_
  rintro e' w3 ⟨D, rfl, hD, hP, hb3⟩
  have HRW : Hid (RowU D 16 w3 F) := Lib.hid ⟨hP.1, fun i hi => ⟨by rw [← HF.out i hi]; exact hP.2.1 i hi, hP.2.2 i⟩⟩
  clear hP hD
  refine hK2.out _ _ (⟨⟨hHeld.1.1.below hb3, hHeld.1.2.below hb3⟩, thn hHeld.2 hb3⟩) (fun hHeld2 => ?_)
  clear hK2 K2 hHeld
  have hHeld := hHeld2
  clear hHeld2
  try simp (maxSteps := 4000000) only [Act.put, List.setIfInBounds_toArray, List.set_cons_zero, List.set_cons_succ]
  refine wpAnyH_take (i := 5) (v := ?_) rfl (by kernel_rfl) (by kernel_rfl) (by kernel_rfl) (fun _ _ _ h => h) (Or.inl ⟨by kernel_rfl, ?_⟩) (by assumption) ?_
  rotate_left
  · (intro w hSw; (try dsimp only at hSw); (try have hTk := Hid.out HTAKE _ hSw); go_simp)
    try (with_reducible rfl)
  rotate_left
  try simp (maxSteps := 4000000) only [Act.put, List.setIfInBounds_toArray, List.set_cons_zero, List.set_cons_succ, List.getElem_toArray, List.getElem_cons_zero, List.getElem_cons_succ]
  refine wpAnyH_take (i := 6) (v := ?_) rfl (by kernel_rfl) (by kernel_rfl) (by kernel_rfl) (fun _ _ _ h => h) (Or.inl ⟨by kernel_rfl, ?_⟩) (by assumption) ?_
  rotate_left
  · (intro w hSw; (try dsimp only at hSw); (try have hTk := Hid.out HTAKE _ hSw); go_simp)
    try (with_reducible rfl)
  rotate_left
  try simp (maxSteps := 4000000) only [Act.put, List.setIfInBounds_toArray, List.set_cons_zero, List.set_cons_succ, List.getElem_toArray, List.getElem_cons_zero, List.getElem_cons_succ]
  refine wpAnyH_take (i := 7) (v := ?_) rfl (by kernel_rfl) (by kernel_rfl) (by kernel_rfl) (fun _ _ _ h => h) (Or.inl ⟨by kernel_rfl, ?_⟩) (by assumption) ?_
  rotate_left
  · (intro w hSw; (try dsimp only at hSw); (try have hTk := Hid.out HTAKE _ hSw); go_simp)
    try (with_reducible rfl)
  rotate_left
  try simp (maxSteps := 4000000) only [Act.put, List.setIfInBounds_toArray, List.set_cons_zero, List.set_cons_succ, List.getElem_toArray, List.getElem_cons_zero, List.getElem_cons_succ]
  refine wpAnyH_take (i := 8) (v := ?_) rfl (by kernel_rfl) (by kernel_rfl) (by kernel_rfl) (fun _ _ _ h => h) (Or.inl ⟨by kernel_rfl, ?_⟩) (by assumption) ?_
  rotate_left
  · (intro w hSw; (try dsimp only at hSw); (try have hTk := Hid.out HTAKE _ hSw); go_simp)
    try (with_reducible rfl)
  rotate_left
  try simp (maxSteps := 4000000) only [Act.put, List.setIfInBounds_toArray, List.set_cons_zero, List.set_cons_succ, List.getElem_toArray, List.getElem_cons_zero, List.getElem_cons_succ]
  refine wpAnyH_take (i := 9) (v := ?_) rfl (by kernel_rfl) (by kernel_rfl) (by kernel_rfl) (fun _ _ _ h => h) (Or.inl ⟨by kernel_rfl, ?_⟩) (by assumption) ?_
  rotate_left
  · (intro w hSw; (try dsimp only at hSw); (try have hTk := Hid.out HTAKE _ hSw); go_simp)
    try (with_reducible rfl)
  rotate_left
  try simp (maxSteps := 4000000) only [Act.put, List.setIfInBounds_toArray, List.set_cons_zero, List.set_cons_succ, List.getElem_toArray, List.getElem_cons_zero, List.getElem_cons_succ]
  refine wpAnyH_done (by kernel_rfl) ?_ _
  have HS := Lib.hid hHeld
  clear hHeld HTAKE HC0 HY0 HB0
  obtain ⟨-, c0, c1⟩ := HS.out.1.1
  go_upto_region 6 with (fail)
  go_wp2_with fail
  with_reducible refine Calls.mono (hread_no key z D 16 F _ HRW.out HF2.out (by decide) HK.out.1 HK.out.2 HOK.out) ?_
  rintro e' w4 ⟨rfl, hb⟩
  have HB4 := Lib.hid (thn HS.out.2 hb)
  have HY4 := Lib.hid (HS.out.1.2.below hb)
  clear hb c0 c1
  obtain ⟨⟨d0, d1, d2, d3, d4⟩, f0, f1, f2, f3, f4⟩ := HY4.out.fz
  go_wp2
  refine bodyPost_ret (v := .tuple #[.agg #[.int .i64 0, .int .i64 0, .int .i64 0, .int .i64 0, .int .i64 0], .int .i64 11]) (by simp [results, Tryd.results46, go_sem, d0, d1, d2, d3, d4]) rfl ⟨rfl, ?_⟩
  exact below_set5 HB4.out (by omega) _ _ _ _ _
set_option maxHeartbeats 3200000 in
theorem chget_yes (key : Int) (a : Nat) (ha : a % 16 = 0) (ha2 : a < 1099511627776) (h : MEM B col M W σ) (F : Nat → Nat) (ho : openB σ.pg a 16 = true) (hF : ∀ i, i < 16 → σ.c (a + i) = F i) (hF2 : ∀ i, F i < 256) (hk0 : 0 ≤ key) (hk1 : key < 18446744073709551616) (s c t n e : Nat) (hok : readOk key ((a : Int) + 16) F = true ∧ F 1 = s ∧ F 2 = c ∧ F 3 = t ∧ get3 F 4 = n ∧ get3 F 7 = e) :
    Calls Tryd.prog 46 #[.agg #[.pointer (some ⟨M, 0, none⟩), .int .u64 key], .int .i64 ((a : Int) + 16)] W fun e' w' => e' = .returned (.tuple #[.agg #[.int .i64 (s : Int), .int .i64 (c : Int), .int .i64 (t : Int), .int .i64 (n : Int), .int .i64 (e : Int)], .int .i64 0]) ∧ Below W.heap.size W w' := by
  have H := Lib.hid h
  have HT : Hid (thereC ((a : Int) + 16) = true) := Lib.hid (by unfold thereC; rw [decide_eq_true (by omega), show ((a : Int) + 16) % 16 = 0 by omega]; rfl)
  have HA := Lib.hid ha2
  have HC0 := Lib.hid ((ChAt.new W M key 85).below (alc0 _ (.cells #[.int .i64 0, .int .i64 0, .int .i64 0, .int .i64 0, .int .i64 0] 83)))
  have HY0 := Lib.hid (HeadAt.new2 W (.cells #[.pointer (some ⟨M, 0, none⟩), .int .u64 key] 85) 0 0 0 0 0 83)
  have HB0 := Lib.hid (alc (alc0 W (.cells #[.pointer (some ⟨M, 0, none⟩), .int .u64 key] 85)) (.cells #[.int .i64 0, .int .i64 0, .int .i64 0, .int .i64 0, .int .i64 0] 83))
  have HOP : Hid (openB σ.pg (a : Int) ((16 : Nat) : Int) = true) := Lib.hid ho
  have HF := Lib.hid hF
  have HF2 := Lib.hid hF2
  have HK := Lib.hid (And.intro hk0 hk1)
  have HOK := Lib.hid hok
  clear h ha ha2 ho hF hF2 hk0 hk1 hok
  generalize hz : (a : Int) + 16 = z at *
  have HZ := Lib.hid hz
  clear hz
  go_enter Tryd.func46, Tryd.ntmps46
  go_wp2_with fail
  refine (chthere true z _ HT.out).mono ?_
  rintro e' w' ⟨rfl, rfl⟩
  generalize hw1 : World.alloc (World.alloc W _) _ = w1 at *
  clear hw1
  go_upto_region 3 with (fail)
  have HTAKE := Lib.hid (fun (w' : World) (h : (ChAt W.heap.size w' M key ∧ HeadAt (W.heap.size + 1) w' 0 0 0 0 0) ∧ Below W.heap.size W w') => h.1.1.2)
  refine wp_region_held_drew (S := fun w' => (ChAt W.heap.size w' M key ∧ HeadAt (W.heap.size + 1) w' 0 0 0 0 0) ∧ Below W.heap.size W w') (by kernel_rfl) ?_ (fun hHeld => ?_)
  · exact ⟨⟨HC0.out.below (Below.refl _ _).drew, HY0.out.below (Below.refl _ _).drew⟩, HB0.out.drew⟩
  refine wpAnyH_take (i := 0) (v := ?_) rfl (by kernel_rfl) (by kernel_rfl) (by kernel_rfl) (fun _ _ _ h => h) (Or.inl ⟨by kernel_rfl, ?_⟩) (by assumption) ?_
  rotate_left
  · (intro w hSw; (try dsimp only at hSw); (try have hTk := Hid.out HTAKE _ hSw); go_simp)
    try (with_reducible rfl)
  rotate_left
  try simp (maxSteps := 4000000) only [Act.put, List.setIfInBounds_toArray, List.set_cons_zero, List.set_cons_succ, List.getElem_toArray, List.getElem_cons_zero, List.getElem_cons_succ]
  refine wpAnyH_take (i := 1) (v := ?_) rfl (by kernel_rfl) (by kernel_rfl) (by kernel_rfl) (fun _ _ _ h => h) (Or.inl ⟨by kernel_rfl, ?_⟩) (by assumption) ?_
  rotate_left
  · (intro w hSw; (try dsimp only at hSw); (try have hTk := Hid.out HTAKE _ hSw); go_simp)
    try (with_reducible rfl)
  rotate_left
  try simp (maxSteps := 4000000) only [Act.put, List.setIfInBounds_toArray, List.set_cons_zero, List.set_cons_succ, List.getElem_toArray, List.getElem_cons_zero, List.getElem_cons_succ]
  refine wpAnyH_take (i := 2) (v := ?_) rfl (by kernel_rfl) (by kernel_rfl) (by kernel_rfl) (fun _ _ _ h => h) (Or.inl ⟨by kernel_rfl, ?_⟩) (by assumption) ?_
  rotate_left
  · (intro w hSw; (try dsimp only at hSw); (try have hTk := Hid.out HTAKE _ hSw); go_simp)
    try (with_reducible rfl)
  rotate_left
  try simp (maxSteps := 4000000) only [Act.put, List.setIfInBounds_toArray, List.set_cons_zero, List.set_cons_succ, List.getElem_toArray, List.getElem_cons_zero, List.getElem_cons_succ]
  refine wpAnyH_ready (rs := [3]) (by kernel_rfl) (by simp) ?_
  refine AllReadyH.cons rfl (fun K2 hK2 => ?_) AllReadyH.nil
  go_simp
  with_reducible refine Calls.mono (HZ.out ▸ chgran a HA.out _) ?_
  rintro e' w2 ⟨rfl, hb⟩
  refine hK2.out _ _ (⟨⟨hHeld.1.1.below hb, hHeld.1.2.below hb⟩, thn hHeld.2 hb⟩) (fun hHeld2 => ?_)
  clear hK2 K2 hHeld
  have hHeld := hHeld2
  clear hHeld2
  try simp (maxSteps := 4000000) only [Act.put, List.setIfInBounds_toArray, List.set_cons_zero, List.set_cons_succ]
  refine wpAnyH_ready (rs := [4]) (by kernel_rfl) (by simp) ?_
  refine AllReadyH.cons rfl (fun K2 hK2 => ?_) AllReadyH.nil
  go_simp
  with_reducible refine Calls.mono (mread_ok a 16 (H.out.later hHeld.2) HOP.out) ?_
  rintro e' w3 ⟨D, rfl, hD, hP, hb3⟩
  have HRW : Hid (RowU D 16 w3 F) := Lib.hid ⟨hP.1, fun i hi => ⟨by rw [← HF.out i hi]; exact hP.2.1 i hi, hP.2.2 i⟩⟩
  clear hP hD
  refine hK2.out _ _ (⟨⟨hHeld.1.1.below hb3, hHeld.1.2.below hb3⟩, thn hHeld.2 hb3⟩) (fun hHeld2 => ?_)
  clear hK2 K2 hHeld
  have hHeld := hHeld2
  clear hHeld2
  try simp (maxSteps := 4000000) only [Act.put, List.setIfInBounds_toArray, List.set_cons_zero, List.set_cons_succ]
  refine wpAnyH_take (i := 5) (v := ?_) rfl (by kernel_rfl) (by kernel_rfl) (by kernel_rfl) (fun _ _ _ h => h) (Or.inl ⟨by kernel_rfl, ?_⟩) (by assumption) ?_
  rotate_left
  · (intro w hSw; (try dsimp only at hSw); (try have hTk := Hid.out HTAKE _ hSw); go_simp)
    try (with_reducible rfl)
  rotate_left
  try simp (maxSteps := 4000000) only [Act.put, List.setIfInBounds_toArray, List.set_cons_zero, List.set_cons_succ, List.getElem_toArray, List.getElem_cons_zero, List.getElem_cons_succ]
  refine wpAnyH_take (i := 6) (v := ?_) rfl (by kernel_rfl) (by kernel_rfl) (by kernel_rfl) (fun _ _ _ h => h) (Or.inl ⟨by kernel_rfl, ?_⟩) (by assumption) ?_
  rotate_left
  · (intro w hSw; (try dsimp only at hSw); (try have hTk := Hid.out HTAKE _ hSw); go_simp)
    try (with_reducible rfl)
  rotate_left
  try simp (maxSteps := 4000000) only [Act.put, List.setIfInBounds_toArray, List.set_cons_zero, List.set_cons_succ, List.getElem_toArray, List.getElem_cons_zero, List.getElem_cons_succ]
  refine wpAnyH_take (i := 7) (v := ?_) rfl (by kernel_rfl) (by kernel_rfl) (by kernel_rfl) (fun _ _ _ h => h) (Or.inl ⟨by kernel_rfl, ?_⟩) (by assumption) ?_
  rotate_left
  · (intro w hSw; (try dsimp only at hSw); (try have hTk := Hid.out HTAKE _ hSw); go_simp)
    try (with_reducible rfl)
  rotate_left
  try simp (maxSteps := 4000000) only [Act.put, List.setIfInBounds_toArray, List.set_cons_zero, List.set_cons_succ, List.getElem_toArray, List.getElem_cons_zero, List.getElem_cons_succ]
  refine wpAnyH_take (i := 8) (v := ?_) rfl (by kernel_rfl) (by kernel_rfl) (by kernel_rfl) (fun _ _ _ h => h) (Or.inl ⟨by kernel_rfl, ?_⟩) (by assumption) ?_
  rotate_left
  · (intro w hSw; (try dsimp only at hSw); (try have hTk := Hid.out HTAKE _ hSw); go_simp)
    try (with_reducible rfl)
  rotate_left
  try simp (maxSteps := 4000000) only [Act.put, List.setIfInBounds_toArray, List.set_cons_zero, List.set_cons_succ, List.getElem_toArray, List.getElem_cons_zero, List.getElem_cons_succ]
  refine wpAnyH_take (i := 9) (v := ?_) rfl (by kernel_rfl) (by kernel_rfl) (by kernel_rfl) (fun _ _ _ h => h) (Or.inl ⟨by kernel_rfl, ?_⟩) (by assumption) ?_
  rotate_left
  · (intro w hSw; (try dsimp only at hSw); (try have hTk := Hid.out HTAKE _ hSw); go_simp)
    try (with_reducible rfl)
  rotate_left
  try simp (maxSteps := 4000000) only [Act.put, List.setIfInBounds_toArray, List.set_cons_zero, List.set_cons_succ, List.getElem_toArray, List.getElem_cons_zero, List.getElem_cons_succ]
  refine wpAnyH_done (by kernel_rfl) ?_ _
  have HS := Lib.hid hHeld
  clear hHeld HTAKE HC0 HY0 HB0
  obtain ⟨-, c0, c1⟩ := HS.out.1.1
  go_upto_region 6 with (fail)
  go_wp2_with fail
  with_reducible refine Calls.mono (hread_yes key z D 16 F _ HRW.out HF2.out (by decide) HK.out.1 HK.out.2 HOK.out.1 s c t n e HOK.out.2.1 HOK.out.2.2.1 HOK.out.2.2.2.1 HOK.out.2.2.2.2.1 HOK.out.2.2.2.2.2) ?_
  rintro e' w4 ⟨rfl, hb⟩
  have HB4 := Lib.hid (thn HS.out.2 hb)
  have HY4 := Lib.hid (HS.out.1.2.below hb)
  clear hb c0 c1
  obtain ⟨⟨d0, d1, d2, d3, d4⟩, f0, f1, f2, f3, f4⟩ := HY4.out.fz
  go_wp2
  refine bodyPost_ret (v := .tuple #[.agg #[.int .i64 (s : Int), .int .i64 (c : Int), .int .i64 (t : Int), .int .i64 (n : Int), .int .i64 (e : Int)], .int .i64 0]) (by simp [results, Tryd.results46, go_sem, d0, d1, d2, d3, d4]) rfl ⟨rfl, ?_⟩
  exact below_set5 HB4.out (by omega) _ _ _ _ _
end
end Go.Proofs.YtgidnmjeifgciaaDoor
