/- StoreRaw's walk. -/
import Derived.Test.YtodekehpaoahnaaSoN
import Derived.Deep.RegionHeld3
namespace Go.Proofs.Ytodekehpaoahnaa
open Go.RowKit Go.ChangeMaps Go.MapKept
open Go.Maps (Keyed)
set_option linter.unusedVariables false
set_option linter.unusedSimpArgs false

set_option maxRecDepth 100000 in
set_option maxHeartbeats 6400000 in
theorem sraw_yesL (a' : Nat) (n : Int) (hhi : a' < 262144) (sb so : Nat) (ln cp : Nat) (W : World) (hlc : ln ≤ cp) (hln : 20 < ln) (hw : mayB (a' : Int) (20 : Nat) = true) (d : Nat → Nat) (hsb : sb < W.heap.size) (hs : ∀ i, i < ln → W.cell? ⟨sb, so + i, none⟩ = some (.int .u8 (d i : Int))) : Calls Try.prog 4 #[.int .i64 (a' : Int), .int .i64 n, .slice (some ⟨sb, so, none⟩) ln cp] W fun e w' => e = .returned (.bool true) ∧ Below W.heap.size W w' := by
  obtain ⟨m, hm, hm9⟩ : ∃ m : Nat, n % 256 = (m : Int) ∧ m < 256 := ⟨(n % 256).toNat, by omega, by omega⟩
  have hand : bits .and .i64 n 255 = (m : Int) := by rw [and255, hm]
  obtain ⟨F, hF⟩ : ∃ F, mayB (a' : Int) (m : Int) = F := ⟨_, rfl⟩
  obtain ⟨G, hG⟩ : ∃ G, mayB (a' : Int) 8 = G := ⟨_, rfl⟩
  have h1 : mayB (a' : Int) 1 = true := by exact mayB_iff.2 (by omega)
  have HF := Lib.hid hF
  have HG := Lib.hid hG
  have HM1 := Lib.hid h1
  have HW := Lib.hid hw
  have hlnI : (20 : Int) < (ln : Int) := by omega
  have hcpI : (20 : Int) ≤ (cp : Int) ∧ 20 ≤ cp := by omega
  obtain ⟨hcpI, hcpN⟩ := hcpI
  have hmI : (m : Int) ≤ 262144 := by omega
  have hn0 : 0 < 20 ∧ a' + 20 ≤ 262144 := by have := mayB_iff.1 hw; omega
  have HN0 := Lib.hid hn0
  have HSRC : Hid (sb < W.heap.size ∧ ∀ i, i < ln → W.cell? ⟨sb, so + i, none⟩ = some (.int .u8 (d i : Int))) := Lib.hid ⟨hsb, hs⟩
  clear hsb hs hn0
  have hhiI : (a' : Int) < 262144 := by omega
  have hloI : (0 : Int) ≤ (a' : Int) := by omega
  clear hm hF hG h1 hw hm9 hln hlc
  go_enter Try.func4, Try.ntmps4
  go_wp2_with fail
  with_reducible refine Calls.mono (snew W) ?_
  rintro e w1 ⟨g, b, rfl, hs, hb⟩
  have HB1 := Lib.hid hb
  have HS1 := Lib.hid hs
  clear hs hb
  have hW : Calls Try.prog 7 #[.pointer (some ⟨g, 0, none⟩), .int .i64 (a' : Int), .slice (some ⟨sb, so, none⟩) 20 cp] w1 fun e w' => (e = .returned (.bool true) ∧ ST W.heap.size g w' (over (fun _ => 0) a' 20 d)) ∧ w1.heap.size ≤ w'.heap.size ∧ Below W.heap.size w1 w' := swrite_yes W.heap.size g b w1 _ _ d HS1.out a' 20 sb so cp HN0.out.1 HN0.out.2 hcpN (fun i hi => (HB1.out.cell (p := ⟨sb, so + i, none⟩) HSRC.out.1).trans (HSRC.out.2 i (by omega))) (by simp)
  have HWW := Lib.hid hW
  clear hW
  go_wp2_with fail
  with_reducible refine Calls.mono (HWW.out) ?_
  rintro e w2 ⟨⟨rfl, hs⟩, _, hb⟩
  have H2 : Hid (Below W.heap.size W w2) := Lib.hid (HB1.out.trans hb)
  have HS2 := Lib.hid hs
  clear hs hb HB1 HS1 HWW
  go_wp2_with fail
  with_reducible refine Calls.mono (snew w2) ?_
  rintro e w3 ⟨g2, b2, rfl, hs, hb⟩
  have H3 : Hid (Below w2.heap.size w2 w3) := Lib.hid hb
  have hP : Calls Try.prog 6 #[.pointer (some ⟨g2, 0, none⟩), .int .i64 (a' : Int), .int .u8 1] w3 fun e w' => e = .returned (.bool true) ∧ Below w2.heap.size w3 w' := sput_b w2.heap.size g2 w3 _ ⟨b2, _, hs⟩ (a' : Int) 1 _ HM1.out
  have HP := Lib.hid hP
  clear hP hs hb
  go_wp2_with fail
  with_reducible refine Calls.mono (HP.out) ?_
  rintro e w4 ⟨rfl, hb⟩
  have H4 : Hid (Below w2.heap.size w2 w4) := Lib.hid (H3.out.trans hb)
  clear hb HP H3
  go_wp2_with fail
  with_reducible refine Calls.mono (snew w4) ?_
  rintro e w5 ⟨g3, b3, rfl, hs, hb⟩
  have hP : Calls Try.prog 8 #[.pointer (some ⟨g3, 0, none⟩), .int .i64 (a' : Int), .int .i64 (m : Int), .int .u8 1] w5 fun e w' => e = .returned (.bool F) ∧ Below w4.heap.size w5 w' := sfill_b w4.heap.size g3 w5 _ ⟨b3, _, hs⟩ (a' : Int) m 1 _ HF.out
  have HP := Lib.hid hP
  have H5 := Lib.hid hb
  clear hP hs hb
  go_wp2_with fail
  with_reducible refine Calls.mono (HP.out) ?_
  rintro e w6 ⟨rfl, hb⟩
  have H6 : Hid (Below w2.heap.size w2 w6) := Lib.hid (thn H4.out (H5.out.trans hb))
  clear hb HP H5 H4
  go_wp2_with fail
  with_reducible refine Calls.mono (snew w6) ?_
  rintro e w7 ⟨g4, b4, rfl, hs, hb⟩
  have hP := sread_b w6.heap.size g4 w7 _ ⟨b4, _, hs⟩ (a' : Int) m _ HF.out
  have HP := Lib.hid hP
  have H7 : Hid (Below w2.heap.size w2 w7) := Lib.hid (thn H6.out hb)
  clear hP hs hb H6
  go_wp2_with fail
  with_reducible refine Calls.mono (HP.out) ?_
  rintro e w8 ⟨⟨A4, k4, rfl, hk4⟩, hb⟩
  have H8 : Hid (Below w2.heap.size w2 w8) := Lib.hid (thn H7.out hb)
  have hk4I : decide ((0 : Int) < (k4 : Int)) = F := by rw [← hk4, decide_eq_decide]; omega
  clear hb HP H7
  go_wp2_with fail
  with_reducible refine Calls.mono (sdrop_none 0 w8) ?_
  rintro e w9 ⟨rfl, hb⟩
  have H9 : Hid (Below w2.heap.size w2 w9) := Lib.hid (thn H8.out hb)
  clear hb H8
  have HXO := Lib.hid (show True from trivial)
  have HX0 : Hid (∀ w', Below w9.heap.size w9 w' → (convert 26 9 (.slice (some ⟨sb, so, none⟩) 20 cp)).run Try.prog w' = .ok (.string (sof d 20)) w') := Lib.hid (fun w' hh => conv_of w' sb so 20 cp d (fun j hj => ((thn H2.out (thn H9.out hh)).cell (p := ⟨sb, so + j, none⟩) HSRC.out.1).trans (HSRC.out.2 j (by omega))))
  have HTAKE := Lib.hid (fun w' (h : Hid (Below w9.heap.size w9 w')) => HX0.out w' h.out)
  clear HXO
  go_upto_region 9 with (fail)
  refine wp_region_held_drew (S := fun w' => Hid (Below w9.heap.size w9 w')) (by kernel_rfl) ?_ (fun hHeld => ?_)
  · exact Lib.hid (Below.refl _ _).drew
  try simp only [List.append_eq, List.cons_append, List.nil_append]
  refine wpAnyH_ready (rs := [0]) (by kernel_rfl) (by simp) ?_
  refine AllReadyH.cons rfl (fun K2 hK2 => ?_) AllReadyH.nil
  go_simp
  with_reducible refine Calls.mono (awake_ok _) ?_
  rintro e wa ⟨rfl, hb⟩
  refine hK2.out _ _ ?_ (fun hHeld2 => ?_)
  · exact Lib.hid (thn hHeld.out hb)
  clear hb 
  clear hK2 K2 hHeld
  have hHeld := hHeld2
  clear hHeld2
  try simp (maxSteps := 4000000) only [Act.put, List.setIfInBounds_toArray, List.set_cons_zero, List.set_cons_succ]
  refine wpAnyH_take (i := 1) (v := ?_) rfl (by kernel_rfl) (by kernel_rfl) (by kernel_rfl) (fun _ _ _ h => h) (Or.inl ⟨by kernel_rfl, ?_⟩) (by assumption) ?_
  rotate_left
  · (intro w hSw; (try dsimp only at hSw); (try have hTk := Hid.out HTAKE _ hSw); go_simp)
    try (with_reducible rfl)
  rotate_left
  try simp (maxSteps := 4000000) only [Act.put, List.setIfInBounds_toArray, List.set_cons_zero, List.set_cons_succ, List.getElem_toArray, List.getElem_cons_zero, List.getElem_cons_succ]
  refine wpAnyH_take (i := 2) (v := ?_) rfl (by kernel_rfl) (by kernel_rfl) (by kernel_rfl) (fun _ _ _ h => h) (Or.inl ⟨by kernel_rfl, ?_⟩) (by assumption) ?_
  rotate_left
  · (intro w hSw; (try dsimp only at hSw); (try have hTk := Hid.out HTAKE _ hSw); go_simp)
    try (with_reducible rfl)
  rotate_left
  try simp (maxSteps := 4000000) only [Act.put, List.setIfInBounds_toArray, List.set_cons_zero, List.set_cons_succ, List.getElem_toArray, List.getElem_cons_zero, List.getElem_cons_succ]
  refine wpAnyH_take (i := 3) (v := ?_) rfl (by kernel_rfl) (by kernel_rfl) (by kernel_rfl) (fun _ _ _ h => h) (Or.inl ⟨by kernel_rfl, ?_⟩) (by assumption) ?_
  rotate_left
  · (intro w hSw; (try dsimp only at hSw); (try have hTk := Hid.out HTAKE _ hSw); go_simp)
    try (with_reducible rfl)
  rotate_left
  try simp (maxSteps := 4000000) only [Act.put, List.setIfInBounds_toArray, List.set_cons_zero, List.set_cons_succ, List.getElem_toArray, List.getElem_cons_zero, List.getElem_cons_succ]
  refine wpAnyH_take (i := 4) (v := ?_) rfl (by kernel_rfl) (by kernel_rfl) (by kernel_rfl) (fun _ _ _ h => h) (Or.inl ⟨by kernel_rfl, ?_⟩) (by assumption) ?_
  rotate_left
  · (intro w hSw; (try dsimp only at hSw); (try have hTk := Hid.out HTAKE _ hSw); go_simp)
    try (with_reducible rfl)
  rotate_left
  try simp (maxSteps := 4000000) only [Act.put, List.setIfInBounds_toArray, List.set_cons_zero, List.set_cons_succ, List.getElem_toArray, List.getElem_cons_zero, List.getElem_cons_succ]
  refine wpAnyH_take (i := 5) (v := ?_) rfl (by kernel_rfl) (by kernel_rfl) (by kernel_rfl) (fun _ _ _ h => h) (Or.inl ⟨by kernel_rfl, ?_⟩) (by assumption) ?_
  rotate_left
  · (intro w hSw; (try dsimp only at hSw); (try have hTk := Hid.out HTAKE _ hSw); go_simp)
    try (with_reducible rfl)
  rotate_left
  try simp (maxSteps := 4000000) only [Act.put, List.setIfInBounds_toArray, List.set_cons_zero, List.set_cons_succ, List.getElem_toArray, List.getElem_cons_zero, List.getElem_cons_succ]
  refine wpAnyH_ready (rs := [6]) (by kernel_rfl) (by simp) ?_
  refine AllReadyH.cons rfl (fun K2 hK2 => ?_) AllReadyH.nil
  go_simp
  have hM : ∀ w, Calls Try.prog 15 #[.int .i64 (a' : Int), .int .i64 20] w fun e w' => e = .returned (.bool true) ∧ Below w.heap.size w w' := fun w => by have h := lmay (a' : Int) 20 w (by omega); rw [show mayB (a' : Int) 20 = _ from HW.out] at h; exact h
  with_reducible refine Calls.mono (hM _) ?_
  rintro e wb ⟨rfl, hb⟩
  refine hK2.out _ _ ?_ (fun hHeld2 => ?_)
  · exact Lib.hid (thn hHeld.out hb)
  clear hb hM
  clear hK2 K2 hHeld
  have hHeld := hHeld2
  clear hHeld2
  try simp (maxSteps := 4000000) only [Act.put, List.setIfInBounds_toArray, List.set_cons_zero, List.set_cons_succ]
  refine wpAnyH_take (i := 7) (v := ?_) rfl (by kernel_rfl) (by kernel_rfl) (by kernel_rfl) (fun _ _ _ h => h) (Or.inl ⟨by kernel_rfl, ?_⟩) (by assumption) ?_
  rotate_left
  · (intro w hSw; (try dsimp only at hSw); (try have hTk := Hid.out HTAKE _ hSw); go_simp)
    try (with_reducible rfl)
  rotate_left
  try simp (maxSteps := 4000000) only [Act.put, List.setIfInBounds_toArray, List.set_cons_zero, List.set_cons_succ, List.getElem_toArray, List.getElem_cons_zero, List.getElem_cons_succ]
  refine wpAnyH_take (i := 8) (v := ?_) rfl (by kernel_rfl) (by kernel_rfl) (by kernel_rfl) (fun _ _ _ h => h) (Or.inl ⟨by kernel_rfl, ?_⟩) (by assumption) ?_
  rotate_left
  · (intro w hSw; (try dsimp only at hSw); (try have hTk := Hid.out HTAKE _ hSw); go_simp)
    try (with_reducible rfl)
  rotate_left
  try simp (maxSteps := 4000000) only [Act.put, List.setIfInBounds_toArray, List.set_cons_zero, List.set_cons_succ, List.getElem_toArray, List.getElem_cons_zero, List.getElem_cons_succ]
  refine wpAnyH_take (i := 9) (v := ?_) rfl (by kernel_rfl) (by kernel_rfl) (by kernel_rfl) (fun _ _ _ h => h) (Or.inl ⟨by kernel_rfl, ?_⟩) (by assumption) ?_
  rotate_left
  · (intro w hSw; (try dsimp only at hSw); (try have hTk := Hid.out HTAKE _ hSw); go_simp)
    try (with_reducible rfl)
  rotate_left
  try simp (maxSteps := 4000000) only [Act.put, List.setIfInBounds_toArray, List.set_cons_zero, List.set_cons_succ, List.getElem_toArray, List.getElem_cons_zero, List.getElem_cons_succ]
  refine wpAnyH_take (i := 10) (v := ?_) rfl (by kernel_rfl) (by kernel_rfl) (by kernel_rfl) (fun _ _ _ h => h) (Or.inl ⟨by kernel_rfl, ?_⟩) (by assumption) ?_
  rotate_left
  · (intro w hSw; (try dsimp only at hSw); (try have hTk := Hid.out HTAKE _ hSw); go_simp)
    try (with_reducible rfl)
  rotate_left
  try simp (maxSteps := 4000000) only [Act.put, List.setIfInBounds_toArray, List.set_cons_zero, List.set_cons_succ, List.getElem_toArray, List.getElem_cons_zero, List.getElem_cons_succ]
  refine wpAnyH_take (i := 11) (v := ?_) rfl (by kernel_rfl) (by kernel_rfl) (by kernel_rfl) (fun _ _ _ h => h) (Or.inl ⟨by kernel_rfl, ?_⟩) (by assumption) ?_
  rotate_left
  · (intro w hSw; (try dsimp only at hSw); (try have hTk := Hid.out HTAKE _ hSw); go_simp)
    try (with_reducible rfl)
  rotate_left
  try simp (maxSteps := 4000000) only [Act.put, List.setIfInBounds_toArray, List.set_cons_zero, List.set_cons_succ, List.getElem_toArray, List.getElem_cons_zero, List.getElem_cons_succ]
  refine wpAnyH_take (i := 12) (v := ?_) rfl (by kernel_rfl) (by kernel_rfl) (by kernel_rfl) (fun _ _ _ h => h) (Or.inl ⟨by kernel_rfl, ?_⟩) (by assumption) ?_
  rotate_left
  · (intro w hSw; (try dsimp only at hSw); (try have hTk := Hid.out HTAKE _ hSw); go_simp)
    try (with_reducible rfl)
  rotate_left
  try simp (maxSteps := 4000000) only [Act.put, List.setIfInBounds_toArray, List.set_cons_zero, List.set_cons_succ, List.getElem_toArray, List.getElem_cons_zero, List.getElem_cons_succ]
  refine wpAnyH_take (i := 13) (v := ?_) rfl (by kernel_rfl) (by kernel_rfl) (by kernel_rfl) (fun _ _ _ h => h) (Or.inl ⟨by kernel_rfl, ?_⟩) (by assumption) ?_
  rotate_left
  · (intro w hSw; (try dsimp only at hSw); (try have hTk := Hid.out HTAKE _ hSw); go_simp)
    try (with_reducible rfl)
  rotate_left
  try simp (maxSteps := 4000000) only [Act.put, List.setIfInBounds_toArray, List.set_cons_zero, List.set_cons_succ, List.getElem_toArray, List.getElem_cons_zero, List.getElem_cons_succ]
  refine wpAnyH_take (i := 14) (v := ?_) rfl (by kernel_rfl) (by kernel_rfl) (by kernel_rfl) (fun _ _ _ h => h) (Or.inl ⟨by kernel_rfl, ?_⟩) (by assumption) ?_
  rotate_left
  · (intro w hSw; (try dsimp only at hSw); (try have hTk := Hid.out HTAKE _ hSw); go_simp)
    try (with_reducible rfl)
  rotate_left
  try simp (maxSteps := 4000000) only [Act.put, List.setIfInBounds_toArray, List.set_cons_zero, List.set_cons_succ, List.getElem_toArray, List.getElem_cons_zero, List.getElem_cons_succ]
  refine wpAnyH_take (i := 15) (v := ?_) rfl (by kernel_rfl) (by kernel_rfl) (by kernel_rfl) (fun _ _ _ h => h) (Or.inl ⟨by kernel_rfl, ?_⟩) (by assumption) ?_
  rotate_left
  · (intro w hSw; (try dsimp only at hSw); (try have hTk := Hid.out HTAKE _ hSw); go_simp)
    try (with_reducible rfl)
  rotate_left
  try simp (maxSteps := 4000000) only [Act.put, List.setIfInBounds_toArray, List.set_cons_zero, List.set_cons_succ, List.getElem_toArray, List.getElem_cons_zero, List.getElem_cons_succ]
  refine wpAnyH_take (i := 16) (v := ?_) rfl (by kernel_rfl) (by kernel_rfl) (by kernel_rfl) (fun _ _ _ h => h) (Or.inl ⟨by kernel_rfl, ?_⟩) (by assumption) ?_
  rotate_left
  · (intro w hSw; (try dsimp only at hSw); (try have hTk := Hid.out HTAKE _ hSw); go_simp)
    try (with_reducible rfl)
  rotate_left
  try simp (maxSteps := 4000000) only [Act.put, List.setIfInBounds_toArray, List.set_cons_zero, List.set_cons_succ, List.getElem_toArray, List.getElem_cons_zero, List.getElem_cons_succ]
  refine wpAnyH_take (i := 17) (v := ?_) rfl (by kernel_rfl) (by kernel_rfl) (by kernel_rfl) (fun _ _ _ h => h) (Or.inl ⟨by kernel_rfl, ?_⟩) (by assumption) ?_
  rotate_left
  · (intro w hSw; (try dsimp only at hSw); (try have hTk := Hid.out HTAKE _ hSw); go_simp)
    try (with_reducible rfl)
  rotate_left
  try simp (maxSteps := 4000000) only [Act.put, List.setIfInBounds_toArray, List.set_cons_zero, List.set_cons_succ, List.getElem_toArray, List.getElem_cons_zero, List.getElem_cons_succ]
  refine wpAnyH_take (i := 18) (v := ?_) rfl (by kernel_rfl) (by kernel_rfl) (by kernel_rfl) (fun _ _ _ h => h) (Or.inl ⟨by kernel_rfl, ?_⟩) (by assumption) ?_
  rotate_left
  · (intro w hSw; (try dsimp only at hSw); (try have hTk := Hid.out HTAKE _ hSw); go_simp)
    try (with_reducible rfl)
  rotate_left
  try simp (maxSteps := 4000000) only [Act.put, List.setIfInBounds_toArray, List.set_cons_zero, List.set_cons_succ, List.getElem_toArray, List.getElem_cons_zero, List.getElem_cons_succ]
  refine wpAnyH_ready (rs := [19]) (by kernel_rfl) (by simp) ?_
  refine AllReadyH.cons rfl (fun K2 hK2 => ?_) AllReadyH.nil
  go_simp
  have hM : ∀ w, Calls Try.prog 15 #[.int .i64 (a' : Int), .int .i64 (m : Int)] w fun e w' => e = .returned (.bool F) ∧ Below w.heap.size w w' := fun w => by have h := lmay (a' : Int) (m : Int) w (hmI); rw [show mayB (a' : Int) (m : Int) = _ from HF.out] at h; exact h
  with_reducible refine Calls.mono (hM _) ?_
  rintro e wc ⟨rfl, hb⟩
  refine hK2.out _ _ ?_ (fun hHeld2 => ?_)
  · exact Lib.hid (thn hHeld.out hb)
  clear hb hM
  clear hK2 K2 hHeld
  have hHeld := hHeld2
  clear hHeld2
  try simp (maxSteps := 4000000) only [Act.put, List.setIfInBounds_toArray, List.set_cons_zero, List.set_cons_succ]
  refine wpAnyH_take (i := 20) (v := ?_) rfl (by kernel_rfl) (by kernel_rfl) (by kernel_rfl) (fun _ _ _ h => h) (Or.inl ⟨by kernel_rfl, ?_⟩) (by assumption) ?_
  rotate_left
  · (intro w hSw; (try dsimp only at hSw); (try have hTk := Hid.out HTAKE _ hSw); go_simp)
    try (with_reducible rfl)
  rotate_left
  try simp (maxSteps := 4000000) only [Act.put, List.setIfInBounds_toArray, List.set_cons_zero, List.set_cons_succ, List.getElem_toArray, List.getElem_cons_zero, List.getElem_cons_succ]
  refine wpAnyH_take (i := 21) (v := ?_) rfl (by kernel_rfl) (by kernel_rfl) (by kernel_rfl) (fun _ _ _ h => h) (Or.inl ⟨by kernel_rfl, ?_⟩) (by assumption) ?_
  rotate_left
  · (intro w hSw; (try dsimp only at hSw); (try have hTk := Hid.out HTAKE _ hSw); go_simp)
    try (with_reducible rfl)
  rotate_left
  try simp (maxSteps := 4000000) only [Act.put, List.setIfInBounds_toArray, List.set_cons_zero, List.set_cons_succ, List.getElem_toArray, List.getElem_cons_zero, List.getElem_cons_succ]
  refine wpAnyH_take (i := 22) (v := ?_) rfl (by kernel_rfl) (by kernel_rfl) (by kernel_rfl) (fun _ _ _ h => h) (Or.inl ⟨by kernel_rfl, ?_⟩) (by assumption) ?_
  rotate_left
  · (intro w hSw; (try dsimp only at hSw); (try have hTk := Hid.out HTAKE _ hSw); go_simp)
    try (with_reducible rfl)
  rotate_left
  try simp (maxSteps := 4000000) only [Act.put, List.setIfInBounds_toArray, List.set_cons_zero, List.set_cons_succ, List.getElem_toArray, List.getElem_cons_zero, List.getElem_cons_succ]
  refine wpAnyH_take (i := 23) (v := ?_) rfl (by kernel_rfl) (by kernel_rfl) (by kernel_rfl) (fun _ _ _ h => h) (Or.inl ⟨by kernel_rfl, ?_⟩) (by assumption) ?_
  rotate_left
  · (intro w hSw; (try dsimp only at hSw); (try have hTk := Hid.out HTAKE _ hSw); go_simp)
    try (with_reducible rfl)
  rotate_left
  try simp (maxSteps := 4000000) only [Act.put, List.setIfInBounds_toArray, List.set_cons_zero, List.set_cons_succ, List.getElem_toArray, List.getElem_cons_zero, List.getElem_cons_succ]
  refine wpAnyH_take (i := 24) (v := ?_) rfl (by kernel_rfl) (by kernel_rfl) (by kernel_rfl) (fun _ _ _ h => h) (Or.inl ⟨by kernel_rfl, ?_⟩) (by assumption) ?_
  rotate_left
  · (intro w hSw; (try dsimp only at hSw); (try have hTk := Hid.out HTAKE _ hSw); go_simp)
    try (with_reducible rfl)
  rotate_left
  try simp (maxSteps := 4000000) only [Act.put, List.setIfInBounds_toArray, List.set_cons_zero, List.set_cons_succ, List.getElem_toArray, List.getElem_cons_zero, List.getElem_cons_succ]
  refine wpAnyH_take (i := 25) (v := ?_) rfl (by kernel_rfl) (by kernel_rfl) (by kernel_rfl) (fun _ _ _ h => h) (Or.inl ⟨by kernel_rfl, ?_⟩) (by assumption) ?_
  rotate_left
  · (intro w hSw; (try dsimp only at hSw); (try have hTk := Hid.out HTAKE _ hSw); go_simp)
    try (with_reducible rfl)
  rotate_left
  try simp (maxSteps := 4000000) only [Act.put, List.setIfInBounds_toArray, List.set_cons_zero, List.set_cons_succ, List.getElem_toArray, List.getElem_cons_zero, List.getElem_cons_succ]
  refine wpAnyH_take (i := 26) (v := ?_) rfl (by kernel_rfl) (by kernel_rfl) (by kernel_rfl) (fun _ _ _ h => h) (Or.inl ⟨by kernel_rfl, ?_⟩) (by assumption) ?_
  rotate_left
  · (intro w hSw; (try dsimp only at hSw); (try have hTk := Hid.out HTAKE _ hSw); go_simp)
    try (with_reducible rfl)
  rotate_left
  try simp (maxSteps := 4000000) only [Act.put, List.setIfInBounds_toArray, List.set_cons_zero, List.set_cons_succ, List.getElem_toArray, List.getElem_cons_zero, List.getElem_cons_succ]
  refine wpAnyH_take (i := 27) (v := ?_) rfl (by kernel_rfl) (by kernel_rfl) (by kernel_rfl) (fun _ _ _ h => h) (Or.inl ⟨by kernel_rfl, ?_⟩) (by assumption) ?_
  rotate_left
  · (intro w hSw; (try dsimp only at hSw); (try have hTk := Hid.out HTAKE _ hSw); go_simp)
    try (with_reducible rfl)
  rotate_left
  try simp (maxSteps := 4000000) only [Act.put, List.setIfInBounds_toArray, List.set_cons_zero, List.set_cons_succ, List.getElem_toArray, List.getElem_cons_zero, List.getElem_cons_succ]
  refine wpAnyH_take (i := 28) (v := ?_) rfl (by kernel_rfl) (by kernel_rfl) (by kernel_rfl) (fun _ _ _ h => h) (Or.inl ⟨by kernel_rfl, ?_⟩) (by assumption) ?_
  rotate_left
  · (intro w hSw; (try dsimp only at hSw); (try have hTk := Hid.out HTAKE _ hSw); go_simp)
    try (with_reducible rfl)
  rotate_left
  try simp (maxSteps := 4000000) only [Act.put, List.setIfInBounds_toArray, List.set_cons_zero, List.set_cons_succ, List.getElem_toArray, List.getElem_cons_zero, List.getElem_cons_succ]
  refine wpAnyH_ready (rs := [29]) (by kernel_rfl) (by simp) ?_
  refine AllReadyH.cons rfl (fun K2 hK2 => ?_) AllReadyH.nil
  go_simp
  have hM : ∀ w, Calls Try.prog 15 #[.int .i64 (a' : Int), .int .i64 (m : Int)] w fun e w' => e = .returned (.bool F) ∧ Below w.heap.size w w' := fun w => by have h := lmay (a' : Int) (m : Int) w (hmI); rw [show mayB (a' : Int) (m : Int) = _ from HF.out] at h; exact h
  with_reducible refine Calls.mono (hM _) ?_
  rintro e wd ⟨rfl, hb⟩
  refine hK2.out _ _ ?_ (fun hHeld2 => ?_)
  · exact Lib.hid (thn hHeld.out hb)
  clear hb hM
  clear hK2 K2 hHeld
  have hHeld := hHeld2
  clear hHeld2
  try simp (maxSteps := 4000000) only [Act.put, List.setIfInBounds_toArray, List.set_cons_zero, List.set_cons_succ]
  refine wpAnyH_take (i := 30) (v := ?_) rfl (by kernel_rfl) (by kernel_rfl) (by kernel_rfl) (fun _ _ _ h => h) (Or.inl ⟨by kernel_rfl, ?_⟩) (by assumption) ?_
  rotate_left
  · (intro w hSw; (try dsimp only at hSw); (try have hTk := Hid.out HTAKE _ hSw); go_simp)
    try (with_reducible rfl)
  rotate_left
  try simp (maxSteps := 4000000) only [Act.put, List.setIfInBounds_toArray, List.set_cons_zero, List.set_cons_succ, List.getElem_toArray, List.getElem_cons_zero, List.getElem_cons_succ]
  refine wpAnyH_take (i := 31) (v := ?_) rfl (by kernel_rfl) (by kernel_rfl) (by kernel_rfl) (fun _ _ _ h => h) (Or.inl ⟨by kernel_rfl, ?_⟩) (by assumption) ?_
  rotate_left
  · (intro w hSw; (try dsimp only at hSw); (try have hTk := Hid.out HTAKE _ hSw); go_simp)
    try (with_reducible rfl)
  rotate_left
  try simp (maxSteps := 4000000) only [Act.put, List.setIfInBounds_toArray, List.set_cons_zero, List.set_cons_succ, List.getElem_toArray, List.getElem_cons_zero, List.getElem_cons_succ]
  refine wpAnyH_take (i := 32) (v := ?_) rfl (by kernel_rfl) (by kernel_rfl) (by kernel_rfl) (fun _ _ _ h => h) (Or.inl ⟨by kernel_rfl, ?_⟩) (by assumption) ?_
  rotate_left
  · (intro w hSw; (try dsimp only at hSw); (try have hTk := Hid.out HTAKE _ hSw); go_simp)
    try (with_reducible rfl)
  rotate_left
  try simp (maxSteps := 4000000) only [Act.put, List.setIfInBounds_toArray, List.set_cons_zero, List.set_cons_succ, List.getElem_toArray, List.getElem_cons_zero, List.getElem_cons_succ]
  refine wpAnyH_take (i := 34) (v := ?_) rfl (by kernel_rfl) (by kernel_rfl) (by kernel_rfl) (fun _ _ _ h => h) (Or.inl ⟨by kernel_rfl, ?_⟩) (by assumption) ?_
  rotate_left
  · (intro w hSw; (try dsimp only at hSw); (try have hTk := Hid.out HTAKE _ hSw); go_simp)
    try (with_reducible rfl)
  rotate_left
  try simp (maxSteps := 4000000) only [Act.put, List.setIfInBounds_toArray, List.set_cons_zero, List.set_cons_succ, List.getElem_toArray, List.getElem_cons_zero, List.getElem_cons_succ]
  refine wpAnyH_take (i := 36) (v := ?_) rfl (by kernel_rfl) (by kernel_rfl) (by kernel_rfl) (fun _ _ _ h => h) (Or.inl ⟨by kernel_rfl, ?_⟩) (by assumption) ?_
  rotate_left
  · (intro w hSw; (try dsimp only at hSw); (try have hTk := Hid.out HTAKE _ hSw); go_simp)
    try (with_reducible rfl)
  rotate_left
  try simp (maxSteps := 4000000) only [Act.put, List.setIfInBounds_toArray, List.set_cons_zero, List.set_cons_succ, List.getElem_toArray, List.getElem_cons_zero, List.getElem_cons_succ]
  refine wpAnyH_ready (rs := [33]) (by kernel_rfl) (by simp) ?_
  refine AllReadyH.cons rfl (fun K2 hK2 => ?_) AllReadyH.nil
  go_simp
  with_reducible refine Calls.mono (snew _) ?_
  rintro e we ⟨g5, b5, rfl, hs, hb⟩
  refine hK2.out _ _ ?_ (fun hHeld2 => ?_)
  · exact Lib.hid (thn hHeld.out hb)
  have He := Lib.hid hb
  have Hd := Lib.hid hHeld.out
  have hP : Calls Try.prog 9 #[.pointer (some ⟨g5, 0, none⟩), .int .i64 (a' : Int), .int .u64 1] we _ := sset_b _ g5 we _ ⟨b5, _, hs⟩ (a' : Int) 1 (by decide) _ HG.out
  have HP := Lib.hid hP
  clear hP
  clear hb hs
  clear hK2 K2 hHeld
  have hHeld := hHeld2
  clear hHeld2
  try simp (maxSteps := 4000000) only [Act.put, List.setIfInBounds_toArray, List.set_cons_zero, List.set_cons_succ]
  refine wpAnyH_ready (rs := [35]) (by kernel_rfl) (by simp) ?_
  refine AllReadyH.cons rfl (fun K2 hK2 => ?_) AllReadyH.nil
  go_simp
  with_reducible refine Calls.mono (HP.out) ?_
  rintro e wf ⟨rfl, hb⟩
  refine hK2.out _ _ ?_ (fun hHeld2 => ?_)
  · exact Lib.hid (thn Hd.out (He.out.trans hb))
  clear hb HP He Hd
  clear hK2 K2 hHeld
  have hHeld := hHeld2
  clear hHeld2
  try simp (maxSteps := 4000000) only [Act.put, List.setIfInBounds_toArray, List.set_cons_zero, List.set_cons_succ]
  refine wpAnyH_ready (rs := [37]) (by kernel_rfl) (by simp) ?_
  refine AllReadyH.cons rfl (fun K2 hK2 => ?_) AllReadyH.nil
  go_simp
  have hM : ∀ w, Calls Try.prog 15 #[.int .i64 (a' : Int), .int .i64 8] w fun e w' => e = .returned (.bool G) ∧ Below w.heap.size w w' := fun w => by have h := lmay (a' : Int) 8 w (by decide); rw [show mayB (a' : Int) 8 = _ from HG.out] at h; exact h
  with_reducible refine Calls.mono (hM _) ?_
  rintro e wg ⟨rfl, hb⟩
  refine hK2.out _ _ ?_ (fun hHeld2 => ?_)
  · exact Lib.hid (thn hHeld.out hb)
  clear hb hM
  clear hK2 K2 hHeld
  have hHeld := hHeld2
  clear hHeld2
  try simp (maxSteps := 4000000) only [Act.put, List.setIfInBounds_toArray, List.set_cons_zero, List.set_cons_succ]
  refine wpAnyH_take (i := 38) (v := ?_) rfl (by kernel_rfl) (by kernel_rfl) (by kernel_rfl) (fun _ _ _ h => h) (Or.inl ⟨by kernel_rfl, ?_⟩) (by assumption) ?_
  rotate_left
  · (intro w hSw; (try dsimp only at hSw); (try have hTk := Hid.out HTAKE _ hSw); go_simp)
    try (with_reducible rfl)
  rotate_left
  try simp (maxSteps := 4000000) only [Act.put, List.setIfInBounds_toArray, List.set_cons_zero, List.set_cons_succ, List.getElem_toArray, List.getElem_cons_zero, List.getElem_cons_succ]
  refine wpAnyH_take (i := 39) (v := ?_) rfl (by kernel_rfl) (by kernel_rfl) (by kernel_rfl) (fun _ _ _ h => h) (Or.inl ⟨by kernel_rfl, ?_⟩) (by assumption) ?_
  rotate_left
  · (intro w hSw; (try dsimp only at hSw); (try have hTk := Hid.out HTAKE _ hSw); go_simp)
    try (with_reducible rfl)
  rotate_left
  try simp (maxSteps := 4000000) only [Act.put, List.setIfInBounds_toArray, List.set_cons_zero, List.set_cons_succ, List.getElem_toArray, List.getElem_cons_zero, List.getElem_cons_succ]
  refine wpAnyH_take (i := 40) (v := ?_) rfl (by kernel_rfl) (by kernel_rfl) (by kernel_rfl) (fun _ _ _ h => h) (Or.inl ⟨by kernel_rfl, ?_⟩) (by assumption) ?_
  rotate_left
  · (intro w hSw; (try dsimp only at hSw); (try have hTk := Hid.out HTAKE _ hSw); go_simp)
    try (with_reducible rfl)
  rotate_left
  try simp (maxSteps := 4000000) only [Act.put, List.setIfInBounds_toArray, List.set_cons_zero, List.set_cons_succ, List.getElem_toArray, List.getElem_cons_zero, List.getElem_cons_succ]
  refine wpAnyH_take (i := 41) (v := ?_) rfl (by kernel_rfl) (by kernel_rfl) (by kernel_rfl) (fun _ _ _ h => h) (Or.inl ⟨by kernel_rfl, ?_⟩) (by assumption) ?_
  rotate_left
  · (intro w hSw; (try dsimp only at hSw); (try have hTk := Hid.out HTAKE _ hSw); go_simp)
    try (with_reducible rfl)
  rotate_left
  try simp (maxSteps := 4000000) only [Act.put, List.setIfInBounds_toArray, List.set_cons_zero, List.set_cons_succ, List.getElem_toArray, List.getElem_cons_zero, List.getElem_cons_succ]
  refine wpAnyH_take (i := 42) (v := ?_) rfl (by kernel_rfl) (by kernel_rfl) (by kernel_rfl) (fun _ _ _ h => h) (Or.inl ⟨by kernel_rfl, ?_⟩) (by assumption) ?_
  rotate_left
  · (intro w hSw; (try dsimp only at hSw); (try have hTk := Hid.out HTAKE _ hSw); go_simp)
    try (with_reducible rfl)
  rotate_left
  try simp (maxSteps := 4000000) only [Act.put, List.setIfInBounds_toArray, List.set_cons_zero, List.set_cons_succ, List.getElem_toArray, List.getElem_cons_zero, List.getElem_cons_succ]
  refine wpAnyH_take (i := 43) (v := ?_) rfl (by kernel_rfl) (by kernel_rfl) (by kernel_rfl) (fun _ _ _ h => h) (Or.inl ⟨by kernel_rfl, ?_⟩) (by assumption) ?_
  rotate_left
  · (intro w hSw; (try dsimp only at hSw); (try have hTk := Hid.out HTAKE _ hSw); go_simp)
    try (with_reducible rfl)
  rotate_left
  try simp (maxSteps := 4000000) only [Act.put, List.setIfInBounds_toArray, List.set_cons_zero, List.set_cons_succ, List.getElem_toArray, List.getElem_cons_zero, List.getElem_cons_succ]
  refine wpAnyH_take (i := 44) (v := ?_) rfl (by kernel_rfl) (by kernel_rfl) (by kernel_rfl) (fun _ _ _ h => h) (Or.inl ⟨by kernel_rfl, ?_⟩) (by assumption) ?_
  rotate_left
  · (intro w hSw; (try dsimp only at hSw); (try have hTk := Hid.out HTAKE _ hSw); go_simp)
    try (with_reducible rfl)
  rotate_left
  try simp (maxSteps := 4000000) only [Act.put, List.setIfInBounds_toArray, List.set_cons_zero, List.set_cons_succ, List.getElem_toArray, List.getElem_cons_zero, List.getElem_cons_succ]
  refine wpAnyH_take (i := 45) (v := ?_) rfl (by kernel_rfl) (by kernel_rfl) (by kernel_rfl) (fun _ _ _ h => h) (Or.inl ⟨by kernel_rfl, ?_⟩) (by assumption) ?_
  rotate_left
  · (intro w hSw; (try dsimp only at hSw); (try have hTk := Hid.out HTAKE _ hSw); go_simp)
    try (with_reducible rfl)
  rotate_left
  try simp (maxSteps := 4000000) only [Act.put, List.setIfInBounds_toArray, List.set_cons_zero, List.set_cons_succ, List.getElem_toArray, List.getElem_cons_zero, List.getElem_cons_succ]
  refine wpAnyH_take (i := 46) (v := ?_) rfl (by kernel_rfl) (by kernel_rfl) (by kernel_rfl) (fun _ _ _ h => h) (Or.inl ⟨by kernel_rfl, ?_⟩) (by assumption) ?_
  rotate_left
  · (intro w hSw; (try dsimp only at hSw); (try have hTk := Hid.out HTAKE _ hSw); go_simp)
    try (with_reducible rfl)
  rotate_left
  try simp (maxSteps := 4000000) only [Act.put, List.setIfInBounds_toArray, List.set_cons_zero, List.set_cons_succ, List.getElem_toArray, List.getElem_cons_zero, List.getElem_cons_succ]
  refine wpAnyH_take (i := 47) (v := ?_) rfl (by kernel_rfl) (by kernel_rfl) (by kernel_rfl) (fun _ _ _ h => h) (Or.inl ⟨by kernel_rfl, ?_⟩) (by assumption) ?_
  rotate_left
  · (intro w hSw; (try dsimp only at hSw); (try have hTk := Hid.out HTAKE _ hSw); go_simp)
    try (with_reducible rfl)
  rotate_left
  try simp (maxSteps := 4000000) only [Act.put, List.setIfInBounds_toArray, List.set_cons_zero, List.set_cons_succ, List.getElem_toArray, List.getElem_cons_zero, List.getElem_cons_succ]
  refine wpAnyH_take (i := 50) (v := ?_) rfl (by kernel_rfl) (by kernel_rfl) (by kernel_rfl) (fun _ _ _ h => h) (Or.inl ⟨by kernel_rfl, ?_⟩) (by assumption) ?_
  rotate_left
  · (intro w hSw; (try dsimp only at hSw); (try have hTk := Hid.out HTAKE _ hSw); go_simp)
    try (with_reducible rfl)
  rotate_left
  try simp (maxSteps := 4000000) only [Act.put, List.setIfInBounds_toArray, List.set_cons_zero, List.set_cons_succ, List.getElem_toArray, List.getElem_cons_zero, List.getElem_cons_succ]
  refine wpAnyH_take (i := 51) (v := ?_) rfl (by kernel_rfl) (by kernel_rfl) (by kernel_rfl) (fun _ _ _ h => h) (Or.inl ⟨by kernel_rfl, ?_⟩) (by assumption) ?_
  rotate_left
  · (intro w hSw; (try dsimp only at hSw); (try have hTk := Hid.out HTAKE _ hSw); go_simp)
    try (with_reducible rfl)
  rotate_left
  try simp (maxSteps := 4000000) only [Act.put, List.setIfInBounds_toArray, List.set_cons_zero, List.set_cons_succ, List.getElem_toArray, List.getElem_cons_zero, List.getElem_cons_succ]
  refine wpAnyH_ready (rs := [48]) (by kernel_rfl) (by simp) ?_
  refine AllReadyH.cons rfl (fun K2 hK2 => ?_) AllReadyH.nil
  go_simp
  have hR : Calls Try.prog 12 #[.pointer (some ⟨g, 0, none⟩), .int .i64 (a' : Int), .int .i64 20] wg fun e w' => (∃ D, e = .returned (.slice (some ⟨D, 0, none⟩) 20 20) ∧ wg.heap.size ≤ D ∧ PGn D 20 w' (fun j => over (fun _ => 0) a' 20 d (a' + j))) ∧ Below wg.heap.size wg w' := sread_yes W.heap.size g wg _ ((HS2.out.below H9.out).below hHeld.out) a' 20 HN0.out.1 HN0.out.2
  have HR := Lib.hid hR
  clear hR
  with_reducible refine Calls.mono (HR.out) ?_
  rintro e wh ⟨⟨D, rfl, hD, hp⟩, hb⟩
  have hc1 : (convert 26 9 (.slice (some ⟨D, 0, none⟩) 20 20)).run Try.prog wh = .ok (.string (sof d 20)) wh := conv_of wh D 0 20 20 d (fun j hj => by
    rw [Nat.zero_add, hp.2.1 j hj]
    simp only [over]
    rw [if_pos (by omega), Nat.add_sub_cancel_left])
  refine hK2.out _ _ ?_ (fun hHeld2 => ?_)
  · exact Lib.hid (thn hHeld.out hb)
  clear hb hD hp HR
  clear hK2 K2 hHeld
  have hHeld := hHeld2
  clear hHeld2
  try simp (maxSteps := 4000000) only [Act.put, List.setIfInBounds_toArray, List.set_cons_zero, List.set_cons_succ]
  refine wpAnyH_ready (rs := [49]) (by kernel_rfl) (by simp) ?_
  refine AllReadyH.cons rfl (fun K2 hK2 => ?_) AllReadyH.nil
  go_simp
  refine hK2.out _ _ hHeld (fun hHeld2 => ?_)
  clear hK2 K2 hHeld
  have hHeld := hHeld2
  clear hHeld2
  try simp (maxSteps := 4000000) only [Act.put, List.setIfInBounds_toArray, List.set_cons_zero, List.set_cons_succ]
  refine wpAnyH_take (i := 52) (v := ?_) rfl (by kernel_rfl) (by kernel_rfl) (by kernel_rfl) (fun _ _ _ h => h) (Or.inl ⟨by kernel_rfl, ?_⟩) (by assumption) ?_
  rotate_left
  · (intro w hSw; (try dsimp only at hSw); (try have hTk := Hid.out HTAKE _ hSw); go_simp)
    try (with_reducible rfl)
  rotate_left
  try simp (maxSteps := 4000000) only [Act.put, List.setIfInBounds_toArray, List.set_cons_zero, List.set_cons_succ, List.getElem_toArray, List.getElem_cons_zero, List.getElem_cons_succ]
  refine wpAnyH_take (i := 53) (v := ?_) rfl (by kernel_rfl) (by kernel_rfl) (by kernel_rfl) (fun _ _ _ h => h) (Or.inl ⟨by kernel_rfl, ?_⟩) (by assumption) ?_
  rotate_left
  · (intro w hSw; (try dsimp only at hSw); (try have hTk := Hid.out HTAKE _ hSw); go_simp)
    try (with_reducible rfl)
  rotate_left
  try simp (maxSteps := 4000000) only [Act.put, List.setIfInBounds_toArray, List.set_cons_zero, List.set_cons_succ, List.getElem_toArray, List.getElem_cons_zero, List.getElem_cons_succ]
  refine wpAnyH_take (i := 54) (v := ?_) rfl (by kernel_rfl) (by kernel_rfl) (by kernel_rfl) (fun _ _ _ h => h) (Or.inl ⟨by kernel_rfl, ?_⟩) (by assumption) ?_
  rotate_left
  · (intro w hSw; (try dsimp only at hSw); (try have hTk := Hid.out HTAKE _ hSw); go_simp)
    try (with_reducible rfl)
  rotate_left
  try simp (maxSteps := 4000000) only [Act.put, List.setIfInBounds_toArray, List.set_cons_zero, List.set_cons_succ, List.getElem_toArray, List.getElem_cons_zero, List.getElem_cons_succ]
  refine wpAnyH_take (i := 55) (v := ?_) rfl (by kernel_rfl) (by kernel_rfl) (by kernel_rfl) (fun _ _ _ h => h) (Or.inl ⟨by kernel_rfl, ?_⟩) (by assumption) ?_
  rotate_left
  · (intro w hSw; (try dsimp only at hSw); (try have hTk := Hid.out HTAKE _ hSw); go_simp)
    try (with_reducible rfl)
  rotate_left
  try simp (maxSteps := 4000000) only [Act.put, List.setIfInBounds_toArray, List.set_cons_zero, List.set_cons_succ, List.getElem_toArray, List.getElem_cons_zero, List.getElem_cons_succ]
  refine wpAnyH_take (i := 56) (v := ?_) rfl (by kernel_rfl) (by kernel_rfl) (by kernel_rfl) (fun _ _ _ h => h) (Or.inl ⟨by kernel_rfl, ?_⟩) (by assumption) ?_
  rotate_left
  · (intro w hSw; (try dsimp only at hSw); (try have hTk := Hid.out HTAKE _ hSw); go_simp)
    try (with_reducible rfl)
  rotate_left
  try simp (maxSteps := 4000000) only [Act.put, List.setIfInBounds_toArray, List.set_cons_zero, List.set_cons_succ, List.getElem_toArray, List.getElem_cons_zero, List.getElem_cons_succ]
  refine wpAnyH_ready (rs := [57]) (by kernel_rfl) (by simp) ?_
  refine AllReadyH.cons rfl (fun K2 hK2 => ?_) AllReadyH.nil
  go_simp
  have hG0 : ∀ w, Calls Try.prog 14 #[.pointer none, .int .i64 0] w _ := fun w => sget_no none 0 w (.inl rfl)
  with_reducible refine Calls.mono (hG0 _) ?_
  rintro e wi ⟨rfl, hb⟩
  refine hK2.out _ _ ?_ (fun hHeld2 => ?_)
  · exact Lib.hid (thn hHeld.out hb)
  clear hb hG0
  clear hK2 K2 hHeld
  have hHeld := hHeld2
  clear hHeld2
  try simp (maxSteps := 4000000) only [Act.put, List.setIfInBounds_toArray, List.set_cons_zero, List.set_cons_succ]
  refine wpAnyH_take (i := 58) (v := ?_) rfl (by kernel_rfl) (by kernel_rfl) (by kernel_rfl) (fun _ _ _ h => h) (Or.inl ⟨by kernel_rfl, ?_⟩) (by assumption) ?_
  rotate_left
  · (intro w hSw; (try dsimp only at hSw); (try have hTk := Hid.out HTAKE _ hSw); go_simp)
    try (with_reducible rfl)
  rotate_left
  try simp (maxSteps := 4000000) only [Act.put, List.setIfInBounds_toArray, List.set_cons_zero, List.set_cons_succ, List.getElem_toArray, List.getElem_cons_zero, List.getElem_cons_succ]
  refine wpAnyH_take (i := 59) (v := ?_) rfl (by kernel_rfl) (by kernel_rfl) (by kernel_rfl) (fun _ _ _ h => h) (Or.inl ⟨by kernel_rfl, ?_⟩) (by assumption) ?_
  rotate_left
  · (intro w hSw; (try dsimp only at hSw); (try have hTk := Hid.out HTAKE _ hSw); go_simp)
    try (with_reducible rfl)
  rotate_left
  try simp (maxSteps := 4000000) only [Act.put, List.setIfInBounds_toArray, List.set_cons_zero, List.set_cons_succ, List.getElem_toArray, List.getElem_cons_zero, List.getElem_cons_succ]
  refine wpAnyH_take (i := 60) (v := ?_) rfl (by kernel_rfl) (by kernel_rfl) (by kernel_rfl) (fun _ _ _ h => h) (Or.inl ⟨by kernel_rfl, ?_⟩) (by assumption) ?_
  rotate_left
  · (intro w hSw; (try dsimp only at hSw); (try have hTk := Hid.out HTAKE _ hSw); go_simp)
    try (with_reducible rfl)
  rotate_left
  try simp (maxSteps := 4000000) only [Act.put, List.setIfInBounds_toArray, List.set_cons_zero, List.set_cons_succ, List.getElem_toArray, List.getElem_cons_zero, List.getElem_cons_succ]
  refine wpAnyH_take (i := 61) (v := ?_) rfl (by kernel_rfl) (by kernel_rfl) (by kernel_rfl) (fun _ _ _ h => h) (Or.inl ⟨by kernel_rfl, ?_⟩) (by assumption) ?_
  rotate_left
  · (intro w hSw; (try dsimp only at hSw); (try have hTk := Hid.out HTAKE _ hSw); go_simp)
    try (with_reducible rfl)
  rotate_left
  try simp (maxSteps := 4000000) only [Act.put, List.setIfInBounds_toArray, List.set_cons_zero, List.set_cons_succ, List.getElem_toArray, List.getElem_cons_zero, List.getElem_cons_succ]
  refine wpAnyH_ready (rs := [62]) (by kernel_rfl) (by simp) ?_
  refine AllReadyH.cons rfl (fun K2 hK2 => ?_) AllReadyH.nil
  go_simp
  have hP0 : ∀ w, Calls Try.prog 6 #[.pointer none, .int .i64 0, .int .u8 1] w _ := fun w => sput_no none 0 1 w (.inl rfl)
  with_reducible refine Calls.mono (hP0 _) ?_
  rintro e wj ⟨rfl, hb⟩
  refine hK2.out _ _ ?_ (fun hHeld2 => ?_)
  · exact Lib.hid (thn hHeld.out hb)
  clear hb hP0
  clear hK2 K2 hHeld
  have hHeld := hHeld2
  clear hHeld2
  try simp (maxSteps := 4000000) only [Act.put, List.setIfInBounds_toArray, List.set_cons_zero, List.set_cons_succ]
  refine wpAnyH_take (i := 63) (v := ?_) rfl (by kernel_rfl) (by kernel_rfl) (by kernel_rfl) (fun _ _ _ h => h) (Or.inl ⟨by kernel_rfl, ?_⟩) (by assumption) ?_
  rotate_left
  · (intro w hSw; (try dsimp only at hSw); (try have hTk := Hid.out HTAKE _ hSw); go_simp)
    try (with_reducible rfl)
  rotate_left
  try simp (maxSteps := 4000000) only [Act.put, List.setIfInBounds_toArray, List.set_cons_zero, List.set_cons_succ, List.getElem_toArray, List.getElem_cons_zero, List.getElem_cons_succ]
  refine wpAnyH_take (i := 64) (v := ?_) rfl (by kernel_rfl) (by kernel_rfl) (by kernel_rfl) (fun _ _ _ h => h) (Or.inl ⟨by kernel_rfl, ?_⟩) (by assumption) ?_
  rotate_left
  · (intro w hSw; (try dsimp only at hSw); (try have hTk := Hid.out HTAKE _ hSw); go_simp)
    try (with_reducible rfl)
  rotate_left
  try simp (maxSteps := 4000000) only [Act.put, List.setIfInBounds_toArray, List.set_cons_zero, List.set_cons_succ, List.getElem_toArray, List.getElem_cons_zero, List.getElem_cons_succ]
  refine wpAnyH_take (i := 65) (v := ?_) rfl (by kernel_rfl) (by kernel_rfl) (by kernel_rfl) (fun _ _ _ h => h) (Or.inl ⟨by kernel_rfl, ?_⟩) (by assumption) ?_
  rotate_left
  · (intro w hSw; (try dsimp only at hSw); (try have hTk := Hid.out HTAKE _ hSw); go_simp)
    try (with_reducible rfl)
  rotate_left
  try simp (maxSteps := 4000000) only [Act.put, List.setIfInBounds_toArray, List.set_cons_zero, List.set_cons_succ, List.getElem_toArray, List.getElem_cons_zero, List.getElem_cons_succ]
  refine wpAnyH_take (i := 66) (v := ?_) rfl (by kernel_rfl) (by kernel_rfl) (by kernel_rfl) (fun _ _ _ h => h) (Or.inl ⟨by kernel_rfl, ?_⟩) (by assumption) ?_
  rotate_left
  · (intro w hSw; (try dsimp only at hSw); (try have hTk := Hid.out HTAKE _ hSw); go_simp)
    try (with_reducible rfl)
  rotate_left
  try simp (maxSteps := 4000000) only [Act.put, List.setIfInBounds_toArray, List.set_cons_zero, List.set_cons_succ, List.getElem_toArray, List.getElem_cons_zero, List.getElem_cons_succ]
  refine wpAnyH_ready (rs := [67]) (by kernel_rfl) (by simp) ?_
  refine AllReadyH.cons rfl (fun K2 hK2 => ?_) AllReadyH.nil
  go_simp
  with_reducible refine Calls.mono (sread_no none 0 1 _ (.inl rfl)) ?_
  rintro e wk ⟨rfl, hb⟩
  refine hK2.out _ _ ?_ (fun hHeld2 => ?_)
  · exact Lib.hid (thn hHeld.out hb)
  clear hb 
  clear hK2 K2 hHeld
  have hHeld := hHeld2
  clear hHeld2
  try simp (maxSteps := 4000000) only [Act.put, List.setIfInBounds_toArray, List.set_cons_zero, List.set_cons_succ]
  refine wpAnyH_take (i := 68) (v := ?_) rfl (by kernel_rfl) (by kernel_rfl) (by kernel_rfl) (fun _ _ _ h => h) (Or.inl ⟨by kernel_rfl, ?_⟩) (by assumption) ?_
  rotate_left
  · (intro w hSw; (try dsimp only at hSw); (try have hTk := Hid.out HTAKE _ hSw); go_simp)
    try (with_reducible rfl)
  rotate_left
  try simp (maxSteps := 4000000) only [Act.put, List.setIfInBounds_toArray, List.set_cons_zero, List.set_cons_succ, List.getElem_toArray, List.getElem_cons_zero, List.getElem_cons_succ]
  refine wpAnyH_take (i := 69) (v := ?_) rfl (by kernel_rfl) (by kernel_rfl) (by kernel_rfl) (fun _ _ _ h => h) (Or.inl ⟨by kernel_rfl, ?_⟩) (by assumption) ?_
  rotate_left
  · (intro w hSw; (try dsimp only at hSw); (try have hTk := Hid.out HTAKE _ hSw); go_simp)
    try (with_reducible rfl)
  rotate_left
  try simp (maxSteps := 4000000) only [Act.put, List.setIfInBounds_toArray, List.set_cons_zero, List.set_cons_succ, List.getElem_toArray, List.getElem_cons_zero, List.getElem_cons_succ]
  refine wpAnyH_take (i := 70) (v := ?_) rfl (by kernel_rfl) (by kernel_rfl) (by kernel_rfl) (fun _ _ _ h => h) (Or.inl ⟨by kernel_rfl, ?_⟩) (by assumption) ?_
  rotate_left
  · (intro w hSw; (try dsimp only at hSw); (try have hTk := Hid.out HTAKE _ hSw); go_simp)
    try (with_reducible rfl)
  rotate_left
  try simp (maxSteps := 4000000) only [Act.put, List.setIfInBounds_toArray, List.set_cons_zero, List.set_cons_succ, List.getElem_toArray, List.getElem_cons_zero, List.getElem_cons_succ]
  refine wpAnyH_take (i := 71) (v := ?_) rfl (by kernel_rfl) (by kernel_rfl) (by kernel_rfl) (fun _ _ _ h => h) (Or.inl ⟨by kernel_rfl, ?_⟩) (by assumption) ?_
  rotate_left
  · (intro w hSw; (try dsimp only at hSw); (try have hTk := Hid.out HTAKE _ hSw); go_simp)
    try (with_reducible rfl)
  rotate_left
  try simp (maxSteps := 4000000) only [Act.put, List.setIfInBounds_toArray, List.set_cons_zero, List.set_cons_succ, List.getElem_toArray, List.getElem_cons_zero, List.getElem_cons_succ]
  refine wpAnyH_take (i := 72) (v := ?_) rfl (by kernel_rfl) (by kernel_rfl) (by kernel_rfl) (fun _ _ _ h => h) (Or.inl ⟨by kernel_rfl, ?_⟩) (by assumption) ?_
  rotate_left
  · (intro w hSw; (try dsimp only at hSw); (try have hTk := Hid.out HTAKE _ hSw); go_simp)
    try (with_reducible rfl)
  rotate_left
  try simp (maxSteps := 4000000) only [Act.put, List.setIfInBounds_toArray, List.set_cons_zero, List.set_cons_succ, List.getElem_toArray, List.getElem_cons_zero, List.getElem_cons_succ]
  refine wpAnyH_ready (rs := [73]) (by kernel_rfl) (by simp) ?_
  refine AllReadyH.cons rfl (fun K2 hK2 => ?_) AllReadyH.nil
  go_simp
  with_reducible refine Calls.mono (sword_no none 0 _ (.inl rfl)) ?_
  rintro e wl ⟨rfl, hb⟩
  refine hK2.out _ _ ?_ (fun hHeld2 => ?_)
  · exact Lib.hid (thn hHeld.out hb)
  clear hb 
  clear hK2 K2 hHeld
  have hHeld := hHeld2
  clear hHeld2
  try simp (maxSteps := 4000000) only [Act.put, List.setIfInBounds_toArray, List.set_cons_zero, List.set_cons_succ]
  refine wpAnyH_take (i := 74) (v := ?_) rfl (by kernel_rfl) (by kernel_rfl) (by kernel_rfl) (fun _ _ _ h => h) (Or.inl ⟨by kernel_rfl, ?_⟩) (by assumption) ?_
  rotate_left
  · (intro w hSw; (try dsimp only at hSw); (try have hTk := Hid.out HTAKE _ hSw); go_simp)
    try (with_reducible rfl)
  rotate_left
  try simp (maxSteps := 4000000) only [Act.put, List.setIfInBounds_toArray, List.set_cons_zero, List.set_cons_succ, List.getElem_toArray, List.getElem_cons_zero, List.getElem_cons_succ]
  refine wpAnyH_take (i := 75) (v := ?_) rfl (by kernel_rfl) (by kernel_rfl) (by kernel_rfl) (fun _ _ _ h => h) (Or.inl ⟨by kernel_rfl, ?_⟩) (by assumption) ?_
  rotate_left
  · (intro w hSw; (try dsimp only at hSw); (try have hTk := Hid.out HTAKE _ hSw); go_simp)
    try (with_reducible rfl)
  rotate_left
  try simp (maxSteps := 4000000) only [Act.put, List.setIfInBounds_toArray, List.set_cons_zero, List.set_cons_succ, List.getElem_toArray, List.getElem_cons_zero, List.getElem_cons_succ]
  refine wpAnyH_take (i := 76) (v := ?_) rfl (by kernel_rfl) (by kernel_rfl) (by kernel_rfl) (fun _ _ _ h => h) (Or.inl ⟨by kernel_rfl, ?_⟩) (by assumption) ?_
  rotate_left
  · (intro w hSw; (try dsimp only at hSw); (try have hTk := Hid.out HTAKE _ hSw); go_simp)
    try (with_reducible rfl)
  rotate_left
  try simp (maxSteps := 4000000) only [Act.put, List.setIfInBounds_toArray, List.set_cons_zero, List.set_cons_succ, List.getElem_toArray, List.getElem_cons_zero, List.getElem_cons_succ]
  refine wpAnyH_done (by kernel_rfl) ?_ _
  go_wp2
  try go_ret
  exact ⟨by first | rfl | simp, thn H2.out (thn H9.out hHeld.out)⟩
end Go.Proofs.Ytodekehpaoahnaa
