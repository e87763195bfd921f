/- MsD. -/
import Derived.Test.YtnfcpohbdkionaaGreatDoorZ44
import Derived.Test.YtnfcpohbdkionaaGreatDoorZ39
import Derived.Deep.RegionHeld3
namespace Go.Proofs.YtnfcpohbdkionaaGreatDoor
set_option maxRecDepth 100000
open Go.RowKit Go.ChangeMaps Go.MapKept
set_option linter.unusedVariables false
set_option linter.unusedSimpArgs false
theorem KM.drewN {b : Nat} {W : World} {l : List (Nat × Nat × Nat)} (h : KM b W l) (q : Nat) : KM b (W.drewN q) l := h.keep rfl
theorem KM.drew {b : Nat} {W : World} {l : List (Nat × Nat × Nat)} (h : KM b W l) : KM b W.drew l := h.keep rfl
/-- Where the loop over what is kept stands. -/
def NextR (kp : Nat → Bool) (r : Int) : Prop := r = -1 ∨ ∃ y : Nat, r = y ∧ y < 16384 ∧ kp y = true
theorem NextF.r {kp : Nat → Bool} {F : Nat} {r : Int} (h : NextF kp F r) : NextR kp r := by
  rcases h with ⟨h, -⟩ | ⟨y, h1, -, h2, h3, -⟩
  · exact .inl h
  · exact .inr ⟨y, h1, h2, h3⟩
set_option maxHeartbeats 3200000 in
theorem mkeepalike (B1 B2 : Nat) (cl1 cl2 : Nat → Nat) (M1 M2 : Nat) (σ1 σ2 : MS) (W : World) (h1 : MEM B1 cl1 M1 W σ1) (h2 : MEM B2 cl2 M2 W σ2) (hk : σ2.kp = σ1.kp) (hv : ∀ x, σ1.kp x = true → ∀ i, i < 16 → σ2.kv x i = σ1.kv x i) :
    Calls Tryz.prog 29 #[.pointer (some ⟨M1, 1, none⟩), .pointer (some ⟨M2, 1, none⟩)] W fun e w' => e = .returned (.bool true) ∧ ∃ q, w' = W.drewN q := by
  have H1 := Lib.hid h1
  have H2 := Lib.hid h2
  have HK := Lib.hid hk
  have HV := Lib.hid hv
  clear h1 h2 hk hv
  obtain ⟨P1, sg1, t1, S1, kb1, ⟨-, -, -, k1, k1b⟩, -⟩ := H1.out.ex
  obtain ⟨P2, sg2, t2, S2, kb2, ⟨-, -, -, k2, k2b⟩, -⟩ := H2.out.ex
  have HC : Hid (W.cell? ⟨M1, 3, none⟩ = some (.pointer (some ⟨S1, 0, none⟩)) ∧ W.cell? ⟨M2, 3, none⟩ = some (.pointer (some ⟨S2, 0, none⟩)) ∧ W.cell? ⟨M1, 4, none⟩ = some (.map (some kb1)) ∧ W.cell? ⟨M2, 4, none⟩ = some (.map (some kb2))) := Lib.hid ⟨k1, k2, k1b, k2b⟩
  have HS : Hid (∀ q, SlC cl1 S1 (W.drewN q) σ1.kp ∧ SlC cl2 S2 (W.drewN q) σ1.kp) := Lib.hid (fun q => by
    obtain ⟨P, sg, t, S, kb, ⟨-, -, -, a1, -⟩, -, -, -, hs, -⟩ := (H1.out.drewN q).ex
    obtain ⟨P', sg', t', S', kb', ⟨-, -, -, a2, -⟩, -, -, -, hs', -⟩ := (H2.out.drewN q).ex
    obtain rfl : S = S1 := by
      have := (show W.cell? ⟨M1, 3, none⟩ = _ from a1).symm.trans HC.out.1
      simpa using this
    obtain rfl : S' = S2 := by
      have := (show W.cell? ⟨M2, 3, none⟩ = _ from a2).symm.trans HC.out.2.1
      simpa using this
    rw [HK.out] at hs'
    exact ⟨hs, hs'⟩)
  have HKM : Hid (∀ x, σ1.kp x = true → ∃ (l1 l2 : List (Nat × Nat × Nat)) (d1 c1 d2 c2 : Nat), KM kb1 W l1 ∧ KM kb2 W l2 ∧ (x, d1, c1) ∈ l1 ∧ (x, d2, c2) ∈ l2 ∧ PGn d1 16 W (σ1.kv x) ∧ PGn d2 16 W (σ1.kv x)) := Lib.hid (fun x hx => by
    obtain ⟨P, sg, t, S, kb, ⟨-, -, -, -, a1⟩, -, -, -, -, ⟨l1, q1, -, -, q2, q3⟩⟩ := H1.out.ex
    obtain ⟨P', sg', t', S', kb', ⟨-, -, -, -, a2⟩, -, -, -, -, ⟨l2, p1, -, -, p2, p3⟩⟩ := H2.out.ex
    obtain rfl : kb = kb1 := by
      have := a1.symm.trans HC.out.2.2.1
      simpa using this
    obtain rfl : kb' = kb2 := by
      have := a2.symm.trans HC.out.2.2.2
      simpa using this
    obtain ⟨⟨x1, d1, c1⟩, e1, rfl⟩ := (q3 x).1 hx
    obtain ⟨⟨x2, d2, c2⟩, e2, hx2⟩ := (p3 x1).1 (by rw [HK.out]; exact hx)
    obtain rfl : x2 = x1 := hx2
    obtain ⟨-, -, -, g1⟩ := q2 _ e1
    obtain ⟨-, -, -, g2⟩ := p2 _ e2
    exact ⟨l1, l2, d1, c1, d2, c2, q1, p1, e1, e2, g1, ⟨g2.1, fun j hj => (g2.2.1 j hj).trans (by rw [HV.out _ hx j hj]), g2.2.2⟩⟩)
  have HF : Hid (∀ w' : World, (∃ q, w' = W.drewN q) → SlC cl1 S1 w' σ1.kp ∧ SlC cl2 S2 w' σ1.kp ∧ TzTab w' ∧ w'.cell? ⟨M1, 3, none⟩ = some (.pointer (some ⟨S1, 0, none⟩)) ∧ w'.cell? ⟨M2, 3, none⟩ = some (.pointer (some ⟨S2, 0, none⟩)) ∧ w'.cell? ⟨M1, 4, none⟩ = some (.map (some kb1)) ∧ w'.cell? ⟨M2, 4, none⟩ = some (.map (some kb2))) := Lib.hid (fun w' ⟨q, e⟩ => by
    subst e
    exact ⟨(HS.out q).1, (HS.out q).2, (H1.out.drewN q).tz, HC.out⟩)
  have HG : Hid (∀ w' : World, (∃ q, w' = W.drewN q) → ∀ x, σ1.kp x = true → ∃ (l1 l2 : List (Nat × Nat × Nat)) (d1 c1 d2 c2 : Nat), KM kb1 w' l1 ∧ KM kb2 w' l2 ∧ (x, d1, c1) ∈ l1 ∧ (x, d2, c2) ∈ l2 ∧ PGn d1 16 w' (σ1.kv x) ∧ PGn d2 16 w' (σ1.kv x)) := Lib.hid (fun w' ⟨q, e⟩ x hx => by
    subst e
    obtain ⟨l1, l2, d1, c1, d2, c2, q1, q2, q3, q4, q5, q6⟩ := HKM.out x hx
    exact ⟨l1, l2, d1, c1, d2, c2, q1.drewN q, q2.drewN q, q3, q4, q5.keep (Nat.le_refl _) rfl, q6.keep (Nat.le_refl _) rfl⟩)
  clear k1 k2 k1b k2b HC HS HKM HV HK H1 H2
  generalize σ1.kp = kp at *
  generalize σ1.kv = kv at *
  go_enter Tryz.func29, Tryz.ntmps29
  go_upto_region 1 with (fail)
  obtain ⟨⟨lo1, hi1, g1, ws1, s1, -⟩, ⟨lo2, hi2, g2, ws2, s2, -⟩, -, k1, k2, -⟩ := HF.out W.drew ⟨1, rfl⟩
  have HS1 := Lib.hid s1
  have HS2 := Lib.hid s2
  clear s1 s2
  have HTAKE := Lib.hid (fun (w' : World) (h : w'.cell? ⟨M1, 3, none⟩ = some (.pointer (some ⟨S1, 0, none⟩)) ∧ w'.cell? ⟨M2, 3, none⟩ = some (.pointer (some ⟨S2, 0, none⟩))) => h)
  refine wp_region_held_drew (S := fun w' => w'.cell? ⟨M1, 3, none⟩ = some (.pointer (some ⟨S1, 0, none⟩)) ∧ w'.cell? ⟨M2, 3, none⟩ = some (.pointer (some ⟨S2, 0, none⟩))) (by kernel_rfl) ?_ (fun hHeld => ?_)
  · exact ⟨k1, k2⟩
  clear k1 k2
  refine wpAnyH_take (i := 0) (v := ?_) rfl (by kernel_rfl) (by kernel_rfl) (by kernel_rfl) (fun _ _ _ h => h) (Or.inl ⟨by kernel_rfl, ?_⟩) (by assumption) ?_
  rotate_left
  · (intro w hSw; (try dsimp only at hSw); (try have hTk := Hid.out HTAKE _ hSw); go_simp)
    try (with_reducible rfl)
  rotate_left
  try simp (maxSteps := 4000000) only [Act.put, List.setIfInBounds_toArray, List.set_cons_zero, List.set_cons_succ, List.getElem_toArray, List.getElem_cons_zero, List.getElem_cons_succ]
  refine wpAnyH_take (i := 1) (v := ?_) rfl (by kernel_rfl) (by kernel_rfl) (by kernel_rfl) (fun _ _ _ h => h) (Or.inl ⟨by kernel_rfl, ?_⟩) (by assumption) ?_
  rotate_left
  · (intro w hSw; (try dsimp only at hSw); (try have hTk := Hid.out HTAKE _ hSw); go_simp)
    try (with_reducible rfl)
  rotate_left
  try simp (maxSteps := 4000000) only [Act.put, List.setIfInBounds_toArray, List.set_cons_zero, List.set_cons_succ, List.getElem_toArray, List.getElem_cons_zero, List.getElem_cons_succ]
  refine wpAnyH_take (i := 2) (v := ?_) rfl (by kernel_rfl) (by kernel_rfl) (by kernel_rfl) (fun _ _ _ h => h) (Or.inl ⟨by kernel_rfl, ?_⟩) (by assumption) ?_
  rotate_left
  · (intro w hSw; (try dsimp only at hSw); (try have hTk := Hid.out HTAKE _ hSw); go_simp)
    try (with_reducible rfl)
  rotate_left
  try simp (maxSteps := 4000000) only [Act.put, List.setIfInBounds_toArray, List.set_cons_zero, List.set_cons_succ, List.getElem_toArray, List.getElem_cons_zero, List.getElem_cons_succ]
  refine wpAnyH_take (i := 3) (v := ?_) rfl (by kernel_rfl) (by kernel_rfl) (by kernel_rfl) (fun _ _ _ h => h) (Or.inl ⟨by kernel_rfl, ?_⟩) (by assumption) ?_
  rotate_left
  · (intro w hSw; (try dsimp only at hSw); (try have hTk := Hid.out HTAKE _ hSw); go_simp)
    try (with_reducible rfl)
  rotate_left
  try simp (maxSteps := 4000000) only [Act.put, List.setIfInBounds_toArray, List.set_cons_zero, List.set_cons_succ, List.getElem_toArray, List.getElem_cons_zero, List.getElem_cons_succ]
  refine wpAnyH_take (i := 5) (v := ?_) rfl (by kernel_rfl) (by kernel_rfl) (by kernel_rfl) (fun _ _ _ h => h) (Or.inl ⟨by kernel_rfl, ?_⟩) (by assumption) ?_
  rotate_left
  · (intro w hSw; (try dsimp only at hSw); (try have hTk := Hid.out HTAKE _ hSw); go_simp)
    try (with_reducible rfl)
  rotate_left
  try simp (maxSteps := 4000000) only [Act.put, List.setIfInBounds_toArray, List.set_cons_zero, List.set_cons_succ, List.getElem_toArray, List.getElem_cons_zero, List.getElem_cons_succ]
  refine wpAnyH_take (i := 6) (v := ?_) rfl (by kernel_rfl) (by kernel_rfl) (by kernel_rfl) (fun _ _ _ h => h) (Or.inl ⟨by kernel_rfl, ?_⟩) (by assumption) ?_
  rotate_left
  · (intro w hSw; (try dsimp only at hSw); (try have hTk := Hid.out HTAKE _ hSw); go_simp)
    try (with_reducible rfl)
  rotate_left
  try simp (maxSteps := 4000000) only [Act.put, List.setIfInBounds_toArray, List.set_cons_zero, List.set_cons_succ, List.getElem_toArray, List.getElem_cons_zero, List.getElem_cons_succ]
  refine wpAnyH_take (i := 7) (v := ?_) rfl (by kernel_rfl) (by kernel_rfl) (by kernel_rfl) (fun _ _ _ h => h) (Or.inl ⟨by kernel_rfl, ?_⟩) (by assumption) ?_
  rotate_left
  · (intro w hSw; (try dsimp only at hSw); (try have hTk := Hid.out HTAKE _ hSw); go_simp)
    try (with_reducible rfl)
  rotate_left
  try simp (maxSteps := 4000000) only [Act.put, List.setIfInBounds_toArray, List.set_cons_zero, List.set_cons_succ, List.getElem_toArray, List.getElem_cons_zero, List.getElem_cons_succ]
  refine wpAnyH_take (i := 8) (v := ?_) rfl (by kernel_rfl) (by kernel_rfl) (by kernel_rfl) (fun _ _ _ h => h) (Or.inl ⟨by kernel_rfl, ?_⟩) (by assumption) ?_
  rotate_left
  · (intro w hSw; (try dsimp only at hSw); (try have hTk := Hid.out HTAKE _ hSw); go_simp)
    try (with_reducible rfl)
  rotate_left
  try simp (maxSteps := 4000000) only [Act.put, List.setIfInBounds_toArray, List.set_cons_zero, List.set_cons_succ, List.getElem_toArray, List.getElem_cons_zero, List.getElem_cons_succ]
  refine wpAnyH_ready (rs := [4]) (by kernel_rfl) (by simp) ?_
  refine AllReadyH.cons rfl (fun K2 hK2 => ?_) AllReadyH.nil
  go_simp
  with_reducible refine Calls.mono (slcount HS1.out) ?_
  rintro e w' ⟨rfl, rfl⟩
  refine hK2.out _ _ (hHeld) (fun hHeld2 => ?_)
  clear hK2 K2 hHeld
  have hHeld := hHeld2
  clear hHeld2
  try simp (maxSteps := 4000000) only [Act.put, List.setIfInBounds_toArray, List.set_cons_zero, List.set_cons_succ]
  refine wpAnyH_ready (rs := [9]) (by kernel_rfl) (by simp) ?_
  refine AllReadyH.cons rfl (fun K2 hK2 => ?_) AllReadyH.nil
  go_simp
  with_reducible refine Calls.mono (slcount HS2.out) ?_
  rintro e w' ⟨rfl, rfl⟩
  refine hK2.out _ _ (hHeld) (fun hHeld2 => ?_)
  clear hK2 K2 hHeld
  have hHeld := hHeld2
  clear hHeld2
  try simp (maxSteps := 4000000) only [Act.put, List.setIfInBounds_toArray, List.set_cons_zero, List.set_cons_succ]
  refine wpAnyH_take (i := 10) (v := ?_) rfl (by kernel_rfl) (by kernel_rfl) (by kernel_rfl) (fun _ _ _ h => h) (Or.inl ⟨by kernel_rfl, ?_⟩) (by assumption) ?_
  rotate_left
  · (intro w hSw; (try dsimp only at hSw); (try have hTk := Hid.out HTAKE _ hSw); go_simp)
    try (with_reducible rfl)
  rotate_left
  try simp (maxSteps := 4000000) only [Act.put, List.setIfInBounds_toArray, List.set_cons_zero, List.set_cons_succ, List.getElem_toArray, List.getElem_cons_zero, List.getElem_cons_succ]
  refine wpAnyH_done (by kernel_rfl) ?_ _
  clear HTAKE HS1 HS2
  have HW1 : Hid (∃ q, W.drew = W.drewN q) := Lib.hid ⟨1, rfl⟩
  generalize W.drew = w1 at *
  obtain ⟨k1, -⟩ := hHeld
  go_wp2_with fail
  refine (slnextF 0 (HF.out w1 HW1.out).1 (HF.out w1 HW1.out).2.2.1).mono ?_
  rintro e w' ⟨⟨r, rfl, hr⟩, rfl⟩
  have HR := Lib.hid hr.r
  clear hr k1
  go_wp2_with fail
  go_loopw [5] (fun v5 wr => ∃ r : Int, v5 = .int .i64 r ∧ Hid (NextR kp r) ∧ Hid (∃ q, wr = W.drewN q)) (fun v5 _ => if intOf v5 < 0 then 0 else 16385 - (intOf v5).toNat)
  case atStart => exact ⟨r, rfl, HR, HW1⟩
  case round =>
    clear HR HW1
    obtain ⟨r, rfl, HR, HW⟩ := hrel
    rcases HR.out with rfl | ⟨y, rfl, hy, hky⟩
    · go_wp2_with fail
      go_ret
      exact ⟨rfl, HW.out⟩
    · have l1 : 0 ≤ (y : Int) := by omega
      have l2 : (y : Int) ≤ 16384 := by omega
      have HW2 : Hid (∃ q, wr.drew = W.drewN q) := Lib.hid (by obtain ⟨q, e⟩ := HW.out; exact ⟨q + 1, by rw [e]; rfl⟩)
      have HY := Lib.hid (And.intro hy hky)
      clear hy hky HR
      go_upto_region 6 with (fail)
      obtain ⟨e1, e2, -, k1, k2, k3, k4⟩ := HF.out _ HW2.out
      have HS1 := Lib.hid e1
      have HS2 := Lib.hid e2
      clear e1 e2
      obtain ⟨l1, l2, d1, c1, d2, c2, q1, q2, q3, q4, q5, q6⟩ := HG.out _ HW2.out y HY.out.2
      have HP1 := Lib.hid q5
      have HP2 := Lib.hid q6
      have HTAKE := Lib.hid (fun (w' : World) (h : w'.cell? ⟨M2, 3, none⟩ = some (.pointer (some ⟨S2, 0, none⟩)) ∧ w'.cell? ⟨M1, 4, none⟩ = some (.map (some kb1)) ∧ w'.cell? ⟨M2, 4, none⟩ = some (.map (some kb2)) ∧ KM kb1 w' l1 ∧ KM kb2 w' l2) => And.intro h.1 (And.intro h.2.1 (And.intro h.2.2.1 (And.intro (show (Instr.lookup 67 (.map (some kb1)) (.int .i64 (y : Int)) false).run Tryz.prog w' = .ok (.slice (some ⟨d1, 0, none⟩) 16 c1) w' from lookK w' kb1 l1 h.2.2.2.1 (y, d1, c1) q3) (show (Instr.lookup 67 (.map (some kb2)) (.int .i64 (y : Int)) false).run Tryz.prog w' = .ok (.slice (some ⟨d2, 0, none⟩) 16 c2) w' from lookK w' kb2 l2 h.2.2.2.2 (y, d2, c2) q4)))))
      refine wp_region_held_drew (S := fun w' => w'.cell? ⟨M2, 3, none⟩ = some (.pointer (some ⟨S2, 0, none⟩)) ∧ w'.cell? ⟨M1, 4, none⟩ = some (.map (some kb1)) ∧ w'.cell? ⟨M2, 4, none⟩ = some (.map (some kb2)) ∧ KM kb1 w' l1 ∧ KM kb2 w' l2) (by kernel_rfl) ?_ (fun hHeld => ?_)
      · exact ⟨k2, k3, k4, q1, q2⟩
      clear k2 k3 k4 q1 q2 q5 q6
      refine wpAnyH_take (i := 0) (v := ?_) rfl (by kernel_rfl) (by kernel_rfl) (by kernel_rfl) (fun _ _ _ h => h) (Or.inl ⟨by kernel_rfl, ?_⟩) (by assumption) ?_
      rotate_left
      · (intro w hSw; (try dsimp only at hSw); (try have hTk := Hid.out HTAKE _ hSw); go_simp)
        try (with_reducible rfl)
      rotate_left
      try simp (maxSteps := 4000000) only [Act.put, List.setIfInBounds_toArray, List.set_cons_zero, List.set_cons_succ, List.getElem_toArray, List.getElem_cons_zero, List.getElem_cons_succ]
      refine wpAnyH_take (i := 1) (v := ?_) rfl (by kernel_rfl) (by kernel_rfl) (by kernel_rfl) (fun _ _ _ h => h) (Or.inl ⟨by kernel_rfl, ?_⟩) (by assumption) ?_
      rotate_left
      · (intro w hSw; (try dsimp only at hSw); (try have hTk := Hid.out HTAKE _ hSw); go_simp)
        try (with_reducible rfl)
      rotate_left
      try simp (maxSteps := 4000000) only [Act.put, List.setIfInBounds_toArray, List.set_cons_zero, List.set_cons_succ, List.getElem_toArray, List.getElem_cons_zero, List.getElem_cons_succ]
      refine wpAnyH_take (i := 2) (v := ?_) rfl (by kernel_rfl) (by kernel_rfl) (by kernel_rfl) (fun _ _ _ h => h) (Or.inl ⟨by kernel_rfl, ?_⟩) (by assumption) ?_
      rotate_left
      · (intro w hSw; (try dsimp only at hSw); (try have hTk := Hid.out HTAKE _ hSw); go_simp)
        try (with_reducible rfl)
      rotate_left
      try simp (maxSteps := 4000000) only [Act.put, List.setIfInBounds_toArray, List.set_cons_zero, List.set_cons_succ, List.getElem_toArray, List.getElem_cons_zero, List.getElem_cons_succ]
      refine wpAnyH_take (i := 3) (v := ?_) rfl (by kernel_rfl) (by kernel_rfl) (by kernel_rfl) (fun _ _ _ h => h) (Or.inl ⟨by kernel_rfl, ?_⟩) (by assumption) ?_
      rotate_left
      · (intro w hSw; (try dsimp only at hSw); (try have hTk := Hid.out HTAKE _ hSw); go_simp)
        try (with_reducible rfl)
      rotate_left
      try simp (maxSteps := 4000000) only [Act.put, List.setIfInBounds_toArray, List.set_cons_zero, List.set_cons_succ, List.getElem_toArray, List.getElem_cons_zero, List.getElem_cons_succ]
      refine wpAnyH_take (i := 4) (v := ?_) rfl (by kernel_rfl) (by kernel_rfl) (by kernel_rfl) (fun _ _ _ h => h) (Or.inl ⟨by kernel_rfl, ?_⟩) (by assumption) ?_
      rotate_left
      · (intro w hSw; (try dsimp only at hSw); (try have hTk := Hid.out HTAKE _ hSw); go_simp)
        try (with_reducible rfl)
      rotate_left
      try simp (maxSteps := 4000000) only [Act.put, List.setIfInBounds_toArray, List.set_cons_zero, List.set_cons_succ, List.getElem_toArray, List.getElem_cons_zero, List.getElem_cons_succ]
      refine wpAnyH_ready (rs := [5]) (by kernel_rfl) (by simp) ?_
      refine AllReadyH.cons rfl (fun K2 hK2 => ?_) AllReadyH.nil
      go_simp
      with_reducible refine Calls.mono (slhasF true (y : Int) HS2.out (by have := HY.out.1; rw [Int.toNat_natCast, decide_eq_true (by omega), Bool.true_and]; exact HY.out.2)) ?_
      rintro e w' ⟨rfl, rfl⟩
      refine hK2.out _ _ (hHeld) (fun hHeld2 => ?_)
      clear hK2 K2 hHeld
      have hHeld := hHeld2
      clear hHeld2
      try simp (maxSteps := 4000000) only [Act.put, List.setIfInBounds_toArray, List.set_cons_zero, List.set_cons_succ]
      refine wpAnyH_take (i := 6) (v := ?_) rfl (by kernel_rfl) (by kernel_rfl) (by kernel_rfl) (fun _ _ _ h => h) (Or.inl ⟨by kernel_rfl, ?_⟩) (by assumption) ?_
      rotate_left
      · (intro w hSw; (try dsimp only at hSw); (try have hTk := Hid.out HTAKE _ hSw); go_simp)
        try (with_reducible rfl)
      rotate_left
      try simp (maxSteps := 4000000) only [Act.put, List.setIfInBounds_toArray, List.set_cons_zero, List.set_cons_succ, List.getElem_toArray, List.getElem_cons_zero, List.getElem_cons_succ]
      refine wpAnyH_take (i := 7) (v := ?_) rfl (by kernel_rfl) (by kernel_rfl) (by kernel_rfl) (fun _ _ _ h => h) (Or.inl ⟨by kernel_rfl, ?_⟩) (by assumption) ?_
      rotate_left
      · (intro w hSw; (try dsimp only at hSw); (try have hTk := Hid.out HTAKE _ hSw); go_simp)
        try (with_reducible rfl)
      rotate_left
      try simp (maxSteps := 4000000) only [Act.put, List.setIfInBounds_toArray, List.set_cons_zero, List.set_cons_succ, List.getElem_toArray, List.getElem_cons_zero, List.getElem_cons_succ]
      refine wpAnyH_take (i := 8) (v := ?_) rfl (by kernel_rfl) (by kernel_rfl) (by kernel_rfl) (fun _ _ _ h => h) (Or.inl ⟨by kernel_rfl, ?_⟩) (by assumption) ?_
      rotate_left
      · (intro w hSw; (try dsimp only at hSw); (try have hTk := Hid.out HTAKE _ hSw); go_simp)
        try (with_reducible rfl)
      rotate_left
      try simp (maxSteps := 4000000) only [Act.put, List.setIfInBounds_toArray, List.set_cons_zero, List.set_cons_succ, List.getElem_toArray, List.getElem_cons_zero, List.getElem_cons_succ]
      refine wpAnyH_take (i := 9) (v := ?_) rfl (by kernel_rfl) (by kernel_rfl) (by kernel_rfl) (fun _ _ _ h => h) (Or.inl ⟨by kernel_rfl, ?_⟩) (by assumption) ?_
      rotate_left
      · (intro w hSw; (try dsimp only at hSw); (try have hTk := Hid.out HTAKE _ hSw); go_simp)
        try (with_reducible rfl)
      rotate_left
      try simp (maxSteps := 4000000) only [Act.put, List.setIfInBounds_toArray, List.set_cons_zero, List.set_cons_succ, List.getElem_toArray, List.getElem_cons_zero, List.getElem_cons_succ]
      refine wpAnyH_take (i := 10) (v := ?_) rfl (by kernel_rfl) (by kernel_rfl) (by kernel_rfl) (fun _ _ _ h => h) (Or.inl ⟨by kernel_rfl, ?_⟩) (by assumption) ?_
      rotate_left
      · (intro w hSw; (try dsimp only at hSw); (try have hTk := Hid.out HTAKE _ hSw); go_simp)
        try (with_reducible rfl)
      rotate_left
      try simp (maxSteps := 4000000) only [Act.put, List.setIfInBounds_toArray, List.set_cons_zero, List.set_cons_succ, List.getElem_toArray, List.getElem_cons_zero, List.getElem_cons_succ]
      refine wpAnyH_take (i := 11) (v := ?_) rfl (by kernel_rfl) (by kernel_rfl) (by kernel_rfl) (fun _ _ _ h => h) (Or.inl ⟨by kernel_rfl, ?_⟩) (by assumption) ?_
      rotate_left
      · (intro w hSw; (try dsimp only at hSw); (try have hTk := Hid.out HTAKE _ hSw); go_simp)
        try (with_reducible rfl)
      rotate_left
      try simp (maxSteps := 4000000) only [Act.put, List.setIfInBounds_toArray, List.set_cons_zero, List.set_cons_succ, List.getElem_toArray, List.getElem_cons_zero, List.getElem_cons_succ]
      refine wpAnyH_take (i := 12) (v := ?_) rfl (by kernel_rfl) (by kernel_rfl) (by kernel_rfl) (fun _ _ _ h => h) (Or.inl ⟨by kernel_rfl, ?_⟩) (by assumption) ?_
      rotate_left
      · (intro w hSw; (try dsimp only at hSw); (try have hTk := Hid.out HTAKE _ hSw); go_simp)
        try (with_reducible rfl)
      rotate_left
      try simp (maxSteps := 4000000) only [Act.put, List.setIfInBounds_toArray, List.set_cons_zero, List.set_cons_succ, List.getElem_toArray, List.getElem_cons_zero, List.getElem_cons_succ]
      refine wpAnyH_take (i := 13) (v := ?_) rfl (by kernel_rfl) (by kernel_rfl) (by kernel_rfl) (fun _ _ _ h => h) (Or.inl ⟨by kernel_rfl, ?_⟩) (by assumption) ?_
      rotate_left
      · (intro w hSw; (try dsimp only at hSw); (try have hTk := Hid.out HTAKE _ hSw); go_simp)
        try (with_reducible rfl)
      rotate_left
      try simp (maxSteps := 4000000) only [Act.put, List.setIfInBounds_toArray, List.set_cons_zero, List.set_cons_succ, List.getElem_toArray, List.getElem_cons_zero, List.getElem_cons_succ]
      refine wpAnyH_take (i := 14) (v := ?_) rfl (by kernel_rfl) (by kernel_rfl) (by kernel_rfl) (fun _ _ _ h => h) (Or.inl ⟨by kernel_rfl, ?_⟩) (by assumption) ?_
      rotate_left
      · (intro w hSw; (try dsimp only at hSw); (try have hTk := Hid.out HTAKE _ hSw); go_simp)
        try (with_reducible rfl)
      rotate_left
      try simp (maxSteps := 4000000) only [Act.put, List.setIfInBounds_toArray, List.set_cons_zero, List.set_cons_succ, List.getElem_toArray, List.getElem_cons_zero, List.getElem_cons_succ]
      refine wpAnyH_take (i := 15) (v := ?_) rfl (by kernel_rfl) (by kernel_rfl) (by kernel_rfl) (fun _ _ _ h => h) (Or.inl ⟨by kernel_rfl, ?_⟩) (by assumption) ?_
      rotate_left
      · (intro w hSw; (try dsimp only at hSw); (try have hTk := Hid.out HTAKE _ hSw); go_simp)
        try (with_reducible rfl)
      rotate_left
      try simp (maxSteps := 4000000) only [Act.put, List.setIfInBounds_toArray, List.set_cons_zero, List.set_cons_succ, List.getElem_toArray, List.getElem_cons_zero, List.getElem_cons_succ]
      refine wpAnyH_take (i := 16) (v := ?_) rfl (by kernel_rfl) (by kernel_rfl) (by kernel_rfl) (fun _ _ _ h => h) (Or.inl ⟨by kernel_rfl, ?_⟩) (by assumption) ?_
      rotate_left
      · (intro w hSw; (try dsimp only at hSw); (try have hTk := Hid.out HTAKE _ hSw); go_simp)
        try (with_reducible rfl)
      rotate_left
      try simp (maxSteps := 4000000) only [Act.put, List.setIfInBounds_toArray, List.set_cons_zero, List.set_cons_succ, List.getElem_toArray, List.getElem_cons_zero, List.getElem_cons_succ]
      refine wpAnyH_take (i := 17) (v := ?_) rfl (by kernel_rfl) (by kernel_rfl) (by kernel_rfl) (fun _ _ _ h => h) (Or.inl ⟨by kernel_rfl, ?_⟩) (by assumption) ?_
      rotate_left
      · (intro w hSw; (try dsimp only at hSw); (try have hTk := Hid.out HTAKE _ hSw); go_simp)
        try (with_reducible rfl)
      rotate_left
      try simp (maxSteps := 4000000) only [Act.put, List.setIfInBounds_toArray, List.set_cons_zero, List.set_cons_succ, List.getElem_toArray, List.getElem_cons_zero, List.getElem_cons_succ]
      refine wpAnyH_take (i := 18) (v := ?_) rfl (by kernel_rfl) (by kernel_rfl) (by kernel_rfl) (fun _ _ _ h => h) (Or.inl ⟨by kernel_rfl, ?_⟩) (by assumption) ?_
      rotate_left
      · (intro w hSw; (try dsimp only at hSw); (try have hTk := Hid.out HTAKE _ hSw); go_simp)
        try (with_reducible rfl)
      rotate_left
      try simp (maxSteps := 4000000) only [Act.put, List.setIfInBounds_toArray, List.set_cons_zero, List.set_cons_succ, List.getElem_toArray, List.getElem_cons_zero, List.getElem_cons_succ]
      refine wpAnyH_take (i := 19) (v := ?_) rfl (by kernel_rfl) (by kernel_rfl) (by kernel_rfl) (fun _ _ _ h => h) (Or.inl ⟨by kernel_rfl, ?_⟩) (by assumption) ?_
      rotate_left
      · (intro w hSw; (try dsimp only at hSw); (try have hTk := Hid.out HTAKE _ hSw); go_simp)
        try (with_reducible rfl)
      rotate_left
      try simp (maxSteps := 4000000) only [Act.put, List.setIfInBounds_toArray, List.set_cons_zero, List.set_cons_succ, List.getElem_toArray, List.getElem_cons_zero, List.getElem_cons_succ]
      refine wpAnyH_ready (rs := [20]) (by kernel_rfl) (by simp) ?_
      refine AllReadyH.cons rfl (fun K2 hK2 => ?_) AllReadyH.nil
      go_simp
      have BE := Lib.hid (beq_yes d1 0 16 c1 d2 0 c2 (kv y) wr.drew (fun j hj => by rw [Nat.zero_add]; exact HP1.out.2.1 j hj) (fun j hj => by rw [Nat.zero_add]; exact HP2.out.2.1 j hj))
      with_reducible refine Calls.mono (BE.out) ?_
      rintro e w' ⟨rfl, rfl⟩
      refine hK2.out _ _ (hHeld) (fun hHeld2 => ?_)
      clear hK2 K2 hHeld
      have hHeld := hHeld2
      clear hHeld2
      try simp (maxSteps := 4000000) only [Act.put, List.setIfInBounds_toArray, List.set_cons_zero, List.set_cons_succ]
      refine wpAnyH_take (i := 21) (v := ?_) rfl (by kernel_rfl) (by kernel_rfl) (by kernel_rfl) (fun _ _ _ h => h) (Or.inl ⟨by kernel_rfl, ?_⟩) (by assumption) ?_
      rotate_left
      · (intro w hSw; (try dsimp only at hSw); (try have hTk := Hid.out HTAKE _ hSw); go_simp)
        try (with_reducible rfl)
      rotate_left
      try simp (maxSteps := 4000000) only [Act.put, List.setIfInBounds_toArray, List.set_cons_zero, List.set_cons_succ, List.getElem_toArray, List.getElem_cons_zero, List.getElem_cons_succ]
      refine wpAnyH_take (i := 22) (v := ?_) rfl (by kernel_rfl) (by kernel_rfl) (by kernel_rfl) (fun _ _ _ h => h) (Or.inl ⟨by kernel_rfl, ?_⟩) (by assumption) ?_
      rotate_left
      · (intro w hSw; (try dsimp only at hSw); (try have hTk := Hid.out HTAKE _ hSw); go_simp)
        try (with_reducible rfl)
      rotate_left
      try simp (maxSteps := 4000000) only [Act.put, List.setIfInBounds_toArray, List.set_cons_zero, List.set_cons_succ, List.getElem_toArray, List.getElem_cons_zero, List.getElem_cons_succ]
      refine wpAnyH_done (by kernel_rfl) ?_ _
      clear BE HTAKE HS2 HP1 HP2 hHeld q3 q4
      generalize wr.drew = w2 at *
      go_wp2_with fail
      refine (slnextF ((y : Int) + 1) (HF.out w2 HW2.out).1 (HF.out w2 HW2.out).2.2.1).mono ?_
      rintro e w' ⟨⟨r, rfl, hr⟩, rfl⟩
      have HR := Lib.hid hr.r
      have HM : Hid (r = -1 ∨ ((y : Int) < r ∧ r < 16384)) := Lib.hid (by
        rcases hr with ⟨h, -⟩ | ⟨z, h1, h2, h3, -⟩
        · exact .inl h
        · exact .inr (by omega))
      clear hr k1
      go_wp2_with fail
      go_roundw
      case rel => exact ⟨r, rfl, HR, HW2⟩
      case measure =>
        have h1 := HM.out
        have h2 := HY.out.1
        show (if r < 0 then 0 else 16385 - r.toNat) < if (y : Int) < 0 then 0 else 16385 - (y : Int).toNat
        rw [if_neg (show ¬ (y : Int) < 0 by omega)]
        by_cases h3 : r < 0
        · rw [if_pos h3]; omega
        · rw [if_neg h3]; omega
end Go.Proofs.YtnfcpohbdkionaaGreatDoor
