/- MemSame: what is played, and the memory that comes of it. -/
import Derived.Test.YtgidnmjeifgciaaDoorMsE
import Derived.Test.YtgidnmjeifgciaaDoorMpE
import Derived.Deep.RegionHeld3
import Derived.Deep.CutBlock
namespace Go.Proofs.YtgidnmjeifgciaaDoor
set_option maxRecDepth 100000
open Go.RowKit Go.ChangeMaps Go.MapKept
set_option linter.unusedVariables false
set_option linter.unusedSimpArgs false

def s4p : MS := { newS 4 with pg := onF (newS 4).pg 0 4, peak := max (newS 4).peak ((cntF (newS 4).pg 1024 : Nat) + 4) }
theorem s4p_pg (y : Nat) : s4p.pg y = decide (y < 4) := by
  show (false || decide ((0 : Int) ≤ y ∧ (y : Int) < 0 + 4)) = _
  rw [Bool.false_or, decide_eq_decide]; omega
def writeP (σ : MS) (a n : Nat) (d : Nat → Nat) : MS := if 1 ≤ n ∧ a + n ≤ 1024 then wrS σ a n d else σ
def tagP (σ : MS) (a t : Nat) : MS := if a + 16 ≤ 1024 then { σ with f := setF σ.f (grF (a : Int)) (grN (a : Int) 16) t } else σ
/-- What an act leaves. -/
def stepP (σ : MS) (p : AV) : MS :=
  if p.w % 4 = 0 then writeP σ (p.a % 1024).toNat (min p.ln 20) p.d
  else if p.w % 4 = 1 then tagP σ (p.a % 1024).toNat (p.n % 16).toNat
  else keepS σ (16 * ((p.a % 1024).toNat / 16)) b16
def runP (l : List AV) : Nat → MS
  | 0 => s4p
  | k + 1 => match l[k]? with
    | some p => stepP (runP l k) p
    | none => runP l k
theorem runP_next {l : List AV} {k : Nat} {p : AV} (h : l[k]? = some p) : runP l (k + 1) = stepP (runP l k) p := by
  rw [runP, h]
theorem stepP_pg (σ : MS) (p : AV) : (stepP σ p).pg = σ.pg := by
  unfold stepP writeP tagP
  split
  · split <;> rfl
  · split
    · split <;> rfl
    · rfl
theorem runP_pg (l : List AV) (k : Nat) (y : Nat) : (runP l k).pg y = decide (y < 4) := by
  induction k with
  | zero => exact s4p_pg y
  | succ k ih =>
    rw [runP]
    cases l[k]? with
    | none => exact ih
    | some p => show (stepP (runP l k) p).pg y = _; rw [stepP_pg]; exact ih
theorem pg4_yes {pg : Nat → Bool} (h : ∀ y, pg y = decide (y < 4)) {a n : Int} (h0 : 0 ≤ a) (h1 : 1 ≤ n) (h2 : a + n ≤ 1024) : openB pg a n = true := by
  unfold openB
  rw [mayB_iff.2 (by omega), Bool.true_and, wholeF_iff]
  exact fun y _ hy => by rw [h]; exact decide_eq_true (by omega)
theorem pg4_no {pg : Nat → Bool} (h : ∀ y, pg y = decide (y < 4)) {a n : Int} (h0 : 0 ≤ a) (h2 : ¬ (1 ≤ n ∧ a + n ≤ 1024)) : refE pg a n ≠ 0 := by
  unfold refE
  cases hm : mayB a n with
  | false => rw [if_neg (by decide)]; decide
  | true =>
    obtain ⟨h3, h4, h5, h6⟩ := mayB_iff.1 hm
    rw [if_pos rfl]
    cases ho : openB pg a n with
    | false => rw [if_neg (by decide)]; decide
    | true =>
      unfold openB at ho
      rw [hm, Bool.true_and, wholeF_iff] at ho
      have := ho ((a + n - 1) / 256).toNat (by omega) (by omega)
      rw [h] at this
      have := of_decide_eq_true this
      omega
def PlayedPost (W : World) (σ : MS) (e : Ending) (w' : World) : Prop := ∃ M cl, e = .returned (.pointer (some ⟨M, 0, none⟩)) ∧ MEM W.heap.size cl M w' σ ∧ Below W.heap.size W w'
theorem MEM.far {B : Nat} {col : Nat → Nat} {M : Nat} {W : World} {σ : MS} (h : MEM B col M W σ) {i : Nat} (hi : i < B) : col i = 0 := by
  by_cases e : col i = 0
  · exact e
  · have := (h.own i e).1; omega
set_option maxHeartbeats 6400000 in
theorem played_t (A : Option Addr) (l : List AV) (cp : Nat) (W : World) (hl : l.length ≤ 9223372036854775807) (hA : ACTS W A l) (ht : TzTab W) :
    Calls Tryd.prog 29 #[.slice A l.length cp] W (PlayedPost W (runP l (min l.length 20))) := by
  have T := Lib.hid ht
  have HA := Lib.hid hA
  obtain ⟨L, hL⟩ : ∃ L, l.length = L := ⟨_, rfl⟩
  rw [hL] at hl ⊢
  have HLEN := Lib.hid hL
  obtain ⟨R, hR⟩ : ∃ R, runP l (min L 20) = R := ⟨_, rfl⟩
  rw [hR]
  have HRR := Lib.hid hR
  clear hA hL ht hR
  go_enter Tryd.func29, Tryd.ntmps29
  go_wp2_with fail
  refine (mnew 4 4 _ T.out (by decide)).mono ?_
  rintro e v1 ⟨M, col, rfl, hm, hb1⟩
  have HM := Lib.hid hm
  have HB1 := Lib.hid hb1
  clear hm hb1
  have K1 := Lib.hid (mmap_free 0 4 HM.out (by decide) (fun y _ _ => rfl))
  go_wp2_with fail
  refine K1.out.mono ?_
  rintro e v2 (⟨h, _⟩ | ⟨-, rfl, hs2, -⟩)
  · exfalso
    have : cntF (newS 4).pg 1024 = 0 := by
      have key : ∀ n, cntF (fun _ => false) n = 0 := fun n => by
        induction n with
        | zero => rfl
        | succ n ih => rw [cntF, ih]; rfl
      exact key 1024
    rw [this] at h
    revert h
    decide
  obtain ⟨col2, hm2, -, -, hb2⟩ := hs2
  have HB2 : Hid (Below W.heap.size W v2) := Lib.hid (HB1.out.trans hb2)
  have HM2 : Hid (MEM W.heap.size col2 M v2 (runP l 0)) := Lib.hid hm2
  clear hb2 hm2 K1 HM HB1
  go_wp2_with fail
  go_loopw [4] (fun v4 wr => ∃ (i : Nat) (cl : Nat → Nat), i ≤ L ∧ i ≤ 20 ∧ v4 = .int .i64 i ∧ Hid (MEM W.heap.size cl M wr (runP l i)) ∧ Hid (Below W.heap.size W wr)) (fun v4 _ => L - (intOf v4).toNat)
  case atStart => exact ⟨0, col2, by omega, by omega, rfl, HM2, HB2⟩
  case round =>
    clear HM2 HB2
    obtain ⟨i, cl, hi, hi20, rfl, HM, HB⟩ := hrel
    by_cases hgo : i < L ∧ i < 20
    · obtain ⟨g1, g2⟩ := hgo
      have g1I : (i : Int) < (L : Int) := by omega
      have g2I : (i : Int) < 20 := by omega
      obtain ⟨p, hp⟩ : ∃ p, l[i]? = some p := ⟨l[i]'(by have := HLEN.out; omega), List.getElem?_eq_getElem _⟩
      obtain h0 | ⟨ab, ao, rfl, hab0, hcells⟩ := HA.out
      · have h9 := HLEN.out
        subst h0
        simp at h9
        omega
      have HAB : Hid (ab < W.heap.size ∧ AvAt wr ab (ao + i * 4) p) := Lib.hid ⟨hab0, (hcells i p hp).keep hab0 HB.out⟩
      have HBW : Hid (BS W p.P p.ln p.cp p.d) := Lib.hid (hcells i p hp).2.1
      have HBD : Hid (∀ j, p.d j < 256) := Lib.hid HBW.out.2.2
      obtain ⟨c0, c1, c2, c3⟩ := HAB.out.2.1
      have HNX : Hid (runP l (i + 1) = stepP (runP l i) p) := Lib.hid (runP_next hp)
      have HPG := Lib.hid (runP_pg l i)
      clear hcells hp hab0
      have f1 : bits .and .i64 p.a 1023 = p.a % 1024 := and1023 p.a
      obtain ⟨a, ha⟩ : ∃ a : Nat, p.a % 1024 = (a : Int) := ⟨(p.a % 1024).toNat, by omega⟩
      rw [ha] at f1
      have HAA : Hid ((p.a % 1024).toNat = a ∧ a < 1024) := Lib.hid ⟨by omega, by omega⟩
      have f3 : bits .and .i64 p.w 3 = p.w % 4 := and3 p.w
      obtain ⟨k, hk⟩ : ∃ k : Nat, p.w % 4 = (k : Int) := ⟨(p.w % 4).toNat, by omega⟩
      have hk4 : k < 4 := by omega
      rw [hk] at f3
      have HWK := Lib.hid hk
      have f4 : bits .and .i64 p.n 15 = p.n % 16 := and15 p.n
      obtain ⟨t, ht⟩ : ∃ t : Nat, p.n % 16 = (t : Int) := ⟨(p.n % 16).toNat, by omega⟩
      rw [ht] at f4
      have HTT : Hid ((p.n % 16).toNat = t ∧ t < 16) := Lib.hid ⟨by omega, by omega⟩
      clear ha hk ht
      generalize runP l i = σ at *
      go_upto_region 9 with (fail)
      have hkc : k = 0 ∨ k = 1 ∨ k = 2 ∨ k = 3 := by omega
      clear hk4
      rcases hkc with rfl | rfl | hk23
      · obtain ⟨n0, hn0, hn3⟩ : ∃ n0 : Nat, min p.ln 20 = n0 ∧ n0 ≤ 20 := ⟨_, rfl, by omega⟩
        have HN0 : Hid (n0 ≤ p.ln ∧ n0 ≤ 20 ∧ n0 ≤ p.cp) := Lib.hid ⟨by omega, hn3, by have := HBW.out.2.1; omega⟩
        have HST : Hid (runP l (i + 1) = writeP σ a n0 p.d) := Lib.hid (by rw [HNX.out]; unfold stepP; rw [HWK.out, if_pos (show ((0 : Nat) : Int) = 0 from rfl), HAA.out.1, hn0])
        have hlnM : (p.ln : Int) ≤ 9223372036854775807 := by have := HAB.out.2.2.2; omega
        go_upto_region 10 with (fail)
        have HMd := Lib.hid (HM.out.later (Below.refl _ _).drew)
        have HBd : Hid (Below W.heap.size W wr.drew) := Lib.hid HB.out.drew
        by_cases h3 : 20 < p.ln
        · obtain rfl : 20 = n0 := by omega
          have h3I : (20 : Int) < (p.ln : Int) := by omega
          clear hn0 hn3
          have hleI : (20 : Int) ≤ (p.cp : Int) := by have := HN0.out; omega
          refine wp_region_held_drew (S := fun w' => w'.cell? ⟨ab, ao + i * 4 + 3, none⟩ = some (.slice p.P p.ln p.cp)) (by kernel_rfl) ?_ (fun hHeld => ?_)
          · exact c3
          refine wpAnyH_take (i := 0) (v := ?_) rfl (by kernel_rfl) (by kernel_rfl) (by kernel_rfl) (fun _ _ _ h => h) (Or.inl ⟨by kernel_rfl, ?_⟩) (by assumption) ?_
          rotate_left
          · (intro w hSw; (try dsimp only at hSw); go_simp)
            try (with_reducible rfl)
          rotate_left
          try simp (maxSteps := 4000000) only [Act.put, List.setIfInBounds_toArray, List.set_cons_zero, List.set_cons_succ, List.getElem_toArray, List.getElem_cons_zero, List.getElem_cons_succ]
          refine wpAnyH_take (i := 1) (v := ?_) rfl (by kernel_rfl) (by kernel_rfl) (by kernel_rfl) (fun _ _ _ h => h) (Or.inl ⟨by kernel_rfl, ?_⟩) (by assumption) ?_
          rotate_left
          · (intro w hSw; (try dsimp only at hSw); go_simp)
            try (with_reducible rfl)
          rotate_left
          try simp (maxSteps := 4000000) only [Act.put, List.setIfInBounds_toArray, List.set_cons_zero, List.set_cons_succ, List.getElem_toArray, List.getElem_cons_zero, List.getElem_cons_succ]
          refine wpAnyH_take (i := 2) (v := ?_) rfl (by kernel_rfl) (by kernel_rfl) (by kernel_rfl) (fun _ _ _ h => h) (Or.inl ⟨by kernel_rfl, ?_⟩) (by assumption) ?_
          rotate_left
          · (intro w hSw; (try dsimp only at hSw); go_simp)
            try (with_reducible rfl)
          rotate_left
          try simp (maxSteps := 4000000) only [Act.put, List.setIfInBounds_toArray, List.set_cons_zero, List.set_cons_succ, List.getElem_toArray, List.getElem_cons_zero, List.getElem_cons_succ]
          refine wpAnyH_take (i := 3) (v := ?_) rfl (by kernel_rfl) (by kernel_rfl) (by kernel_rfl) (fun _ _ _ h => h) (Or.inl ⟨by kernel_rfl, ?_⟩) (by assumption) ?_
          rotate_left
          · (intro w hSw; (try dsimp only at hSw); go_simp)
            try (with_reducible rfl)
          rotate_left
          try simp (maxSteps := 4000000) only [Act.put, List.setIfInBounds_toArray, List.set_cons_zero, List.set_cons_succ, List.getElem_toArray, List.getElem_cons_zero, List.getElem_cons_succ]
          refine wpAnyH_take (i := 4) (v := ?_) rfl (by kernel_rfl) (by kernel_rfl) (by kernel_rfl) (fun _ _ _ h => h) (Or.inl ⟨by kernel_rfl, ?_⟩) (by assumption) ?_
          rotate_left
          · (intro w hSw; (try dsimp only at hSw); go_simp)
            try (with_reducible rfl)
          rotate_left
          try simp (maxSteps := 4000000) only [Act.put, List.setIfInBounds_toArray, List.set_cons_zero, List.set_cons_succ, List.getElem_toArray, List.getElem_cons_zero, List.getElem_cons_succ]
          refine wpAnyH_take (i := 5) (v := ?_) rfl (by kernel_rfl) (by kernel_rfl) (by kernel_rfl) (fun _ _ _ h => h) (Or.inl ⟨by kernel_rfl, ?_⟩) (by assumption) ?_
          rotate_left
          · (intro w hSw; (try dsimp only at hSw); go_simp)
            try (with_reducible rfl)
          rotate_left
          try simp (maxSteps := 4000000) only [Act.put, List.setIfInBounds_toArray, List.set_cons_zero, List.set_cons_succ, List.getElem_toArray, List.getElem_cons_zero, List.getElem_cons_succ]
          refine wpAnyH_take (i := 6) (v := ?_) rfl (by kernel_rfl) (by kernel_rfl) (by kernel_rfl) (fun _ _ _ h => h) (Or.inl ⟨by kernel_rfl, ?_⟩) (by assumption) ?_
          rotate_left
          · (intro w hSw; (try dsimp only at hSw); go_simp)
            try (with_reducible rfl)
          rotate_left
          try simp (maxSteps := 4000000) only [Act.put, List.setIfInBounds_toArray, List.set_cons_zero, List.set_cons_succ, List.getElem_toArray, List.getElem_cons_zero, List.getElem_cons_succ]
          refine wpAnyH_take (i := 7) (v := ?_) rfl (by kernel_rfl) (by kernel_rfl) (by kernel_rfl) (fun _ _ _ h => h) (Or.inl ⟨by kernel_rfl, ?_⟩) (by assumption) ?_
          rotate_left
          · (intro w hSw; (try dsimp only at hSw); go_simp)
            try (with_reducible rfl)
          rotate_left
          try simp (maxSteps := 4000000) only [Act.put, List.setIfInBounds_toArray, List.set_cons_zero, List.set_cons_succ, List.getElem_toArray, List.getElem_cons_zero, List.getElem_cons_succ]
          refine wpAnyH_take (i := 8) (v := ?_) rfl (by kernel_rfl) (by kernel_rfl) (by kernel_rfl) (fun _ _ _ h => h) (Or.inl ⟨by kernel_rfl, ?_⟩) (by assumption) ?_
          rotate_left
          · (intro w hSw; (try dsimp only at hSw); go_simp)
            try (with_reducible rfl)
          rotate_left
          try simp (maxSteps := 4000000) only [Act.put, List.setIfInBounds_toArray, List.set_cons_zero, List.set_cons_succ, List.getElem_toArray, List.getElem_cons_zero, List.getElem_cons_succ]
          refine wpAnyH_take (i := 9) (v := ?_) rfl (by kernel_rfl) (by kernel_rfl) (by kernel_rfl) (fun _ _ _ h => h) (Or.inl ⟨by kernel_rfl, ?_⟩) (by assumption) ?_
          rotate_left
          · (intro w hSw; (try dsimp only at hSw); go_simp)
            try (with_reducible rfl)
          rotate_left
          try simp (maxSteps := 4000000) only [Act.put, List.setIfInBounds_toArray, List.set_cons_zero, List.set_cons_succ, List.getElem_toArray, List.getElem_cons_zero, List.getElem_cons_succ]
          refine wpAnyH_take (i := 10) (v := ?_) rfl (by kernel_rfl) (by kernel_rfl) (by kernel_rfl) (fun _ _ _ h => h) (Or.inl ⟨by kernel_rfl, ?_⟩) (by assumption) ?_
          rotate_left
          · (intro w hSw; (try dsimp only at hSw); go_simp)
            try (with_reducible rfl)
          rotate_left
          try simp (maxSteps := 4000000) only [Act.put, List.setIfInBounds_toArray, List.set_cons_zero, List.set_cons_succ, List.getElem_toArray, List.getElem_cons_zero, List.getElem_cons_succ]
          refine wpAnyH_take (i := 11) (v := ?_) rfl (by kernel_rfl) (by kernel_rfl) (by kernel_rfl) (fun _ _ _ h => h) (Or.inl ⟨by kernel_rfl, ?_⟩) (by assumption) ?_
          rotate_left
          · (intro w hSw; (try dsimp only at hSw); go_simp)
            try (with_reducible rfl)
          rotate_left
          try simp (maxSteps := 4000000) only [Act.put, List.setIfInBounds_toArray, List.set_cons_zero, List.set_cons_succ, List.getElem_toArray, List.getElem_cons_zero, List.getElem_cons_succ]
          refine wpAnyH_take (i := 12) (v := ?_) rfl (by kernel_rfl) (by kernel_rfl) (by kernel_rfl) (fun _ _ _ h => h) (Or.inl ⟨by kernel_rfl, ?_⟩) (by assumption) ?_
          rotate_left
          · (intro w hSw; (try dsimp only at hSw); go_simp)
            try (with_reducible rfl)
          rotate_left
          try simp (maxSteps := 4000000) only [Act.put, List.setIfInBounds_toArray, List.set_cons_zero, List.set_cons_succ, List.getElem_toArray, List.getElem_cons_zero, List.getElem_cons_succ]
          refine wpAnyH_take (i := 13) (v := ?_) rfl (by kernel_rfl) (by kernel_rfl) (by kernel_rfl) (fun _ _ _ h => h) (Or.inl ⟨by kernel_rfl, ?_⟩) (by assumption) ?_
          rotate_left
          · (intro w hSw; (try dsimp only at hSw); go_simp)
            try (with_reducible rfl)
          rotate_left
          try simp (maxSteps := 4000000) only [Act.put, List.setIfInBounds_toArray, List.set_cons_zero, List.set_cons_succ, List.getElem_toArray, List.getElem_cons_zero, List.getElem_cons_succ]
          refine wpAnyH_take (i := 14) (v := ?_) rfl (by kernel_rfl) (by kernel_rfl) (by kernel_rfl) (fun _ _ _ h => h) (Or.inl ⟨by kernel_rfl, ?_⟩) (by assumption) ?_
          rotate_left
          · (intro w hSw; (try dsimp only at hSw); go_simp)
            try (with_reducible rfl)
          rotate_left
          try simp (maxSteps := 4000000) only [Act.put, List.setIfInBounds_toArray, List.set_cons_zero, List.set_cons_succ, List.getElem_toArray, List.getElem_cons_zero, List.getElem_cons_succ]
          refine wpAnyH_ready (rs := [15]) (by kernel_rfl) (by simp) ?_
          refine AllReadyH.cons rfl (fun K2 hK2 => ?_) AllReadyH.nil
          go_simp
          by_cases ho : 1 ≤ 20 ∧ a + 20 ≤ 1024
          · have HT1 : Hid (writeP σ a 20 p.d = wrS σ a 20 p.d) := Lib.hid (if_pos ho)
            have HO := Lib.hid ho
            obtain hz | ⟨sb, so, hP, hsz, hcell⟩ := HBW.out.1
            · exfalso; have := HN0.out; omega
            have HC9 := Lib.hid (And.intro hsz hcell)
            have HPP := Lib.hid hP
            clear ho hP hsz hcell
            with_reducible refine Calls.mono (show Calls Tryd.prog 16 #[.pointer (some ⟨M, 0, none⟩), .int .i64 (a : Int), .slice p.P 20 p.cp] wr.drew fun e w' => e = .returned (.int .i64 0) ∧ MStep W.heap.size cl M wr.drew (wrS σ a 20 p.d) w' from by
              rw [HPP.out]
              exact mwrite_ok a 20 sb so p.cp p.d HMd.out (pg4_yes HPG.out (by omega) (by have := HO.out; omega) (by have := HO.out; omega)) HN0.out.2.2 (fun j hj => (HBd.out.cell (p := ⟨sb, so + j, none⟩) HC9.out.1).trans (HC9.out.2 j (by have := HN0.out; omega))) (fun j _ => HBD.out j) (HMd.out.far HC9.out.1)) ?_
            rintro e w2 ⟨rfl, cl2, hm2, hc2, ho2, hb2⟩
            have HM2 : Hid (MEM W.heap.size cl2 M w2 (runP l (i + 1))) := Lib.hid (by rw [HST.out, HT1.out]; exact hm2)
            have HB2 := Lib.hid (HBd.out.trans hb2)
            have c3' : w2.cell? ⟨ab, ao + i * 4 + 3, none⟩ = some (.slice p.P p.ln p.cp) := (hb2.cell (p := ⟨ab, ao + i * 4 + 3, none⟩) HAB.out.1).trans c3
            clear hm2 hc2 ho2 hb2
            refine hK2.out _ _ (c3') (fun hHeld2 => ?_)
            clear hK2 K2 hHeld
            have hHeld := hHeld2
            clear hHeld2
            try simp (maxSteps := 4000000) only [Act.put, List.setIfInBounds_toArray, List.set_cons_zero, List.set_cons_succ]
            refine wpAnyH_done (by kernel_rfl) ?_ _
            clear hHeld c3'
            go_wp2_with fail
            go_roundw
            case rel => exact ⟨i + 1, cl2, by omega, by omega, by go_num, HM2, HB2⟩
            case measure => simp [intOf]; omega
          · have HT1 : Hid (writeP σ a 20 p.d = σ) := Lib.hid (if_neg ho)
            have HO := Lib.hid ho
            clear ho
            with_reducible refine Calls.mono (mwrite_no (refE σ.pg (a : Int) ((20 : Nat) : Int)) (a : Int) p.P 20 p.cp HMd.out rfl (pg4_no HPG.out (by omega) (by have := HO.out; omega))) ?_
            rintro e w2 ⟨rfl, hb2⟩
            have HM2 : Hid (MEM W.heap.size cl M w2 (runP l (i + 1))) := Lib.hid (by rw [HST.out, HT1.out]; exact HMd.out.later hb2)
            have HB2 := Lib.hid (thn HBd.out hb2)
            have c3' : w2.cell? ⟨ab, ao + i * 4 + 3, none⟩ = some (.slice p.P p.ln p.cp) := (hb2.cell (p := ⟨ab, ao + i * 4 + 3, none⟩) (by have := HAB.out.1; have := HBd.out.size; show ab < _; omega)).trans c3
            clear hb2
            refine hK2.out _ _ (c3') (fun hHeld2 => ?_)
            clear hK2 K2 hHeld
            have hHeld := hHeld2
            clear hHeld2
            try simp (maxSteps := 4000000) only [Act.put, List.setIfInBounds_toArray, List.set_cons_zero, List.set_cons_succ]
            refine wpAnyH_done (by kernel_rfl) ?_ _
            clear hHeld c3'
            go_wp2_with fail
            go_roundw
            case rel => exact ⟨i + 1, cl, by omega, by omega, by go_num, HM2, HB2⟩
            case measure => simp [intOf]; omega
        · obtain rfl : p.ln = n0 := by omega
          have h3I : ¬ (20 : Int) < (p.ln : Int) := by omega
          clear hn0 hn3
          have hleI : (p.ln : Int) ≤ (p.cp : Int) := by have := HN0.out; omega
          refine wp_region_held_drew (S := fun w' => w'.cell? ⟨ab, ao + i * 4 + 3, none⟩ = some (.slice p.P p.ln p.cp)) (by kernel_rfl) ?_ (fun hHeld => ?_)
          · exact c3
          refine wpAnyH_take (i := 0) (v := ?_) rfl (by kernel_rfl) (by kernel_rfl) (by kernel_rfl) (fun _ _ _ h => h) (Or.inl ⟨by kernel_rfl, ?_⟩) (by assumption) ?_
          rotate_left
          · (intro w hSw; (try dsimp only at hSw); go_simp)
            try (with_reducible rfl)
          rotate_left
          try simp (maxSteps := 4000000) only [Act.put, List.setIfInBounds_toArray, List.set_cons_zero, List.set_cons_succ, List.getElem_toArray, List.getElem_cons_zero, List.getElem_cons_succ]
          refine wpAnyH_take (i := 1) (v := ?_) rfl (by kernel_rfl) (by kernel_rfl) (by kernel_rfl) (fun _ _ _ h => h) (Or.inl ⟨by kernel_rfl, ?_⟩) (by assumption) ?_
          rotate_left
          · (intro w hSw; (try dsimp only at hSw); go_simp)
            try (with_reducible rfl)
          rotate_left
          try simp (maxSteps := 4000000) only [Act.put, List.setIfInBounds_toArray, List.set_cons_zero, List.set_cons_succ, List.getElem_toArray, List.getElem_cons_zero, List.getElem_cons_succ]
          refine wpAnyH_take (i := 2) (v := ?_) rfl (by kernel_rfl) (by kernel_rfl) (by kernel_rfl) (fun _ _ _ h => h) (Or.inl ⟨by kernel_rfl, ?_⟩) (by assumption) ?_
          rotate_left
          · (intro w hSw; (try dsimp only at hSw); go_simp)
            try (with_reducible rfl)
          rotate_left
          try simp (maxSteps := 4000000) only [Act.put, List.setIfInBounds_toArray, List.set_cons_zero, List.set_cons_succ, List.getElem_toArray, List.getElem_cons_zero, List.getElem_cons_succ]
          refine wpAnyH_take (i := 3) (v := ?_) rfl (by kernel_rfl) (by kernel_rfl) (by kernel_rfl) (fun _ _ _ h => h) (Or.inl ⟨by kernel_rfl, ?_⟩) (by assumption) ?_
          rotate_left
          · (intro w hSw; (try dsimp only at hSw); go_simp)
            try (with_reducible rfl)
          rotate_left
          try simp (maxSteps := 4000000) only [Act.put, List.setIfInBounds_toArray, List.set_cons_zero, List.set_cons_succ, List.getElem_toArray, List.getElem_cons_zero, List.getElem_cons_succ]
          refine wpAnyH_take (i := 4) (v := ?_) rfl (by kernel_rfl) (by kernel_rfl) (by kernel_rfl) (fun _ _ _ h => h) (Or.inl ⟨by kernel_rfl, ?_⟩) (by assumption) ?_
          rotate_left
          · (intro w hSw; (try dsimp only at hSw); go_simp)
            try (with_reducible rfl)
          rotate_left
          try simp (maxSteps := 4000000) only [Act.put, List.setIfInBounds_toArray, List.set_cons_zero, List.set_cons_succ, List.getElem_toArray, List.getElem_cons_zero, List.getElem_cons_succ]
          refine wpAnyH_take (i := 5) (v := ?_) rfl (by kernel_rfl) (by kernel_rfl) (by kernel_rfl) (fun _ _ _ h => h) (Or.inl ⟨by kernel_rfl, ?_⟩) (by assumption) ?_
          rotate_left
          · (intro w hSw; (try dsimp only at hSw); go_simp)
            try (with_reducible rfl)
          rotate_left
          try simp (maxSteps := 4000000) only [Act.put, List.setIfInBounds_toArray, List.set_cons_zero, List.set_cons_succ, List.getElem_toArray, List.getElem_cons_zero, List.getElem_cons_succ]
          refine wpAnyH_take (i := 6) (v := ?_) rfl (by kernel_rfl) (by kernel_rfl) (by kernel_rfl) (fun _ _ _ h => h) (Or.inl ⟨by kernel_rfl, ?_⟩) (by assumption) ?_
          rotate_left
          · (intro w hSw; (try dsimp only at hSw); go_simp)
            try (with_reducible rfl)
          rotate_left
          try simp (maxSteps := 4000000) only [Act.put, List.setIfInBounds_toArray, List.set_cons_zero, List.set_cons_succ, List.getElem_toArray, List.getElem_cons_zero, List.getElem_cons_succ]
          refine wpAnyH_take (i := 7) (v := ?_) rfl (by kernel_rfl) (by kernel_rfl) (by kernel_rfl) (fun _ _ _ h => h) (Or.inl ⟨by kernel_rfl, ?_⟩) (by assumption) ?_
          rotate_left
          · (intro w hSw; (try dsimp only at hSw); go_simp)
            try (with_reducible rfl)
          rotate_left
          try simp (maxSteps := 4000000) only [Act.put, List.setIfInBounds_toArray, List.set_cons_zero, List.set_cons_succ, List.getElem_toArray, List.getElem_cons_zero, List.getElem_cons_succ]
          refine wpAnyH_take (i := 8) (v := ?_) rfl (by kernel_rfl) (by kernel_rfl) (by kernel_rfl) (fun _ _ _ h => h) (Or.inl ⟨by kernel_rfl, ?_⟩) (by assumption) ?_
          rotate_left
          · (intro w hSw; (try dsimp only at hSw); go_simp)
            try (with_reducible rfl)
          rotate_left
          try simp (maxSteps := 4000000) only [Act.put, List.setIfInBounds_toArray, List.set_cons_zero, List.set_cons_succ, List.getElem_toArray, List.getElem_cons_zero, List.getElem_cons_succ]
          refine wpAnyH_take (i := 9) (v := ?_) rfl (by kernel_rfl) (by kernel_rfl) (by kernel_rfl) (fun _ _ _ h => h) (Or.inl ⟨by kernel_rfl, ?_⟩) (by assumption) ?_
          rotate_left
          · (intro w hSw; (try dsimp only at hSw); go_simp)
            try (with_reducible rfl)
          rotate_left
          try simp (maxSteps := 4000000) only [Act.put, List.setIfInBounds_toArray, List.set_cons_zero, List.set_cons_succ, List.getElem_toArray, List.getElem_cons_zero, List.getElem_cons_succ]
          refine wpAnyH_take (i := 10) (v := ?_) rfl (by kernel_rfl) (by kernel_rfl) (by kernel_rfl) (fun _ _ _ h => h) (Or.inl ⟨by kernel_rfl, ?_⟩) (by assumption) ?_
          rotate_left
          · (intro w hSw; (try dsimp only at hSw); go_simp)
            try (with_reducible rfl)
          rotate_left
          try simp (maxSteps := 4000000) only [Act.put, List.setIfInBounds_toArray, List.set_cons_zero, List.set_cons_succ, List.getElem_toArray, List.getElem_cons_zero, List.getElem_cons_succ]
          refine wpAnyH_take (i := 11) (v := ?_) rfl (by kernel_rfl) (by kernel_rfl) (by kernel_rfl) (fun _ _ _ h => h) (Or.inl ⟨by kernel_rfl, ?_⟩) (by assumption) ?_
          rotate_left
          · (intro w hSw; (try dsimp only at hSw); go_simp)
            try (with_reducible rfl)
          rotate_left
          try simp (maxSteps := 4000000) only [Act.put, List.setIfInBounds_toArray, List.set_cons_zero, List.set_cons_succ, List.getElem_toArray, List.getElem_cons_zero, List.getElem_cons_succ]
          refine wpAnyH_take (i := 12) (v := ?_) rfl (by kernel_rfl) (by kernel_rfl) (by kernel_rfl) (fun _ _ _ h => h) (Or.inl ⟨by kernel_rfl, ?_⟩) (by assumption) ?_
          rotate_left
          · (intro w hSw; (try dsimp only at hSw); go_simp)
            try (with_reducible rfl)
          rotate_left
          try simp (maxSteps := 4000000) only [Act.put, List.setIfInBounds_toArray, List.set_cons_zero, List.set_cons_succ, List.getElem_toArray, List.getElem_cons_zero, List.getElem_cons_succ]
          refine wpAnyH_take (i := 13) (v := ?_) rfl (by kernel_rfl) (by kernel_rfl) (by kernel_rfl) (fun _ _ _ h => h) (Or.inl ⟨by kernel_rfl, ?_⟩) (by assumption) ?_
          rotate_left
          · (intro w hSw; (try dsimp only at hSw); go_simp)
            try (with_reducible rfl)
          rotate_left
          try simp (maxSteps := 4000000) only [Act.put, List.setIfInBounds_toArray, List.set_cons_zero, List.set_cons_succ, List.getElem_toArray, List.getElem_cons_zero, List.getElem_cons_succ]
          refine wpAnyH_take (i := 14) (v := ?_) rfl (by kernel_rfl) (by kernel_rfl) (by kernel_rfl) (fun _ _ _ h => h) (Or.inl ⟨by kernel_rfl, ?_⟩) (by assumption) ?_
          rotate_left
          · (intro w hSw; (try dsimp only at hSw); go_simp)
            try (with_reducible rfl)
          rotate_left
          try simp (maxSteps := 4000000) only [Act.put, List.setIfInBounds_toArray, List.set_cons_zero, List.set_cons_succ, List.getElem_toArray, List.getElem_cons_zero, List.getElem_cons_succ]
          refine wpAnyH_ready (rs := [15]) (by kernel_rfl) (by simp) ?_
          refine AllReadyH.cons rfl (fun K2 hK2 => ?_) AllReadyH.nil
          go_simp
          by_cases ho : 1 ≤ p.ln ∧ a + p.ln ≤ 1024
          · have HT1 : Hid (writeP σ a p.ln p.d = wrS σ a p.ln p.d) := Lib.hid (if_pos ho)
            have HO := Lib.hid ho
            obtain hz | ⟨sb, so, hP, hsz, hcell⟩ := HBW.out.1
            · exfalso; have := HN0.out; omega
            have HC9 := Lib.hid (And.intro hsz hcell)
            have HPP := Lib.hid hP
            clear ho hP hsz hcell
            with_reducible refine Calls.mono (show Calls Tryd.prog 16 #[.pointer (some ⟨M, 0, none⟩), .int .i64 (a : Int), .slice p.P p.ln p.cp] wr.drew fun e w' => e = .returned (.int .i64 0) ∧ MStep W.heap.size cl M wr.drew (wrS σ a p.ln p.d) w' from by
              rw [HPP.out]
              exact mwrite_ok a p.ln sb so p.cp p.d HMd.out (pg4_yes HPG.out (by omega) (by have := HO.out; omega) (by have := HO.out; omega)) HN0.out.2.2 (fun j hj => (HBd.out.cell (p := ⟨sb, so + j, none⟩) HC9.out.1).trans (HC9.out.2 j (by have := HN0.out; omega))) (fun j _ => HBD.out j) (HMd.out.far HC9.out.1)) ?_
            rintro e w2 ⟨rfl, cl2, hm2, hc2, ho2, hb2⟩
            have HM2 : Hid (MEM W.heap.size cl2 M w2 (runP l (i + 1))) := Lib.hid (by rw [HST.out, HT1.out]; exact hm2)
            have HB2 := Lib.hid (HBd.out.trans hb2)
            have c3' : w2.cell? ⟨ab, ao + i * 4 + 3, none⟩ = some (.slice p.P p.ln p.cp) := (hb2.cell (p := ⟨ab, ao + i * 4 + 3, none⟩) HAB.out.1).trans c3
            clear hm2 hc2 ho2 hb2
            refine hK2.out _ _ (c3') (fun hHeld2 => ?_)
            clear hK2 K2 hHeld
            have hHeld := hHeld2
            clear hHeld2
            try simp (maxSteps := 4000000) only [Act.put, List.setIfInBounds_toArray, List.set_cons_zero, List.set_cons_succ]
            refine wpAnyH_done (by kernel_rfl) ?_ _
            clear hHeld c3'
            go_wp2_with fail
            go_roundw
            case rel => exact ⟨i + 1, cl2, by omega, by omega, by go_num, HM2, HB2⟩
            case measure => simp [intOf]; omega
          · have HT1 : Hid (writeP σ a p.ln p.d = σ) := Lib.hid (if_neg ho)
            have HO := Lib.hid ho
            clear ho
            with_reducible refine Calls.mono (mwrite_no (refE σ.pg (a : Int) ((p.ln : Nat) : Int)) (a : Int) p.P p.ln p.cp HMd.out rfl (pg4_no HPG.out (by omega) (by have := HO.out; omega))) ?_
            rintro e w2 ⟨rfl, hb2⟩
            have HM2 : Hid (MEM W.heap.size cl M w2 (runP l (i + 1))) := Lib.hid (by rw [HST.out, HT1.out]; exact HMd.out.later hb2)
            have HB2 := Lib.hid (thn HBd.out hb2)
            have c3' : w2.cell? ⟨ab, ao + i * 4 + 3, none⟩ = some (.slice p.P p.ln p.cp) := (hb2.cell (p := ⟨ab, ao + i * 4 + 3, none⟩) (by have := HAB.out.1; have := HBd.out.size; show ab < _; omega)).trans c3
            clear hb2
            refine hK2.out _ _ (c3') (fun hHeld2 => ?_)
            clear hK2 K2 hHeld
            have hHeld := hHeld2
            clear hHeld2
            try simp (maxSteps := 4000000) only [Act.put, List.setIfInBounds_toArray, List.set_cons_zero, List.set_cons_succ]
            refine wpAnyH_done (by kernel_rfl) ?_ _
            clear hHeld c3'
            go_wp2_with fail
            go_roundw
            case rel => exact ⟨i + 1, cl, by omega, by omega, by go_num, HM2, HB2⟩
            case measure => simp [intOf]; omega
      · have HST : Hid (runP l (i + 1) = tagP σ a t) := Lib.hid (by rw [HNX.out]; unfold stepP; rw [HWK.out, if_neg (by decide), if_pos (show ((1 : Nat) : Int) = 1 from rfl), HAA.out.1, HTT.out.1])
        have HKB : Hid (runP l (i + 1) = tagP σ a t) := HST
        by_cases ho : a + 16 ≤ 1024
        · have HT1 : Hid (tagP σ a t = { σ with f := setF σ.f (grF (a : Int)) (grN (a : Int) 16) t }) := Lib.hid (if_pos ho)
          have HO := Lib.hid ho
          clear ho
          go_wp2_with fail
          with_reducible refine Calls.mono (msettag_ok (a : Int) 16 t HM.out HTT.out.2 (pg4_yes HPG.out (by omega) (by decide) (by have := HO.out; omega))) ?_
          rintro e w2 ⟨rfl, cl2, hm2, -, -, hb2⟩
          have HM2 : Hid (MEM W.heap.size cl2 M w2 (runP l (i + 1))) := Lib.hid (by rw [HST.out, HT1.out]; exact hm2)
          have HB2 := Lib.hid (HB.out.trans hb2)
          clear hm2 hb2
          go_wp2_with fail
          go_roundw
          case rel => exact ⟨i + 1, cl2, by omega, by omega, by go_num, HM2, HB2⟩
          case measure => simp [intOf]; omega
        · have HT1 : Hid (tagP σ a t = σ) := Lib.hid (if_neg ho)
          have HO := Lib.hid ho
          clear ho
          go_wp2_with fail
          with_reducible refine Calls.mono (msettag_no (refE σ.pg (a : Int) 16) (a : Int) 16 (t : Int) HM.out (.inr ⟨by omega, by have := HTT.out; omega, rfl, pg4_no HPG.out (by omega) (by have := HO.out; omega)⟩)) ?_
          rintro e w2 ⟨rfl, hb2⟩
          have HM2 : Hid (MEM W.heap.size cl M w2 (runP l (i + 1))) := Lib.hid (by rw [HST.out, HT1.out]; exact HM.out.later hb2)
          have HB2 := Lib.hid (thn HB.out hb2)
          clear hb2
          go_wp2_with fail
          go_roundw
          case rel => exact ⟨i + 1, cl, by omega, by omega, by go_num, HM2, HB2⟩
          case measure => simp [intOf]; omega
      · have HK23 := Lib.hid hk23
        have k1 : ((k : Int) == 0) = false := by rcases hk23 with rfl | rfl <;> rfl
        have k2 : ((k : Int) == 1) = false := by rcases hk23 with rfl | rfl <;> rfl
        have HST : Hid (runP l (i + 1) = keepS σ (16 * (a / 16)) b16) := Lib.hid (by rw [HNX.out]; unfold stepP; rw [HWK.out, if_neg (by rcases hk23 with rfl | rfl <;> decide), if_neg (by rcases hk23 with rfl | rfl <;> decide), HAA.out.1])
        clear hk23
        obtain ⟨g, hg⟩ : ∃ g, a / 16 = g := ⟨_, rfl⟩
        obtain ⟨c, hc⟩ : ∃ c, 16 * g = c := ⟨_, rfl⟩
        rw [hg, hc] at HST
        have HC16 : Hid (c % 16 = 0 ∧ c + 16 ≤ 1024) := Lib.hid (by have := HAA.out; omega)
        have a0 : (0 : Int) ≤ (a : Int) := by omega
        have e1 : (a : Int).tdiv 16 = (g : Int) := by rw [Int.tdiv_eq_ediv_of_nonneg (by omega)]; omega
        have e2 : (a : Int) / 16 = (g : Int) := by omega
        have e3 : (g : Int) * 16 = (c : Int) := by omega
        have e4 : IntKind.i64.wrap (c : Int) = (c : Int) := IntWalk.i64_in _ (by have := HC16.out; omega)
        have e5 : IntKind.i64.wrap (g : Int) = (g : Int) := IntWalk.i64_in _ (by have := HC16.out; omega)
        have hcv := Lib.run_convert_bytes_const (P := Tryd.prog) wr 35 5 #[.int .u8 48, .int .u8 49, .int .u8 50, .int .u8 51, .int .u8 52, .int .u8 53, .int .u8 54, .int .u8 55, .int .u8 56, .int .u8 57, .int .u8 97, .int .u8 98, .int .u8 99, .int .u8 100, .int .u8 101, .int .u8 102] 16 16 Tryd.underlying35 Tryd.underlying5
        clear hg hc
        go_wp2_with fail
        refine (mkeep_ok c wr.heap.size 0 16 b16 (HM.out.later (alc0 _ _)) HC16.out.1 (pg4_yes HPG.out (by omega) (by decide) (by have := HC16.out; omega)) (fun i hi => ?_) (HM.out.old (Nat.le_refl _))).mono ?_
        · have h16 : i = 0 ∨ i = 1 ∨ i = 2 ∨ i = 3 ∨ i = 4 ∨ i = 5 ∨ i = 6 ∨ i = 7 ∨ i = 8 ∨ i = 9 ∨ i = 10 ∨ i = 11 ∨ i = 12 ∨ i = 13 ∨ i = 14 ∨ i = 15 := by omega
          rw [Nat.zero_add, World.cell?_alloc_mark]
          rcases h16 with rfl | rfl | rfl | rfl | rfl | rfl | rfl | rfl | rfl | rfl | rfl | rfl | rfl | rfl | rfl | rfl <;> rfl
        rintro e w2 ⟨rfl, cl2, hm2, -, -, hb2⟩
        have HM2 : Hid (MEM W.heap.size cl2 M w2 (runP l (i + 1))) := Lib.hid (by rw [HST.out]; exact hm2)
        have HB2 := Lib.hid ((HB.out.alloc HB.out.size _).trans hb2)
        clear hm2 hb2 hcv
        go_wp2_with fail
        go_roundw
        case rel => exact ⟨i + 1, cl2, by omega, by omega, by go_num, HM2, HB2⟩
        case measure => simp [intOf]; omega
    · have HF : Hid (MEM W.heap.size cl M wr R) := Lib.hid (by
        have e : i = min L 20 := by omega
        rw [← HRR.out, ← e]; exact HM.out)
      rename World => wz
      by_cases hL2 : i < L
      · have g1I : (i : Int) < (L : Int) := by omega
        have g2I : ¬ (i : Int) < 20 := by omega
        go_wp2_with fail
        go_ret
        exact ⟨M, cl, rfl, HF.out, HB.out⟩
      · have g1I : ¬ (i : Int) < (L : Int) := by omega
        go_wp2_with fail
        go_ret
        exact ⟨M, cl, rfl, HF.out, HB.out⟩
end Go.Proofs.YtgidnmjeifgciaaDoor
