/- Contracts of package batch: Without. -/
import Derived.Test.YtokdjonnblbegaaBaK0
import Derived.Deep.RegionHeld3
import Derived.Deep.DeepCutAuto
namespace Go.Proofs.Ytokdjonnblbegaa
set_option maxRecDepth 100000
open Go.RowKit Go.Maps
set_option linter.unusedVariables false
set_option linter.unusedSimpArgs false

theorem BT.reset {p b sz : Nat} {gs cs : List Nat} {ls : List (List Int)} {vals : List Value} {W : World} (h : BT p b sz (.slice none 0 0) gs cs ls vals W) : BT p b sz (.slice none 0 0) gs cs ls vals (W.setCell ⟨p, 1, none⟩ (.slice none 0 0)) := by
  have h0 : ls = [] := List.length_eq_zero_iff.1 h.out.nil_nil.1
  refine ⟨by rw [size_set]; exact h.lt, (World.cell?_setCell_other _ _ _ _ (by simp)).trans h.c0, World.cell?_setCell_same _ _ _ h.c1, by rw [World.frozen?_setCell]; exact h.f1, h.out.nil_any, ⟨h.inn.lg, h.inn.lc, h.inn.lv, fun j l hj => ?_, h.inn.nd⟩, h.df, h.big, fun e => absurd rfl e⟩
  rw [h0] at hj
  simp at hj
theorem idxL_nil (W : World) : Calls Try.prog 22 #[.slice none 0 0, .func (.func 18) #[] #[]] W fun e w' => e = .returned (.int .i64 (-1)) ∧ W = w' := by
  go_enter Try.func22, Try.ntmps22
  go_wp2_with fail
  go_loopw [8] (fun v8 wr => v8 = .int .i64 0 ∧ W = wr) (fun _ _ => 0)
  case atStart => exact ⟨rfl, rfl⟩
  case round =>
    obtain ⟨rfl, rfl⟩ := hrel
    go_wp2
    go_ret
    exact ⟨rfl, rfl⟩
theorem delL_nil (W : World) : Calls Try.prog 17 #[.slice none 0 0, .func (.func 18) #[] #[]] W fun e w' => e = .returned (.slice none 0 0) ∧ W = w' := by
  go_enter Try.func17, Try.ntmps17
  go_wp2_with fail
  refine (idxL_nil _).mono ?_
  rintro e w1 ⟨rfl, rfl⟩
  go_wp2
  go_ret
  exact ⟨rfl, rfl⟩
theorem mem_sum {x : Nat} : ∀ {l : List Nat}, x ∈ l → x ≤ l.sum
  | [], h => by simp at h
  | y :: r, h => by
    rw [List.sum_cons]
    rcases List.mem_cons.1 h with rfl | h
    · omega
    · have := mem_sum h
      omega
def BWPost (p b sz : Nat) (gs : List Nat) (zs : List Int) (ls : List (List Int)) (W : World) (e : Ending) (w' : World) : Prop :=
  e = .returned (.int .i64 (((ls.map List.length).sum : Int) - (((wL zs ls).map List.length).sum : Int))) ∧ (∃ v' gs' cs' vals', BT p b sz v' gs' cs' (wL zs ls) vals' w' ∧ ∀ g ∈ gs', g ∈ gs) ∧ W.heap.size ≤ w'.heap.size ∧ (∀ k, k < W.heap.size → k ≠ p → k ≠ b → k ∉ gs → w'.heap[k]? = W.heap[k]?) ∧ w'.os = W.os ∧ w'.tape = W.tape ∧ w'.output = W.output
section
variable {p b sz : Nat} {v : Value} {gs cs : List Nat} {ls : List (List Int)} {vals : List Value} {W : World}
set_option maxHeartbeats 3200000 in
theorem bwithout {b0 o0 : Nat} {zs : List Int} {A : Option Addr} {n c : Nat} (hA : n = 0 ∨ A = some ⟨b0, o0, none⟩) (hzn : zs.length = n) (hzs : ∀ (i : Nat) (x : Int), zs[i]? = some x → W.cell? ⟨b0, o0 + i, none⟩ = some (.int .i64 x)) (hn5 : n ≤ 100000) (hi1 : ∀ x ∈ zs, I64 x) (hi2 : ∀ l ∈ ls, ∀ x ∈ l, I64 x) (h : BT p b sz v gs cs ls vals W) :
    Calls Try.prog 8 #[.pointer (some ⟨p, 0, none⟩), .slice A n c] W (BWPost p b sz gs zs ls W) := by
  have H := Lib.hid h
  have HZS := Lib.hid hzs
  have HZN := Lib.hid hzn
  have HI1 := Lib.hid hi1
  have HI2 := Lib.hid hi2
  have hp := h.lt
  have HAD := Lib.hid hA
  clear h hzs hzn hi1 hi2 hA
  have hmm := @run_makeMap Try.prog
  go_enter Try.func8, Try.ntmps8
  go_wp2_with fail
  obtain ⟨mb, hmb⟩ : ∃ mb, W.heap.size = mb := ⟨_, rfl⟩
  have HMB := Lib.hid hmb
  have hown0 := World.ownsMap_made W Try.prog 3 (unitElem (H := Unit))
  have hbel0 : Below W.heap.size W ((W.alloc (.map #[] 0)).alloc (.cells #[.map (some W.heap.size)] 42)) := alc (alc0 _ _) _
  have hown1 := hown0.alloc (.cells #[.map (some W.heap.size)] 42)
  have hbx0 : ((W.alloc (.map #[] 0)).alloc (.cells #[.map (some W.heap.size)] 42)).cell? ⟨W.heap.size + 1, 0, none⟩ = some (.map (some W.heap.size)) := by simp
  have hsz0 : ((W.alloc (.map #[] 0)).alloc (.cells #[.map (some W.heap.size)] 42)).heap.size = W.heap.size + 2 := by simp
  rw [hmb] at hown1 hbx0 hbel0 hsz0 ⊢
  clear hown0
  obtain ⟨W0, hW0⟩ : ∃ W0, (W.alloc (.map #[] 0)).alloc (.cells #[.map (some mb)] 42) = W0 := ⟨_, rfl⟩
  rw [hW0] at hown1 hbx0 hbel0 hsz0 ⊢
  have HOWN1 := Lib.hid hown1
  have HBEL0 := Lib.hid hbel0
  have HBX0 := Lib.hid hbx0
  have HSZ0 := Lib.hid hsz0
  clear hW0 hown1 hbel0 hbx0 hsz0 hmm hmb
  go_loopw [17] (fun v17 wr => ∃ k : Nat, k ≤ n ∧ v17 = .int .i64 k ∧ Hid (∃ m, m ≤ k ∧ wr.ownsMap Try.prog 3 (unitElem (H := Unit)) mb m (Sd (zs.take k))) ∧ wr.cell? ⟨mb + 1, 0, none⟩ = some (.map (some mb)) ∧ Hid (Below W.heap.size W wr) ∧ Hid (mb + 2 ≤ wr.heap.size)) (fun v17 _ => n - (intOf v17).toNat)
  case atStart => exact ⟨0, by omega, rfl, Lib.hid ⟨0, by omega, HOWN1.out⟩, HBX0.out, Lib.hid (by rw [HMB.out]; exact HBEL0.out), Lib.hid (by have := HSZ0.out; omega)⟩
  case round =>
    obtain ⟨k, hk, rfl, HOW, hbx, HB, HS2⟩ := hrel
    by_cases hlt : k < n
    · obtain ⟨x, hx⟩ : ∃ x, zs[k]? = some x := ⟨zs[k]'(by have := HZN.out; omega), List.getElem?_eq_getElem _⟩
      obtain rfl := HAD.out.resolve_left (by omega)
      have ck0 := HZS.out k x hx
      have ck := (HB.out.cell (p := ⟨b0, o0 + k, none⟩) (World.block_lt_of_cell? W _ ck0)).trans ck0
      have hkey : keyOf Try.prog 3 (.int .i64 x) = some (.int .i64 x) := keyOf_int_mk Try.underlying3 (HI1.out x (List.mem_of_getElem? hx)).wf
      have HNX := Lib.hid (Sd_next hx)
      obtain ⟨m, hm, hown⟩ := HOW.out
      have i1 : (k : Int) < (n : Int) := by omega
      have i2 : (0 : Int) ≤ (k : Int) := by omega
      have HK := Lib.hid hk
      have HLT := Lib.hid hlt
      clear hx ck0 HOW hlt
      go_wp2_with (at_mapUpdate; refine wpList_mapUpdate_own _ rfl _ _ _ 42 rfl 3 43 kI Try.underlying42 (unitElem (H := Unit)) mb m _ rfl hown (by unfold maxLen; omega) _ _ _ rfl rfl hkey _ [] unitElem_mk ?_; intro w1 hown1 hgrow1)
      have HOW1 := Lib.hid hown1
      have hb1 : w1.cell? ⟨mb + 1, 0, none⟩ = some (.map (some mb)) := (World.cell?_of_block (hgrow1.block (mb + 1) (by have := HS2.out; omega) (by simp))).trans hbx
      have HB1 : Hid (Below W.heap.size W w1) := Lib.hid (HB.out.grown hgrow1 HB.out.size (fun j hj => by cases hj; have := HMB.out; omega))
      have HS1 : Hid (mb + 2 ≤ w1.heap.size) := Lib.hid (Nat.le_trans HS2.out hgrow1.size)
      clear hown1 hgrow1 hown hkey ck hbx HB HS2
      go_roundw
      case rel => exact ⟨k + 1, by have := HLT.out; omega, by go_num, Lib.hid ⟨m + 1, by omega, by rw [HNX.out]; exact HOW1.out⟩, hb1, HB1, HS1⟩
      case measure => simp [intOf]; have := HLT.out; omega
    · obtain rfl : k = n := by omega
      have i1 : ¬ (k : Int) < (k : Int) := by omega
      have HGN : Hid (GN mb (mb + 1) zs wr) := Lib.hid (by
        obtain ⟨m, -, hown⟩ := HOW.out
        rw [← HZN.out, List.take_length] at hown
        exact ⟨hbx, m, hown⟩)
      have HT := Lib.hid (H.out.below HB.out)
      obtain ⟨s1, hs1⟩ : ∃ s1, (ls.map List.length).sum = s1 := ⟨_, rfl⟩
      have hs1b : s1 ≤ 100000 := by rw [← hs1]; exact H.out.big.2.2.2
      have HS1 := Lib.hid hs1
      clear hlt HOW hbx
      go_wp2_with fail
      refine (blen HT.out).mono ?_
      rintro e w1 ⟨rfl, rfl⟩
      rw [hs1]
      clear hs1
      have hc1 := HT.out.c1
      have hf1 := HT.out.f1
      have hpr : p < wr.heap.size := HT.out.lt
      rcases HT.out.open_ with ⟨rfl, rfl⟩ | ⟨off, cap, rfl, -⟩
      · obtain rfl : s1 = 0 := by rw [← HS1.out]; rfl
        go_wp2_with fail
        go_loopw [33] (fun v33 wo => v33 = .int .i64 0 ∧ wr = wo) (fun _ _ => 0)
        case atStart => exact ⟨rfl, rfl⟩
        case round =>
          obtain ⟨rfl, rfl⟩ := hrel
          go_wp2_with fail
          refine (delL_nil _).mono ?_
          rintro e w2 ⟨rfl, rfl⟩
          go_wp2_with fail
          have HT2 := Lib.hid HT.out.reset
          have HFR : Hid (∀ q, q < W.heap.size → q ≠ p → (wr.setCell ⟨p, 1, none⟩ (.slice none 0 0)).heap[q]? = W.heap[q]?) := Lib.hid (fun q h1 h2 => (heap_other _ p 1 _ q h2).trans (HB.out.block q h1))
          have HSS : Hid (W.heap.size ≤ (wr.setCell ⟨p, 1, none⟩ (.slice none 0 0)).heap.size ∧ (wr.setCell ⟨p, 1, none⟩ (.slice none 0 0)).os = W.os ∧ (wr.setCell ⟨p, 1, none⟩ (.slice none 0 0)).tape = W.tape ∧ (wr.setCell ⟨p, 1, none⟩ (.slice none 0 0)).output = W.output) := Lib.hid ⟨by rw [size_set]; exact HB.out.size, HB.out.os, HB.out.tape, HB.out.output⟩
          clear hc1 hf1
          generalize wr.setCell ⟨p, 1, none⟩ (.slice none 0 0) = w9 at *
          refine (blen HT2.out).mono ?_
          rintro e w3 ⟨rfl, rfl⟩
          go_wp2_with fail
          go_ret
          exact ⟨rfl, ⟨_, gs, cs, vals, HT2.out, fun g hg => hg⟩, HSS.out.1, fun q h1 h2 _ _ => HFR.out q h1 h2, HSS.out.2⟩
      · obtain ⟨N9, hN9⟩ : ∃ N9, ls.length = N9 := ⟨_, rfl⟩
        obtain ⟨qs, q1, q2, hwi⟩ := HT.out.wi rfl zs
        have hqn : qs.length = N9 := by rw [← hN9, ← q2, List.length_map]
        have HQ1 := Lib.hid q1
        have HQ2 := Lib.hid q2
        have HQN := Lib.hid hqn
        have HWI0 := Lib.hid hwi
        have hN5 : N9 ≤ 100000 := by rw [← hN9]; exact H.out.big.2.2.1
        have hcap : N9 ≤ cap := by have := hwi.pb; omega
        have hcap9 : cap ≤ 9223372036854775807 := by have := hwi.pb; omega
        have hpb : p ≠ b := hwi.pb.2.2.1
        have hbW : b < mb := by
          rcases H.out.open_ with ⟨h9, -⟩ | ⟨_, _, -, h9, -⟩
          · cases h9
          · rw [← HMB.out]; exact h9
        rw [hN9] at hc1
        clear q1 q2 hqn hwi hf1
        go_wp2_with fail
        go_loopw [33] (fun v33 wo => ∃ i : Nat, i ≤ N9 ∧ v33 = .int .i64 i ∧ Hid (WI p b off cap sz zs qs wr i wo) ∧ Hid (GN mb (mb + 1) zs wo)) (fun v33 _ => N9 - (intOf v33).toNat)
        case atStart => exact ⟨0, by omega, rfl, HWI0, HGN⟩
        case round =>
          rename World => wo
          obtain ⟨i, hi, rfl, HWI, HG⟩ := hrel
          have hd1 := HWI.out.c1
          rw [HQN.out] at hd1
          have hbw : b < wr.heap.size := HWI.out.pb.2.1
          have hsw := HWI.out.sz_
          by_cases hlt : i < N9
          · obtain ⟨q, hq⟩ : ∃ q, qs[i]? = some q := ⟨qs[i]'(by have := HQN.out; omega), List.getElem?_eq_getElem _⟩
            obtain ⟨a0, a1, a2⟩ := HWI.out.at_ i q hq
            have hbm1 : mb + 1 ≠ b := by omega
            have hbm0 : mb ≠ b := by omega
            have hcur : qcur zs i i q.2.2 = q.2.2 := by unfold qcur; rw [if_neg (by omega)]
            rw [hcur] at a1 a2
            obtain ⟨kl, hkl⟩ : ∃ kl, q.2.2.length = kl := ⟨_, rfl⟩
            have hql : q.2.2 ∈ ls := by rw [← HQ2.out]; exact List.mem_map.2 ⟨q, List.mem_of_getElem? hq, rfl⟩
            have hqg : q.1 ∈ gs := by rw [← HQ1.out]; exact List.mem_map.2 ⟨q, List.mem_of_getElem? hq, rfl⟩
            have hqlt : q.1 < W.heap.size := H.out.mem_lt hqg
            have hpq : p ≠ q.1 := fun e => H.out.df.2.1 (e ▸ hqg)
            have hbq : b ≠ q.1 := fun e => H.out.df.2.2 (e ▸ hqg)
            have hkl5 : kl ≤ 100000 := by
              have h1 : (q.2.2).length ≤ (ls.map List.length).sum := mem_sum (List.mem_map.2 ⟨_, hql, rfl⟩)
              have h2 := H.out.big.2.2.2
              omega
            have HC := Lib.hid (delI (fun x => decide (x ∈ zs)) q.2.2 q.1 0 q.2.1 kl (mb + 1) wo.drew hkl hkl5 (by rw [← hkl]; exact a2.2.1) a2.2.2.1 a2.1 (fun i x hx => by rw [Nat.zero_add]; exact a2.2.2.2.1 i x hx) (fun i hi => by rw [Nat.zero_add]; exact (a2.2.2.2.2 i (by have := a2.2.1; omega)).2) (fun w' hw' x hx => goes1 mb (mb + 1) zs x w' (HI2.out _ hql x hx) (GN.kb (show GN mb (mb + 1) zs wo.drew from HG.out) hw' (by have := HMB.out; omega) (by have := HMB.out; omega))))
            have HA2 := Lib.hid a2
            have HQ := Lib.hid hq
            have hrw := HWI.out.row i (by omega)
            rw [hkl] at a1
            have i1 : (i : Int) < (N9 : Int) := by omega
            have i2 : (0 : Int) ≤ (i : Int) := by omega
            have HI0 := Lib.hid hi
            clear a2 hq hkl hi hcur
            go_upto_region 14 with (fail)
            refine wp_region_held_drew (S := fun w' => w'.cell? ⟨p, 1, none⟩ = some (.slice (some ⟨b, off, none⟩) N9 cap)) (by kernel_rfl) ?_ (fun hHeld => ?_)
            · exact hd1
            refine wpAnyH_take (i := 0) (v := ?_) rfl (by kernel_rfl) (by kernel_rfl) (by kernel_rfl) (fun _ _ _ h => h) (Or.inl ⟨by kernel_rfl, ?_⟩) (by assumption) ?_
            rotate_left
            · (intro w hSw; (try dsimp only at hSw); go_simp)
              try (with_reducible rfl)
            rotate_left
            try simp (maxSteps := 4000000) only [Act.put, List.setIfInBounds_toArray, List.set_cons_zero, List.set_cons_succ, List.getElem_toArray, List.getElem_cons_zero, List.getElem_cons_succ]
            refine wpAnyH_take (i := 1) (v := ?_) rfl (by kernel_rfl) (by kernel_rfl) (by kernel_rfl) (fun _ _ _ h => h) (Or.inl ⟨by kernel_rfl, ?_⟩) (by assumption) ?_
            rotate_left
            · (intro w hSw; (try dsimp only at hSw); go_simp)
              try (with_reducible rfl)
            rotate_left
            try simp (maxSteps := 4000000) only [Act.put, List.setIfInBounds_toArray, List.set_cons_zero, List.set_cons_succ, List.getElem_toArray, List.getElem_cons_zero, List.getElem_cons_succ]
            refine wpAnyH_take (i := 2) (v := ?_) rfl (by kernel_rfl) (by kernel_rfl) (by kernel_rfl) (fun _ _ _ h => h) (Or.inl ⟨by kernel_rfl, ?_⟩) (by assumption) ?_
            rotate_left
            · (intro w hSw; (try dsimp only at hSw); go_simp)
              try (with_reducible rfl)
            rotate_left
            try simp (maxSteps := 4000000) only [Act.put, List.setIfInBounds_toArray, List.set_cons_zero, List.set_cons_succ, List.getElem_toArray, List.getElem_cons_zero, List.getElem_cons_succ]
            refine wpAnyH_take (i := 3) (v := ?_) rfl (by kernel_rfl) (by kernel_rfl) (by kernel_rfl) (fun _ _ _ h => h) (Or.inl ⟨by kernel_rfl, ?_⟩) (by assumption) ?_
            rotate_left
            · (intro w hSw; (try dsimp only at hSw); go_simp)
              try (with_reducible rfl)
            rotate_left
            try simp (maxSteps := 4000000) only [Act.put, List.setIfInBounds_toArray, List.set_cons_zero, List.set_cons_succ, List.getElem_toArray, List.getElem_cons_zero, List.getElem_cons_succ]
            refine wpAnyH_take (i := 4) (v := ?_) rfl (by kernel_rfl) (by kernel_rfl) (by kernel_rfl) (fun _ _ _ h => h) (Or.inl ⟨by kernel_rfl, ?_⟩) (by assumption) ?_
            rotate_left
            · (intro w hSw; (try dsimp only at hSw); go_simp)
              try (with_reducible rfl)
            rotate_left
            try simp (maxSteps := 4000000) only [Act.put, List.setIfInBounds_toArray, List.set_cons_zero, List.set_cons_succ, List.getElem_toArray, List.getElem_cons_zero, List.getElem_cons_succ]
            refine wpAnyH_take (i := 5) (v := ?_) rfl (by kernel_rfl) (by kernel_rfl) (by kernel_rfl) (fun _ _ _ h => h) (Or.inl ⟨by kernel_rfl, ?_⟩) (by assumption) ?_
            rotate_left
            · (intro w hSw; (try dsimp only at hSw); go_simp)
              try (with_reducible rfl)
            rotate_left
            try simp (maxSteps := 4000000) only [Act.put, List.setIfInBounds_toArray, List.set_cons_zero, List.set_cons_succ, List.getElem_toArray, List.getElem_cons_zero, List.getElem_cons_succ]
            refine wpAnyH_take (i := 6) (v := ?_) rfl (by kernel_rfl) (by kernel_rfl) (by kernel_rfl) (fun _ _ _ h => h) (Or.inl ⟨by kernel_rfl, ?_⟩) (by assumption) ?_
            rotate_left
            · (intro w hSw; (try dsimp only at hSw); go_simp)
              try (with_reducible rfl)
            rotate_left
            try simp (maxSteps := 4000000) only [Act.put, List.setIfInBounds_toArray, List.set_cons_zero, List.set_cons_succ, List.getElem_toArray, List.getElem_cons_zero, List.getElem_cons_succ]
            refine wpAnyH_ready (rs := [7]) (by kernel_rfl) (by simp) ?_
            refine AllReadyH.cons rfl (fun K2 hK2 => ?_) AllReadyH.nil
            go_simp
            with_reducible refine Calls.mono (HC.out) ?_
            rintro e w2 ⟨rfl, hd2, hk2⟩
            have kp2 : w2.heap[p]? = wo.heap[p]? := hk2.block (show p < wo.heap.size by omega) hpq
            have kb2 : w2.heap[b]? = wo.heap[b]? := hk2.block (show b < wo.heap.size by omega) hbq
            have e1 : w2.cell? ⟨b, off + i, none⟩ = _ := (World.cell?_of_block kb2).trans a1
            have e2 : w2.frozen? ⟨b, off + i, none⟩ = false := (World.frozen?_of_block kb2).trans hrw.2
            have e3 : w2.cell? ⟨p, 1, none⟩ = some (.slice (some ⟨b, off, none⟩) N9 cap) := (World.cell?_of_block kp2).trans hd1
            have HD2 := Lib.hid hd2
            have HK2 := Lib.hid hk2
            clear hd2 hk2 kp2 kb2 HC
            refine hK2.out _ _ (e3) (fun hHeld2 => ?_)
            clear hK2 K2 hHeld
            have hHeld := hHeld2
            clear hHeld2
            try simp (maxSteps := 4000000) only [Act.put, List.setIfInBounds_toArray, List.set_cons_zero, List.set_cons_succ]
            refine wpAnyH_take (i := 8) (v := ?_) rfl (by kernel_rfl) (by kernel_rfl) (by kernel_rfl) (fun _ _ _ h => h) (Or.inl ⟨by kernel_rfl, ?_⟩) (by assumption) ?_
            rotate_left
            · (intro w hSw; (try dsimp only at hSw); go_simp)
              try (with_reducible rfl)
            rotate_left
            try simp (maxSteps := 4000000) only [Act.put, List.setIfInBounds_toArray, List.set_cons_zero, List.set_cons_succ, List.getElem_toArray, List.getElem_cons_zero, List.getElem_cons_succ]
            refine wpAnyH_ready (rs := [9]) (by kernel_rfl) (by simp) ?_
            refine AllReadyH.cons rfl (fun K2 hK2 => ?_) AllReadyH.nil
            go_simp
            have HG2 : Hid (GN mb (mb + 1) zs (w2.setCell ⟨b, off + i, none⟩ (.slice (some ⟨q.1, 0, none⟩) (fltL zs q.2.2).length q.2.1))) := Lib.hid (GN.kb (GN.kb (show GN mb (mb + 1) zs wo.drew from HG.out) HK2.out (by have := HMB.out; omega) (by have := HMB.out; omega)) (KB.setCell _) hbm1 hbm0)
            have HWN : Hid (WI p b off cap sz zs qs wr (i + 1) (w2.setCell ⟨b, off + i, none⟩ (.slice (some ⟨q.1, 0, none⟩) (fltL zs q.2.2).length q.2.1))) := Lib.hid ((HWI.out.below (Below.refl _ wo).drew).next HQ.out HD2.out HK2.out rfl rfl rfl rfl)
            have e4 : (w2.setCell ⟨b, off + i, none⟩ (.slice (some ⟨q.1, 0, none⟩) (fltL zs q.2.2).length q.2.1)).cell? ⟨p, 1, none⟩ = some (.slice (some ⟨b, off, none⟩) N9 cap) := (World.cell?_setCell_other _ _ _ _ (by intro e; injection e with e9 _ _; exact hpb e9.symm)).trans e3
            refine hK2.out _ _ (e4) (fun hHeld2 => ?_)
            clear hK2 K2 hHeld
            have hHeld := hHeld2
            clear hHeld2
            try simp (maxSteps := 4000000) only [Act.put, List.setIfInBounds_toArray, List.set_cons_zero, List.set_cons_succ]
            refine wpAnyH_done (by kernel_rfl) ?_ _
            go_wp2_with fail
            go_roundw
            case rel => exact ⟨i + 1, by have := HI0.out; omega, by go_num, HWN, HG2⟩
            case measure => simp [intOf]; have := HI0.out; omega
          · obtain rfl : i = N9 := by omega
            have i1 : ¬ (i : Int) < (i : Int) := by omega
            obtain ⟨us, hus⟩ : ∃ us, qs.map (fun q => (q.1, (fltL zs q.2.2).length, q.2.1)) = us := ⟨_, rfl⟩
            have hbo : b < wo.heap.size := by omega
            have HWIQ : Hid (WI p b off cap sz zs qs wr qs.length wo) := Lib.hid (by rw [HQN.out]; exact HWI.out)
            have HC := Lib.hid (delL (fun x => decide (x.2.1 = 0)) us b off cap i wo (by rw [← hus, List.length_map]; exact HQN.out) hN5 hcap hcap9 hbo (fun k x hx => by
              rw [← hus, List.getElem?_map] at hx
              obtain ⟨q, hq, rfl⟩ := Option.map_eq_some_iff.1 hx
              have h9 := (HWIQ.out.at_ k q hq).2.1
              have hcur : qcur zs qs.length k q.2.2 = fltL zs q.2.2 := by unfold qcur; rw [if_pos (List.getElem?_eq_some_iff.1 hq).1]
              rw [hcur] at h9
              exact h9) (fun k hk => (HWI.out.row k (by omega)).2) (fun w' _ x _ => goes2 _ x.2.1 x.2.2 w'))
            have HUS := Lib.hid hus
            clear hus hlt hi
            go_wp2_with fail
            refine HC.out.mono ?_
            rintro e w2 ⟨rfl, hd2, hk2⟩
            have kp2 : w2.heap[p]? = wo.heap[p]? := hk2.block (show p < wo.heap.size by omega) hpb
            have e3 : w2.cell? ⟨p, 1, none⟩ = some (.slice (some ⟨b, off, none⟩) i cap) := (World.cell?_of_block kp2).trans hd1
            have e4 : w2.frozen? ⟨p, 1, none⟩ = false := (World.frozen?_of_block kp2).trans HWI.out.f1
            obtain ⟨m, hm⟩ : ∃ m, (us.filter (fun x => !decide (x.2.1 = 0))).length = m := ⟨_, rfl⟩
            rw [hm]
            have hend := HWIQ.out.end_ (V2 := w2) (V3 := w2.setCell ⟨p, 1, none⟩ (.slice (some ⟨b, off, none⟩) m cap)) (by rw [HQ2.out, HQN.out]; exact ⟨H.out.big.1, H.out.big.2.1, hN5, H.out.big.2.2.2⟩)
              (by
                obtain ⟨o9, u9, h9⟩ := HT.out.kc (by simp)
                obtain ⟨u8, h8⟩ := Option.isSome_iff_exists.1 (HWI.out.kb o9 (by rw [h9]; rfl))
                exact ⟨_, u8, h8⟩) (by rw [HUS.out]; exact hd2) hk2 (by rw [HUS.out]; exact hm.symm) rfl rfl rfl rfl
            rw [HQ2.out, HQ1.out] at hend
            have HEND := Lib.hid hend
            clear hend hd2 hk2 kp2 hm hd1 HC
            go_wp2_with fail
            clear e3 e4
            generalize w2.setCell ⟨p, 1, none⟩ (.slice (some ⟨b, off, none⟩) m cap) = w9 at *
            obtain ⟨gs2, cs2, vals2, hT2, hgs2, hsz2, hfr2, hst2⟩ := HEND.out
            have HT2 := Lib.hid hT2
            have HR2 := Lib.hid (And.intro hgs2 (And.intro hsz2 (And.intro hfr2 hst2)))
            obtain ⟨s2, hs2⟩ : ∃ s2, ((wL zs ls).map List.length).sum = s2 := ⟨_, rfl⟩
            have hs2b : s2 ≤ s1 := by rw [← hs2, ← HS1.out]; exact wL_sum zs ls
            have HS2 := Lib.hid hs2
            clear hT2 hgs2 hsz2 hfr2 hst2 HEND
            refine (blen HT2.out).mono ?_
            rintro e w3 ⟨rfl, rfl⟩
            rw [hs2]
            clear hs2
            go_wp2_with fail
            go_ret
            obtain ⟨hgs2, hsz2, hfr2, hst2⟩ := HR2.out
            have hbs := HB.out.size
            refine ⟨?_, ⟨_, gs2, cs2, vals2, HT2.out, hgs2⟩, by omega, fun k h1 h2 h3 h4 => (hfr2 k (by omega) h2 h3 h4).trans (HB.out.block k h1), hst2.1.trans HB.out.os, hst2.2.1.trans HB.out.tape, hst2.2.2.trans HB.out.output⟩
            rw [HS2.out, HS1.out]
            rfl
end
end Go.Proofs.Ytokdjonnblbegaa
