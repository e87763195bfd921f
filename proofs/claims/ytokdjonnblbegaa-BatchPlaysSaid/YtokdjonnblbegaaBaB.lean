/- Contracts of package batch: Len, Take. -/
import Derived.Test.YtokdjonnblbegaaBaA
import Derived.Deep.RegionHeld3
import Derived.Deep.DeepCutAuto
namespace Go.Proofs.Ytokdjonnblbegaa
set_option maxRecDepth 100000
open Go.RowKit
set_option linter.unusedVariables false
set_option linter.unusedSimpArgs false

def sumL (ls : List (List Int)) (j : Nat) : Nat := ((ls.take j).map List.length).sum
theorem sumL_next {ls : List (List Int)} {j : Nat} {l : List Int} (h : ls[j]? = some l) : sumL ls (j + 1) = sumL ls j + l.length := by
  unfold sumL
  rw [List.take_add_one, h]
  simp
theorem sumL_all (ls : List (List Int)) : sumL ls ls.length = (ls.map List.length).sum := by
  unfold sumL
  rw [List.take_length]
theorem sumL_le (ls : List (List Int)) (j : Nat) : sumL ls j ≤ (ls.map List.length).sum := by
  have h := List.take_append_drop j (ls.map List.length)
  have e : (ls.map List.length).sum = ((ls.map List.length).take j).sum + ((ls.map List.length).drop j).sum := by
    rw [← List.sum_append_nat, h]
  unfold sumL
  rw [← List.map_take] at e
  omega
section
variable {p b sz : Nat} {v : Value} {gs cs : List Nat} {ls : List (List Int)} {vals : List Value} {W : World}
set_option maxHeartbeats 1600000 in
theorem blen (h : BT p b sz v gs cs ls vals W) : Calls Try.prog 10 #[.pointer (some ⟨p, 0, none⟩)] W fun e w' => e = .returned (.int .i64 (((ls.map List.length).sum : Nat) : Int)) ∧ W = w' := by
  have H := Lib.hid h
  have c1 := h.c1
  have hbig := h.big
  obtain ⟨n, hn⟩ : ∃ n, ls.length = n := ⟨_, rfl⟩
  have HNN := Lib.hid hn
  have hn5 : n ≤ 100000 := by omega
  rcases h.open_ with ⟨rfl, rfl⟩ | ⟨off, c, rfl, hb, hnc, hc63, hcell⟩
  · clear h hbig hn hn5 HNN
    go_enter Try.func10, Try.ntmps10
    go_wp2_with fail
    go_loopw [3, 13] (fun v3 v13 wr => v3 = .int .i64 0 ∧ v13 = .int .i64 0 ∧ W = wr) (fun _ _ _ => 0)
    case atStart => exact ⟨rfl, rfl, rfl⟩
    case round =>
      obtain ⟨rfl, rfl, rfl⟩ := hrel
      go_wp2
      go_ret
      exact ⟨rfl, rfl⟩
  · have HCELL := Lib.hid hcell
    rw [hn] at c1
    clear h hcell hn hnc hc63 hbig
    go_enter Try.func10, Try.ntmps10
    go_wp2_with fail
    go_loopw [3, 13] (fun v3 v13 wr => ∃ j : Nat, j ≤ n ∧ v13 = .int .i64 j ∧ v3 = .int .i64 ((sumL ls j : Nat) : Int) ∧ W = wr) (fun _ v13 _ => n - (intOf v13).toNat)
    case atStart => exact ⟨0, by omega, rfl, rfl, rfl⟩
    case round =>
      obtain ⟨j, hj, rfl, rfl, rfl⟩ := hrel
      obtain ⟨s, hs⟩ : ∃ s, sumL ls j = s := ⟨_, rfl⟩
      have HS := Lib.hid hs
      have hs9 : s ≤ 100000 := by rw [← hs]; have := sumL_le ls j; have := H.out.big; omega
      rw [hs]
      clear hs
      by_cases hlt : j < n
      · have hltI : (j : Int) < (n : Int) := by omega
        have hgeI : (0 : Int) ≤ (j : Int) := by omega
        have HLT := Lib.hid hlt
        obtain ⟨l, hl⟩ : ∃ l, ls[j]? = some l := ⟨ls[j]'(by have := HNN.out; omega), List.getElem?_eq_getElem _⟩
        obtain ⟨g, cc, -, -, e3, hr⟩ := H.out.inn.at_ j l hl
        have cj := HCELL.out j _ e3
        have HSN := Lib.hid (sumL_next hl)
        obtain ⟨k, hk⟩ : ∃ k, l.length = k := ⟨_, rfl⟩
        rw [hk] at cj HSN
        have hk9 : s + k ≤ 100000 := by
          have h1 := sumL_le ls (j + 1)
          have h2 := H.out.big
          have h3 := HSN.out
          have h4 := HS.out
          omega
        clear e3 hr hk hl hlt hj
        go_wp2_with fail
        go_roundw
        case rel => exact ⟨j + 1, by have := HLT.out; omega, by go_num, by rw [HSN.out, HS.out]; go_num, trivial⟩
        case measure => simp [intOf]; have := HLT.out; omega
      · obtain rfl : j = n := by omega
        have hltI : ¬ (j : Int) < (j : Int) := by omega
        have HFIN : Hid (s = (ls.map List.length).sum) := Lib.hid (by rw [← HS.out, ← HNN.out]; exact sumL_all ls)
        clear hlt hj
        go_wp2_with fail
        go_ret
        exact ⟨by rw [← HFIN.out]; rfl, rfl⟩
end
theorem btake_none {p b sz : Nat} {v : Value} {W : World} (h : BT p b sz v [] [] [] [] W) : Calls Try.prog 6 #[.pointer (some ⟨p, 0, none⟩)] W fun e w' => e = .returned (.slice none 0 0) ∧ W = w' := by
  have c1 := h.c1
  rcases h.open_ with ⟨rfl, -⟩ | ⟨off, c, rfl, -, -, -, -⟩
  · clear h
    go_enter Try.func6, Try.ntmps6
    go_wp2
    go_ret
    exact ⟨rfl, rfl⟩
  · clear h
    rw [List.length_nil] at c1
    go_enter Try.func6, Try.ntmps6
    go_wp2
    go_ret
    exact ⟨rfl, rfl⟩
def BTakePost (p b sz : Nat) (g c : Nat) (l : List Int) (gs0 cs0 : List Nat) (ls0 : List (List Int)) (vals0 : List Value) (W : World) (e : Ending) (w' : World) : Prop :=
  e = .returned (.slice (some ⟨g, 0, none⟩) l.length c) ∧ (∃ v', BT p b sz v' gs0 cs0 ls0 vals0 w') ∧ BRw g c w' l ∧ g ∉ gs0 ∧ g ≠ p ∧ g ≠ b ∧ w'.heap.size = W.heap.size ∧ (∀ i, i ≠ p → w'.heap[i]? = W.heap[i]?) ∧ Below p W w'
set_option maxHeartbeats 1600000 in
theorem btake {p b sz : Nat} {v : Value} {gs0 cs0 : List Nat} {ls0 : List (List Int)} {vals0 : List Value} {g c : Nat} {l : List Int} {u : Value} {W : World} (h : BT p b sz v (gs0 ++ [g]) (cs0 ++ [c]) (ls0 ++ [l]) (vals0 ++ [u]) W) : Calls Try.prog 6 #[.pointer (some ⟨p, 0, none⟩)] W (BTakePost p b sz g c l gs0 cs0 ls0 vals0 W) := by
  have hbig := h.big
  have hlg := h.inn.lg
  have hlc := h.inn.lc
  have hlv := h.inn.lv
  simp only [List.length_append, List.length_singleton] at hlg hlc hlv
  obtain ⟨N, hN⟩ : ∃ N, ls0.length = N := ⟨_, rfl⟩
  obtain ⟨g', c', e1, e2, e3, hrow⟩ := h.inn.at_ N l (by rw [← hN]; simp)
  have f1 : g' = g := by
    rw [List.getElem?_append_right (by omega), show N - gs0.length = 0 by omega] at e1
    simpa using e1.symm
  have f2 : c' = c := by
    rw [List.getElem?_append_right (by omega), show N - cs0.length = 0 by omega] at e2
    simpa using e2.symm
  subst f1 f2
  have f3 : u = .slice (some ⟨g', 0, none⟩) l.length c' := by
    rw [List.getElem?_append_right (by omega), show N - vals0.length = 0 by omega] at e3
    simpa using e3
  subst f3
  rcases h.open_ with ⟨-, h0⟩ | ⟨off, cc, rfl, hb, hnc, hc63, hcell⟩
  · exact absurd h0 (by simp)
  have hlast := hcell N _ e3
  simp only [List.length_append, List.length_singleton, hN] at hnc hbig
  have c1 := h.c1
  simp only [List.length_append, List.length_singleton, hN] at c1
  have hp := h.lt
  have hf1 := h.f1
  have H := Lib.hid h
  have HROW := Lib.hid hrow
  have HND := Lib.hid h.inn.nd
  have HFIN : Hid (∀ w' : World, w' = W.setCell ⟨p, 1, none⟩ (.slice (some ⟨b, off, none⟩) N cc) ∨ w' = (W.setCell ⟨p, 1, none⟩ (.slice (some ⟨b, off, none⟩) N cc)).drew → BTakePost p b sz g' c' l gs0 cs0 ls0 vals0 W (.returned (.slice (some ⟨g', 0, none⟩) l.length c')) w') := Lib.hid (by
    have key : BTakePost p b sz g' c' l gs0 cs0 ls0 vals0 W (.returned (.slice (some ⟨g', 0, none⟩) l.length c')) (W.setCell ⟨p, 1, none⟩ (.slice (some ⟨b, off, none⟩) N cc)) := by
      have hk : ∀ i, i ≠ p → (W.setCell ⟨p, 1, none⟩ (.slice (some ⟨b, off, none⟩) N cc)).heap[i]? = W.heap[i]? := fun i hi => heap_other W p 1 _ i hi
      have hsz : (W.setCell ⟨p, 1, none⟩ (.slice (some ⟨b, off, none⟩) N cc)).heap.size = W.heap.size := size_set W _ _
      have hdf := h.df
      have hgm : g' ∈ gs0 ++ [g'] := List.mem_append_right _ (List.mem_singleton.2 rfl)
      have hgp : g' ≠ p := fun e => hdf.2.1 (by rw [← e]; exact hgm)
      have hgb : g' ≠ b := fun e => hdf.2.2 (by rw [← e]; exact hgm)
      have hng : g' ∉ gs0 := by
        have hh := List.nodup_append.1 h.inn.nd
        exact fun hm => hh.2.2 g' hm g' (List.mem_singleton.2 rfl) rfl
      refine ⟨rfl, ⟨.slice (some ⟨b, off, none⟩) N cc, by rw [hsz]; exact hp, (World.cell?_setCell_other _ _ _ _ (by simp)).trans h.c0, World.cell?_setCell_same _ _ _ h.c1, by simp [hf1], ?_, ⟨by omega, by omega, by omega, fun j q hj => ?_, (List.nodup_append.1 h.inn.nd).1⟩, ⟨hdf.1, fun hm => hdf.2.1 (List.mem_append_left _ hm), fun hm => hdf.2.2 (List.mem_append_left _ hm)⟩, ⟨hbig.1, hbig.2.1, by omega, by
        have := hbig.2.2.2
        simp only [List.map_append, List.sum_append_nat] at this
        omega⟩, fun _ => by
        obtain ⟨o, u, ho⟩ := h.kc (by simp)
        exact ⟨o, u, (World.cell?_of_block (hk b (Ne.symm hdf.1))).trans ho⟩⟩, hrow.keep (Nat.le_of_eq hsz.symm) (hk g' hgp), hng, hgp, hgb, hsz, hk, (Below.refl _ _).setCell (Nat.le_refl p) _⟩
      · obtain ⟨A, k, hv, h1, h2, h3, h4, h5⟩ := h.out
        injection hv with hA hn hcap
        subst hA hcap
        refine ⟨_, cc, by rw [hN], by omega, by omega, h3, fun q hq => h4 q (List.mem_append_left _ hq), ?_⟩
        rcases h5 with ⟨h5, -⟩ | ⟨off', h5, h6, h7, h8⟩
        · cases h5
        · injection h5 with h5
          injection h5 with _ h5 _
          subst h5
          exact .inr ⟨off, rfl, by rw [hsz]; exact h6, fun j q hq => (World.cell?_of_block (hk b (Ne.symm hdf.1))).trans (h7 j q (by rw [List.getElem?_append_left (List.getElem?_eq_some_iff.1 hq).1]; exact hq)), fun i hi => ⟨by rw [World.cell?_of_block (hk b (Ne.symm hdf.1))]; exact (h8 i hi).1, (World.frozen?_of_block (hk b (Ne.symm hdf.1))).trans (h8 i hi).2⟩⟩
      · have hjl : j < ls0.length := (List.getElem?_eq_some_iff.1 hj).1
        obtain ⟨gg, kk, a1, a2, a3, a4⟩ := h.inn.at_ j q (by rw [List.getElem?_append_left hjl]; exact hj)
        rw [List.getElem?_append_left (by omega)] at a1 a2 a3
        exact ⟨gg, kk, a1, a2, a3, a4.keep (Nat.le_of_eq hsz.symm) (hk gg (fun e => hdf.2.1 (by rw [← e]; exact List.mem_append_left _ (List.mem_of_getElem? a1))))⟩
    rintro w' (rfl | rfl)
    · exact key
    · obtain ⟨k1, ⟨v', k2⟩, k3, k4, k5, k6, k7, k8, k9⟩ := key
      exact ⟨k1, ⟨v', k2.below (Below.refl _ _).drew⟩, k3.keep (Nat.le_refl _) rfl, k4, k5, k6, k7, k8, k9.drew⟩)
  have hN5 : N ≤ 100000 := by omega
  have hNc : N + 1 ≤ cc := by omega
  have w1 : IntKind.i64.wrap (((N + 1 : Nat) : Int) - 1) = (N : Int) := by rw [IntWalk.i64_in _ (by omega)]; omega
  obtain ⟨N1, hN1⟩ : ∃ N1, N + 1 = N1 := ⟨_, rfl⟩
  rw [hN1] at c1 w1 hNc
  have g1 : (N : Int) < (N1 : Int) := by omega
  have g2 : (0 : Int) ≤ (N : Int) := by omega
  have g3 : ¬ (N1 : Int) = 0 := by omega
  have g3' : ((N1 : Int) == 0) = false := by simpa using g3
  have g4 : (N : Int) ≤ (cc : Int) := by omega
  clear h hrow hcell hbig hlg hlc hlv e1 e2 e3 hN hnc HND H
  go_enter Try.func6, Try.ntmps6
  go_upto_region 3 with (fail)
  have hcN : ∀ w' : World, Below W.heap.size W w' → w'.cell? ⟨p, 1, none⟩ = some (.slice (some ⟨b, off, none⟩) N1 cc) ∧ w'.cell? ⟨b, off + N, none⟩ = some (.slice (some ⟨g', 0, none⟩) l.length c') := fun w' hb' => ⟨(hb'.cell (p := ⟨p, 1, none⟩) hp).trans c1, (hb'.cell (p := ⟨b, off + N, none⟩) hb).trans hlast⟩
  have HCN := Lib.hid hcN
  clear hcN
  have HTAKE := Lib.hid (fun (w' : World) (hb' : Below W.heap.size W w') => HCN.out w' hb')
  refine wp_region_held_drew (S := fun w' => Below W.heap.size W w') (by kernel_rfl) ?_ (fun hHeld => ?_)
  · exact (Below.refl _ _).drew
  refine wpAnyH_take (i := 0) (v := ?_) rfl (by kernel_rfl) (by kernel_rfl) (by kernel_rfl) (fun _ _ _ h => h) (Or.inl ⟨by kernel_rfl, ?_⟩) (by assumption) ?_
  rotate_left
  · (intro w hSw; (try dsimp only at hSw); (try have hTk := Hid.out HTAKE _ hSw); go_simp)
    try (with_reducible rfl)
  rotate_left
  try simp (maxSteps := 4000000) only [Act.put, List.setIfInBounds_toArray, List.set_cons_zero, List.set_cons_succ, List.getElem_toArray, List.getElem_cons_zero, List.getElem_cons_succ]
  refine wpAnyH_take (i := 1) (v := ?_) rfl (by kernel_rfl) (by kernel_rfl) (by kernel_rfl) (fun _ _ _ h => h) (Or.inl ⟨by kernel_rfl, ?_⟩) (by assumption) ?_
  rotate_left
  · (intro w hSw; (try dsimp only at hSw); (try have hTk := Hid.out HTAKE _ hSw); go_simp)
    try (with_reducible rfl)
  rotate_left
  try simp (maxSteps := 4000000) only [Act.put, List.setIfInBounds_toArray, List.set_cons_zero, List.set_cons_succ, List.getElem_toArray, List.getElem_cons_zero, List.getElem_cons_succ]
  refine wpAnyH_take (i := 2) (v := ?_) rfl (by kernel_rfl) (by kernel_rfl) (by kernel_rfl) (fun _ _ _ h => h) (Or.inl ⟨by kernel_rfl, ?_⟩) (by assumption) ?_
  rotate_left
  · (intro w hSw; (try dsimp only at hSw); (try have hTk := Hid.out HTAKE _ hSw); go_simp)
    try (with_reducible rfl)
  rotate_left
  try simp (maxSteps := 4000000) only [Act.put, List.setIfInBounds_toArray, List.set_cons_zero, List.set_cons_succ, List.getElem_toArray, List.getElem_cons_zero, List.getElem_cons_succ]
  refine wpAnyH_take (i := 3) (v := ?_) rfl (by kernel_rfl) (by kernel_rfl) (by kernel_rfl) (fun _ _ _ h => h) (Or.inl ⟨by kernel_rfl, ?_⟩) (by assumption) ?_
  rotate_left
  · (intro w hSw; (try dsimp only at hSw); (try have hTk := Hid.out HTAKE _ hSw); go_simp)
    try (with_reducible rfl)
  rotate_left
  try simp (maxSteps := 4000000) only [Act.put, List.setIfInBounds_toArray, List.set_cons_zero, List.set_cons_succ, List.getElem_toArray, List.getElem_cons_zero, List.getElem_cons_succ]
  refine wpAnyH_take (i := 4) (v := ?_) rfl (by kernel_rfl) (by kernel_rfl) (by kernel_rfl) (fun _ _ _ h => h) (Or.inl ⟨by kernel_rfl, ?_⟩) (by assumption) ?_
  rotate_left
  · (intro w hSw; (try dsimp only at hSw); (try have hTk := Hid.out HTAKE _ hSw); go_simp)
    try (with_reducible rfl)
  rotate_left
  try simp (maxSteps := 4000000) only [Act.put, List.setIfInBounds_toArray, List.set_cons_zero, List.set_cons_succ, List.getElem_toArray, List.getElem_cons_zero, List.getElem_cons_succ]
  refine wpAnyH_take (i := 5) (v := ?_) rfl (by kernel_rfl) (by kernel_rfl) (by kernel_rfl) (fun _ _ _ h => h) (Or.inl ⟨by kernel_rfl, ?_⟩) (by assumption) ?_
  rotate_left
  · (intro w hSw; (try dsimp only at hSw); (try have hTk := Hid.out HTAKE _ hSw); go_simp)
    try (with_reducible rfl)
  rotate_left
  try simp (maxSteps := 4000000) only [Act.put, List.setIfInBounds_toArray, List.set_cons_zero, List.set_cons_succ, List.getElem_toArray, List.getElem_cons_zero, List.getElem_cons_succ]
  refine wpAnyH_take (i := 6) (v := ?_) rfl (by kernel_rfl) (by kernel_rfl) (by kernel_rfl) (fun _ _ _ h => h) (Or.inl ⟨by kernel_rfl, ?_⟩) (by assumption) ?_
  rotate_left
  · (intro w hSw; (try dsimp only at hSw); (try have hTk := Hid.out HTAKE _ hSw); go_simp)
    try (with_reducible rfl)
  rotate_left
  try simp (maxSteps := 4000000) only [Act.put, List.setIfInBounds_toArray, List.set_cons_zero, List.set_cons_succ, List.getElem_toArray, List.getElem_cons_zero, List.getElem_cons_succ]
  refine wpAnyH_take (i := 7) (v := ?_) rfl (by kernel_rfl) (by kernel_rfl) (by kernel_rfl) (fun _ _ _ h => h) (Or.inl ⟨by kernel_rfl, ?_⟩) (by assumption) ?_
  rotate_left
  · (intro w hSw; (try dsimp only at hSw); (try have hTk := Hid.out HTAKE _ hSw); go_simp)
    try (with_reducible rfl)
  rotate_left
  try simp (maxSteps := 4000000) only [Act.put, List.setIfInBounds_toArray, List.set_cons_zero, List.set_cons_succ, List.getElem_toArray, List.getElem_cons_zero, List.getElem_cons_succ]
  refine wpAnyH_take (i := 8) (v := ?_) rfl (by kernel_rfl) (by kernel_rfl) (by kernel_rfl) (fun _ _ _ h => h) (Or.inl ⟨by kernel_rfl, ?_⟩) (by assumption) ?_
  rotate_left
  · (intro w hSw; (try dsimp only at hSw); (try have hTk := Hid.out HTAKE _ hSw); go_simp)
    try (with_reducible rfl)
  rotate_left
  try simp (maxSteps := 4000000) only [Act.put, List.setIfInBounds_toArray, List.set_cons_zero, List.set_cons_succ, List.getElem_toArray, List.getElem_cons_zero, List.getElem_cons_succ]
  refine wpAnyH_take (i := 9) (v := ?_) rfl (by kernel_rfl) (by kernel_rfl) (by kernel_rfl) (fun _ _ _ h => h) (Or.inl ⟨by kernel_rfl, ?_⟩) (by assumption) ?_
  rotate_left
  · (intro w hSw; (try dsimp only at hSw); (try have hTk := Hid.out HTAKE _ hSw); go_simp)
    try (with_reducible rfl)
  rotate_left
  try simp (maxSteps := 4000000) only [Act.put, List.setIfInBounds_toArray, List.set_cons_zero, List.set_cons_succ, List.getElem_toArray, List.getElem_cons_zero, List.getElem_cons_succ]
  refine wpAnyH_take (i := 10) (v := ?_) rfl (by kernel_rfl) (by kernel_rfl) (by kernel_rfl) (fun _ _ _ h => h) (Or.inl ⟨by kernel_rfl, ?_⟩) (by assumption) ?_
  rotate_left
  · (intro w hSw; (try dsimp only at hSw); (try have hTk := Hid.out HTAKE _ hSw); go_simp)
    try (with_reducible rfl)
  rotate_left
  try simp (maxSteps := 4000000) only [Act.put, List.setIfInBounds_toArray, List.set_cons_zero, List.set_cons_succ, List.getElem_toArray, List.getElem_cons_zero, List.getElem_cons_succ]
  refine wpAnyH_take (i := 11) (v := ?_) rfl (by kernel_rfl) (by kernel_rfl) (by kernel_rfl) (fun _ _ _ h => h) (Or.inl ⟨by kernel_rfl, ?_⟩) (by assumption) ?_
  rotate_left
  · (intro w hSw; (try dsimp only at hSw); (try have hTk := Hid.out HTAKE _ hSw); go_simp)
    try (with_reducible rfl)
  rotate_left
  try simp (maxSteps := 4000000) only [Act.put, List.setIfInBounds_toArray, List.set_cons_zero, List.set_cons_succ, List.getElem_toArray, List.getElem_cons_zero, List.getElem_cons_succ]
  refine wpAnyH_take (i := 12) (v := ?_) rfl (by kernel_rfl) (by kernel_rfl) (by kernel_rfl) (fun _ _ _ h => h) (Or.inl ⟨by kernel_rfl, ?_⟩) (by assumption) ?_
  rotate_left
  · (intro w hSw; (try dsimp only at hSw); (try have hTk := Hid.out HTAKE _ hSw); go_simp)
    try (with_reducible rfl)
  rotate_left
  try simp (maxSteps := 4000000) only [Act.put, List.setIfInBounds_toArray, List.set_cons_zero, List.set_cons_succ, List.getElem_toArray, List.getElem_cons_zero, List.getElem_cons_succ]
  refine wpAnyH_done (by kernel_rfl) ?_ _
  clear hHeld HTAKE
  have d1 : W.drew.cell? ⟨p, 1, none⟩ = some (.slice (some ⟨b, off, none⟩) N1 cc) := c1
  have d2 : W.drew.frozen? ⟨p, 1, none⟩ = false := hf1
  have d3 : p < W.drew.heap.size := hp
  have HF2 : Hid (∀ w' : World, w' = (W.drew.setCell ⟨p, 1, none⟩ (.slice (some ⟨b, off, none⟩) N cc)).drew ∨ w' = W.drew.setCell ⟨p, 1, none⟩ (.slice (some ⟨b, off, none⟩) N cc) → BTakePost p b sz g' c' l gs0 cs0 ls0 vals0 W (.returned (.slice (some ⟨g', 0, none⟩) l.length c')) w') := Lib.hid (by
    obtain ⟨k1, ⟨v', k2⟩, k3, k4, k5, k6, k7, k8, k9⟩ := HFIN.out _ (.inr rfl)
    rintro w' (rfl | rfl)
    · exact ⟨k1, ⟨v', k2.below (Below.refl _ _).drew⟩, k3.keep (Nat.le_refl _) rfl, k4, k5, k6, k7, k8, k9.drew⟩
    · exact ⟨k1, ⟨v', k2⟩, k3, k4, k5, k6, k7, k8, k9⟩)
  clear HFIN HCN hlast hb c1 hf1 hp
  generalize W.drew = w4 at *
  go_upto_region 4 with (fail)
  go_region
  go_wp2_with fail
  go_ret
  exact HF2.out _ (by first | exact .inl rfl | exact .inr rfl)
end Go.Proofs.Ytokdjonnblbegaa
