/- Contracts of package batch: List. -/
import Derived.Test.YtokdjonnblbegaaBaH
import Derived.Deep.RegionHeld3
import Derived.Lib.AppendZerosOnto
import Derived.Lib.SliceRun
import Derived.Deep.DeepCutAuto
namespace Go.Proofs.Ytokdjonnblbegaa
set_option maxRecDepth 100000
open Go.RowKit
set_option linter.unusedVariables false
set_option linter.unusedSimpArgs false

theorem tyI : TyOK 3 26 1 8 (.int .i64 0) := ⟨Try.underlying26, by kernel_rfl, rfl, by decide, by decide⟩
def NewPost (W : World) (l : List Int) (e : Ending) (w' : World) : Prop :=
  ∃ r g, e = .returned r ∧ W.heap.size ≤ g ∧ VZ 1 g w' r l.length (l.map (Value.int .i64)) ∧ Below W.heap.size W w'
theorem vz_zeros (W : World) (E : TypeId) (z : Value) (m k : Nat) (c : Nat) (hz : z.cells.size = 1) (hc : c ≤ m + k) (hc2 : c ≤ 9223372036854775807) : VZ 1 W.heap.size (W.drew.alloc (.cells (([] : List Value).toArray ++ Builtin.zeroCells z.cells m ++ Builtin.zeroCells z.cells k) E)) (.slice (some ⟨W.heap.size, 0, none⟩) 0 c) 0 [] := by
  have hh : (W.drew.alloc (.cells (([] : List Value).toArray ++ Builtin.zeroCells z.cells m ++ Builtin.zeroCells z.cells k) E)).heap[W.heap.size]? = _ := heap_alloc_new W.drew (.cells (([] : List Value).toArray ++ Builtin.zeroCells z.cells m ++ Builtin.zeroCells z.cells k) E)
  have hsz : (([] : List Value).toArray ++ Builtin.zeroCells z.cells m ++ Builtin.zeroCells z.cells k).size = m + k := by
    simp only [Array.size_append, List.size_toArray, size_zeroCells, hz, List.length_nil]
    omega
  generalize (([] : List Value).toArray ++ Builtin.zeroCells z.cells m ++ Builtin.zeroCells z.cells k) = cur at *
  refine ⟨_, c, rfl, rfl, Nat.zero_le _, hc2, by simp, .inr ⟨0, rfl, by simp, fun j u hu => by simp at hu, fun i hi => ?_⟩⟩
  have hlt : 0 + i < cur.size := by omega
  refine ⟨?_, by simp only [World.frozen?, hh]; simp⟩
  rw [cell_of_row _ W.heap.size (0 + i) cur E (0, 0) hh, Array.getElem?_eq_getElem hlt]
  rfl
theorem grow0 (n : Nat) (hn : n ≤ 100000) (W : World) : Calls Try.prog 23 #[.slice none 0 0, .int .i64 n] W (NewPost W []) := by
  have h1 : ¬ (n : Int) < 0 := by omega
  rcases Nat.eq_zero_or_pos n with rfl | hpos
  · go_enter Try.func23, Try.ntmps23
    go_wp2
    go_ret
    exact ⟨_, W.heap.size, rfl, Nat.le_refl _, vz_nil _ _ _, Below.refl _ _⟩
  · obtain ⟨i0, hi0, hz0, hz1, hz2⟩ := info_parts tyI.inf
    have hrz : ∀ ty, (Builtin.append_ #[26, 3] ty #[.slice none 0 0, .int .i64 (n : Int)]).run Try.prog W =
      .ok (.slice (some ⟨W.heap.size, 0, none⟩) n (grownCap W n 0 3)) (W.drew.alloc (.cells (([] : List Value).toArray ++ Builtin.zeroCells (Value.int .i64 0).cells n ++ Builtin.zeroCells (Value.int .i64 0).cells (grownCap W n 0 3 - n)) 3)) := fun ty => by
      have h := Lib.run_append_grow_zeros (P := Try.prog) W 26 3 ty 3 i0 (.int .i64 0) .i64 .i64 Try.underlying26 Try.underlying3 hi0 hz0 none 0 0 [] (run_firstCells_none W.drew i0.size 0 0 0) n hpos (by omega) (by omega) (by omega) (by rw [hz2]; omega) (by rw [hz2]; exact growslice_fits (by omega) (by omega))
      rw [Nat.zero_add] at h
      exact h
    have hge := grownCap_ge W n 0 3
    have hcm := grownCap_le_maxLen W n 0 3 (by unfold maxLen; omega)
    have hvz := vz_zeros W 3 (.int .i64 0) n (grownCap W n 0 3 - n) (grownCap W n 0 3) rfl (by omega) (by unfold maxLen at hcm; omega)
    have hbel : Below W.heap.size W (W.drew.alloc (.cells (([] : List Value).toArray ++ Builtin.zeroCells (Value.int .i64 0).cells n ++ Builtin.zeroCells (Value.int .i64 0).cells (grownCap W n 0 3 - n)) 3)) := ((Below.refl _ W).drew).alloc (Nat.le_refl _) _
    generalize (W.drew.alloc (.cells (([] : List Value).toArray ++ Builtin.zeroCells (Value.int .i64 0).cells n ++ Builtin.zeroCells (Value.int .i64 0).cells (grownCap W n 0 3 - n)) 3)) = w9 at *
    have HB := Lib.hid hbel
    have HV := Lib.hid hvz
    have h2 : (n : Int) - (0 - 0) > 0 := by omega
    have h3 : (0 : Int) < n := by omega
    have h4 : n ≤ 9223372036854775807 := by omega
    clear hbel hvz hcm
    generalize grownCap W n 0 3 = G at *
    have h5 : (0 : Int) ≤ (G : Int) := by omega
    go_enter Try.func23, Try.ntmps23
    go_wp2_with (at_builtin; refine Lib.wpList_append_run _ rfl _ _ _ _ rfl _ _ rfl rfl _ _ (hrz _) ?_)
    go_ret
    exact ⟨_, _, rfl, Nat.le_refl _, HV.out, HB.out⟩
def catL (ls : List (List Int)) (j : Nat) : List Int := (ls.take j).flatten
theorem catL_next {ls : List (List Int)} {j : Nat} {l : List Int} (h : ls[j]? = some l) : catL ls (j + 1) = catL ls j ++ l := by
  unfold catL
  rw [List.take_add_one, h]
  simp
theorem catL_len (ls : List (List Int)) (j : Nat) : (catL ls j).length = sumL ls j := by
  unfold catL sumL
  rw [List.length_flatten]
section
variable {p b sz : Nat} {v : Value} {gs cs : List Nat} {ls : List (List Int)} {vals : List Value} {W : World}
set_option maxHeartbeats 1600000 in
theorem bconcat (h : BT p b sz v gs cs ls vals W) : Calls Try.prog 19 #[v] W (NewPost W ls.flatten) := by
  have H := Lib.hid h
  have hbig := h.big
  obtain ⟨n, hn⟩ : ∃ n, ls.length = n := ⟨_, rfl⟩
  have HNN := Lib.hid hn
  have hn5 : n ≤ 100000 := by omega
  rcases h.open_ with ⟨rfl, rfl⟩ | ⟨off, c, rfl, hb, hnc, hc63, hcell⟩
  · clear h hbig hn hn5 HNN H
    go_enter Try.func19, Try.ntmps19
    go_wp2_with fail
    go_loopw [3, 11] (fun v3 v11 wr => v3 = .int .i64 0 ∧ v11 = .int .i64 0 ∧ W = wr) (fun _ _ _ => 0)
    case atStart => exact ⟨rfl, rfl, rfl⟩
    case round =>
      obtain ⟨rfl, rfl, rfl⟩ := hrel
      go_wp2_with fail
      refine (grow0 0 (by omega) _).mono ?_
      rintro e w1 ⟨r, g, rfl, hg, hv, hb1⟩
      have HV := Lib.hid hv
      have HB1 := Lib.hid hb1
      clear hv hb1
      go_wp2_with fail
      go_loopw [6, 27] (fun v6 v27 wo => v6 = r ∧ v27 = .int .i64 0 ∧ w1 = wo) (fun _ _ _ => 0)
      case atStart => exact ⟨rfl, rfl, rfl⟩
      case round =>
        obtain ⟨rfl, rfl, rfl⟩ := hrel
        go_wp2_with fail
        go_ret
        exact ⟨_, g, rfl, hg, HV.out, HB1.out⟩
  · have HCELL := Lib.hid hcell
    have HBW := Lib.hid hb
    rw [hn]
    clear h hcell hn hnc hc63 hbig hb
    go_enter Try.func19, Try.ntmps19
    go_wp2_with fail
    go_loopw [3, 11] (fun v3 v11 wr => ∃ j : Nat, j ≤ n ∧ v11 = .int .i64 j ∧ v3 = .int .i64 ((sumL ls j : Nat) : Int) ∧ W = wr) (fun _ v11 _ => n - (intOf v11).toNat)
    case atStart => exact ⟨0, by omega, rfl, rfl, rfl⟩
    case round =>
      obtain ⟨j, hj, rfl, rfl, rfl⟩ := hrel
      obtain ⟨s, hs⟩ : ∃ s, sumL ls j = s := ⟨_, rfl⟩
      have HS := Lib.hid hs
      have hs9 : s ≤ 100000 := by rw [← hs]; have := sumL_le ls j; have := H.out.big; omega
      rw [hs]
      clear hs
      by_cases hlt : j < n
      · have hltI : (j : Int) < (n : Int) := by omega
        have hgeI : (0 : Int) ≤ (j : Int) := by omega
        have HLT := Lib.hid hlt
        obtain ⟨l, hl⟩ : ∃ l, ls[j]? = some l := ⟨ls[j]'(by have := HNN.out; omega), List.getElem?_eq_getElem _⟩
        obtain ⟨g, cc, -, -, e3, hr⟩ := H.out.inn.at_ j l hl
        have cj := HCELL.out j _ e3
        have HSN := Lib.hid (sumL_next hl)
        obtain ⟨k, hk⟩ : ∃ k, l.length = k := ⟨_, rfl⟩
        rw [hk] at cj HSN
        have hk9 : s + k ≤ 100000 := by
          have h1 := sumL_le ls (j + 1)
          have h2 := H.out.big
          have h3 := HSN.out
          have h4 := HS.out
          omega
        have hk8 : ¬ (s : Int) + (k : Int) < 0 := by omega
        clear e3 hr hk hl hlt hj
        go_wp2_with fail
        go_roundw
        case rel => exact ⟨j + 1, by have := HLT.out; omega, by go_num, by rw [HSN.out, HS.out]; go_num, trivial⟩
        case measure => simp [intOf]; have := HLT.out; omega
      · obtain rfl : j = n := by omega
        have hltI : ¬ (j : Int) < (j : Int) := by omega
        have HFIN : Hid (s = (ls.map List.length).sum) := Lib.hid (by rw [← HS.out, ← HNN.out]; exact sumL_all ls)
        clear hlt hj
        go_wp2_with fail
        refine (grow0 s hs9 _).mono ?_
        rintro e w1 ⟨r, g, rfl, hg, hv, hb1⟩
        have HV := Lib.hid hv
        have HB1 := Lib.hid hb1
        have HG := Lib.hid hg
        clear hv hb1 hg
        go_wp2_with fail
        go_loopw [6, 27] (fun v6 v27 wo => ∃ (i : Nat) (g : Nat), i ≤ j ∧ v27 = .int .i64 i ∧ W.heap.size ≤ g ∧ Hid (VZ 1 g wo v6 (sumL ls i) ((catL ls i).map (Value.int .i64))) ∧ Hid (Below W.heap.size W wo)) (fun _ v27 _ => j - (intOf v27).toNat)
        case atStart => exact ⟨0, g, by omega, rfl, HG.out, HV, HB1⟩
        case round =>
          rename World => wo
          obtain ⟨i, g2, hi, rfl, hg2, HV2, HB2⟩ := hrel
          by_cases hlt : i < j
          · have hltI : (i : Int) < (j : Int) := by omega
            have hgeI : (0 : Int) ≤ (i : Int) := by omega
            have HLT := Lib.hid hlt
            obtain ⟨l, hl⟩ : ∃ l, ls[i]? = some l := ⟨ls[i]'(by have := HNN.out; omega), List.getElem?_eq_getElem _⟩
            obtain ⟨gl, cc, -, -, e3, hr⟩ := H.out.inn.at_ i l hl
            have ci := (HB2.out.cell (p := ⟨b, off + i, none⟩) HBW.out).trans (HCELL.out i _ e3)
            have HSN := Lib.hid (sumL_next hl)
            have HCN := Lib.hid (catL_next hl)
            have HRW := Lib.hid hr
            have hk9 : sumL ls i + l.length ≤ 100000 := by
              have h1 := sumL_le ls (i + 1)
              have h2 := H.out.big
              have h3 := HSN.out
              omega
            obtain ⟨k, hk⟩ : ∃ k, l.length = k := ⟨_, rfl⟩
            rw [hk] at ci hk9
            have HK := Lib.hid hk
            have hkp : 0 < k := by rw [← hk]; exact hr.2.1
            clear e3 hr hk hl hlt hi
            go_wp2_with (at_builtin; refine app_vz tyI rfl _ _ rfl g2 _ (sumL ls i) ((catL ls i).map (Value.int .i64)) rfl HV2.out ⟨gl, 0, none⟩ k cc (l.map (Value.int .i64)) rfl ?q1 ?q2 ?q3 (.inl hkp) (by omega) ?_)
            case q1 => rw [List.length_map, HK.out, Nat.mul_one]
            case q2 =>
              intro q u hu
              rw [addp]
              rw [List.getElem?_map] at hu
              obtain ⟨y, hy, rfl⟩ := Option.map_eq_some_iff.1 hu
              have h5 := HRW.out.2.2.2.2.1 q y hy
              have := (HB2.out.cell (p := ⟨gl, q, none⟩) HRW.out.1).trans h5
              rw [Nat.zero_add]
              exact this
            case q3 =>
              intro u hu
              obtain ⟨y, -, rfl⟩ := List.mem_map.1 hu
              rfl
            rintro v' w' ⟨b', hb', hv', hs', ho', hl'⟩
            have HV6 : Hid (VZ 1 b' w' v' (sumL ls (i + 1)) ((catL ls (i + 1)).map (Value.int .i64))) := Lib.hid (by rw [HSN.out, HCN.out, List.map_append, HK.out]; exact hv')
            have HB6 : Hid (Below W.heap.size W w') := Lib.hid (HB2.out.trans (hl' _ hg2 HB2.out.size))
            have hb6 : W.heap.size ≤ b' := by
              rcases hb' with rfl | h
              · exact hg2
              · have := HB2.out.size; omega
            clear hb' hv' hs' ho' hl'
            go_wp2_with fail
            go_roundw
            case rel => exact ⟨i + 1, b', by have := HLT.out; omega, by go_num, hb6, HV6, HB6⟩
            case measure => simp [intOf]; have := HLT.out; omega
          · obtain rfl : i = j := by omega
            have hltI : ¬ (i : Int) < (i : Int) := by omega
            have HEND : Hid (VZ 1 g2 wo _ ls.flatten.length (ls.flatten.map (Value.int .i64))) := Lib.hid (by
              have h9 := HV2.out
              rw [← catL_len] at h9
              unfold catL at h9
              rw [← HNN.out, List.take_length] at h9
              exact h9)
            clear hlt hi HV2
            go_wp2_with fail
            go_ret
            exact ⟨_, g2, rfl, hg2, HEND.out, HB2.out⟩
theorem blist (h : BT p b sz v gs cs ls vals W) : Calls Try.prog 9 #[.pointer (some ⟨p, 0, none⟩)] W (NewPost W ls.flatten) := by
  have c1 := h.c1
  have HC := Lib.hid (bconcat h)
  clear h
  go_enter Try.func9, Try.ntmps9
  go_wp2_with fail
  refine HC.out.mono ?_
  rintro e w1 ⟨r, g, rfl, hg, hv, hb⟩
  have HV := Lib.hid hv
  have HB := Lib.hid hb
  clear hv hb
  go_wp2_with fail
  go_ret
  exact ⟨_, g, rfl, hg, HV.out, HB.out⟩
end
theorem nblist (W : World) : Calls Try.prog 9 #[.pointer none] W fun e w' => e = .returned (.slice none 0 0) ∧ W = w' := by
  go_enter Try.func9, Try.ntmps9
  go_wp2
  go_ret
  exact ⟨rfl, rfl⟩
theorem nbwithout (v : Value) (W : World) : Calls Try.prog 8 #[.pointer none, v] W fun e w' => e = .returned (.int .i64 0) ∧ W = w' := by
  go_enter Try.func8, Try.ntmps8
  go_wp2
  go_ret
  exact ⟨rfl, rfl⟩
theorem nbgive (v : Value) (W : World) : Calls Try.prog 5 #[.pointer none, v] W fun e w' => e = .returned (.tuple #[]) ∧ Below W.heap.size W w' := by
  go_enter Try.func5, Try.ntmps5
  go_wp2_with fail
  refine bodyPost_ret (v := .tuple #[]) (by simp [results, Try.results5, go_sem]) rfl ⟨rfl, alc0 _ _⟩
end Go.Proofs.Ytokdjonnblbegaa
