/- BatchPlays: the statement's own lists, same, awake. -/
import Derived.Test.YtokdjonnblbegaaBaK
import Derived.Deep.RegionHeld3
import Derived.Deep.DeepCutAuto
import Derived.RegionTactic
import Derived.BigRegion
namespace Go.Proofs.Ytokdjonnblbegaa
set_option maxRecDepth 100000
open Go.RowKit Go.Maps
set_option linter.unusedVariables false
set_option linter.unusedSimpArgs false

/-- A row of numbers. -/
def RV (g : Nat) (W : World) (v : Value) (xs : List Int) : Prop := VZ 1 g W v xs.length (xs.map (Value.int .i64))
theorem RV.open_ {g : Nat} {W : World} {v : Value} {xs : List Int} (h : RV g W v xs) : (v = .slice none 0 0 ∧ xs = []) ∨ ∃ off c, v = .slice (some ⟨g, off, none⟩) xs.length c ∧ g < W.heap.size ∧ xs.length ≤ c ∧ c ≤ 9223372036854775807 ∧ ∀ (j : Nat) (x : Int), xs[j]? = some x → W.cell? ⟨g, off + j, none⟩ = some (.int .i64 x) := by
  obtain ⟨A, c, rfl, h1, h2, h3, h4, ⟨rfl, h5, rfl⟩ | ⟨off, rfl, hl, hc, hsp⟩⟩ := h
  · exact .inl ⟨by rw [h5], List.length_eq_zero_iff.1 h5⟩
  · exact .inr ⟨off, c, rfl, hl, h2, h3, fun j x hj => hc j _ (by rw [List.getElem?_map, hj]; rfl)⟩
theorem RV.below {g : Nat} {W W' : World} {v : Value} {xs : List Int} (h : RV g W v xs) (hb : Below W.heap.size W W') : RV g W' v xs := VZ.below h hb
theorem BRw.rv {g c : Nat} {W : World} {l : List Int} (h : BRw g c W l) : RV g W (.slice (some ⟨g, 0, none⟩) l.length c) l := by
  obtain ⟨h1, h2, h3, h4, h5, h6⟩ := h
  refine ⟨_, c, rfl, by simp, h3, h4, fun u hu => ?_, .inr ⟨0, rfl, h1, fun j u hu => ?_, fun i hi => by rw [Nat.zero_add]; exact h6 i (by omega)⟩⟩
  · obtain ⟨y, -, rfl⟩ := List.mem_map.1 hu
    rfl
  · rw [List.getElem?_map] at hu
    obtain ⟨y, hy, rfl⟩ := Option.map_eq_some_iff.1 hu
    rw [Nat.zero_add]
    exact h5 j y hy
set_option maxHeartbeats 1600000 in
theorem bsame {ga gb : Nat} {va vb : Value} {xs : List Int} {W : World} (ha : RV ga W va xs) (hb : RV gb W vb xs) (hn : xs.length ≤ 100000) : Calls Try.prog 7 #[va, vb] W fun e w' => e = .returned (.bool true) ∧ Below W.heap.size W w' := by
  obtain ⟨n, hN⟩ : ∃ n, xs.length = n := ⟨_, rfl⟩
  rw [hN] at hn
  have hcase : (n = 0 ∧ ∃ A c B d, va = .slice A 0 c ∧ vb = .slice B 0 d) ∨ ∃ oa ca ob cb, va = .slice (some ⟨ga, oa, none⟩) n ca ∧ vb = .slice (some ⟨gb, ob, none⟩) n cb ∧ ga < W.heap.size ∧ gb < W.heap.size ∧ ∀ (j : Nat) (x : Int), xs[j]? = some x → W.cell? ⟨ga, oa + j, none⟩ = some (.int .i64 x) ∧ W.cell? ⟨gb, ob + j, none⟩ = some (.int .i64 x) := by
    rcases ha.open_ with ⟨rfl, rfl⟩ | ⟨oa, ca, rfl, a1, -, -, a2⟩
    · rcases hb.open_ with ⟨rfl, -⟩ | ⟨ob, cb, rfl, b1, -, -, b2⟩
      · exact .inl ⟨hN.symm, _, _, _, _, rfl, rfl⟩
      · exact .inl ⟨hN.symm, _, _, _, _, rfl, rfl⟩
    · rcases hb.open_ with ⟨rfl, rfl⟩ | ⟨ob, cb, rfl, b1, -, -, b2⟩
      · exact .inl ⟨hN.symm, _, _, _, _, rfl, rfl⟩
      · exact .inr ⟨oa, ca, ob, cb, by rw [hN], by rw [hN], a1, b1, fun j x hj => ⟨a2 j x hj, b2 j x hj⟩⟩
  clear ha hb
  rcases hcase with ⟨rfl, A, c, B, d, rfl, rfl⟩ | ⟨oa, ca, ob, cb, rfl, rfl, h1, h2, h3⟩
  · clear hN
    go_enter Try.func7, Try.ntmps7
    go_wp2_with fail
    go_loopw [5] (fun v5 wr => v5 = .int .i64 0 ∧ W = wr) (fun _ _ => 0)
    case atStart => exact ⟨rfl, rfl⟩
    case round =>
      obtain ⟨rfl, rfl⟩ := hrel
      go_wp2
      go_ret
      exact ⟨rfl, Below.refl _ _⟩
  · have H3 := Lib.hid h3
    have HN := Lib.hid hN
    have HG := Lib.hid (And.intro h1 h2)
    clear h3 hN h1 h2
    go_enter Try.func7, Try.ntmps7
    go_wp2_with fail
    go_loopw [5] (fun v5 wr => ∃ i : Nat, i ≤ n ∧ v5 = .int .i64 i ∧ Hid (Below W.heap.size W wr)) (fun v5 _ => n - (intOf v5).toNat)
    case atStart => exact ⟨0, by omega, rfl, Lib.hid (Below.refl _ _)⟩
    case round =>
      obtain ⟨i, hi, rfl, HB⟩ := hrel
      by_cases hlt : i < n
      · obtain ⟨x, hx⟩ : ∃ x, xs[i]? = some x := ⟨xs[i]'(by have := HN.out; omega), List.getElem?_eq_getElem _⟩
        have e1 := (HB.out.cell (p := ⟨ga, oa + i, none⟩) HG.out.1).trans (H3.out i x hx).1
        have e2 := (HB.out.cell (p := ⟨gb, ob + i, none⟩) HG.out.2).trans (H3.out i x hx).2
        have i1 : (i : Int) < (n : Int) := by omega
        have i2 : (0 : Int) ≤ (i : Int) := by omega
        have hxx : (x == x) = true := by simp
        have hxx2 : (x != x) = false := by simp
        clear hx
        go_upto_region 6 with (fail)
        go_region
        go_wp2
        go_roundw
        case rel => exact ⟨i + 1, by omega, by go_num, Lib.hid HB.out.drew⟩
        case measure => simp [intOf]; omega
      · obtain rfl : i = n := by omega
        have i1 : ¬ (i : Int) < (i : Int) := by omega
        go_wp2
        go_ret
        exact ⟨rfl, HB.out⟩
theorem snoc_of_len {α : Type} {l : List α} {n : Nat} (h : l.length = n + 1) : ∃ l0 x, l = l0 ++ [x] := ⟨_, _, (List.dropLast_concat_getLast (fun e => by rw [e] at h; simp at h)).symm⟩
theorem BT.last {p b sz : Nat} {v : Value} {gs cs : List Nat} {ls : List (List Int)} {l : List Int} {vals : List Value} {W : World} (h : BT p b sz v gs cs (ls ++ [l]) vals W) : ∃ gs0 g cs0 c vals0 u, gs = gs0 ++ [g] ∧ cs = cs0 ++ [c] ∧ vals = vals0 ++ [u] := by
  obtain ⟨gs0, g, e1⟩ := snoc_of_len (n := ls.length) (h.inn.lg.trans (by simp))
  obtain ⟨cs0, c, e2⟩ := snoc_of_len (n := ls.length) (h.inn.lc.trans (by simp))
  obtain ⟨vals0, u, e3⟩ := snoc_of_len (n := ls.length) (h.inn.lv.trans (by simp))
  exact ⟨gs0, g, cs0, c, vals0, u, e1, e2, e3⟩
theorem BGV.mk {p sz B b : Nat} {gs : List Nat} {ls : List (List Int)} {V : World} (h : BGV p sz B b gs ls V) : ∃ b' v' gs' cs' vals', BT p b' sz v' gs' cs' ls vals' V := by
  obtain ⟨b', v', gs', cs', vals', h, -⟩ := h
  exact ⟨b', v', gs', cs', vals', h⟩
theorem w24awake (W : World) : Calls Try.prog 11 #[] W fun e w' => e = .returned (.bool true) ∧ Below W.heap.size W w' := by
  go_enter Try.func11, Try.ntmps11
  go_wp2_with fail
  refine (bnew 2 2 (by decide) _).mono ?_
  rintro e w1 ⟨rfl, hT, hb1⟩
  have HT := Lib.hid (hT.rebase (b2 := w1.heap.size + 100) (by have := hT.lt; omega))
  have HB1 := Lib.hid hb1
  have hp := hT.lt
  clear hT hb1
  go_wp2_with fail
  obtain ⟨w2, hw2⟩ : ∃ w2, w1.alloc (.cells #[.int .i64 1, .int .i64 2, .int .i64 3] 3) = w2 := ⟨_, rfl⟩
  have hb2 : Below w1.heap.size w1 w2 := by rw [← hw2]; exact alc0 _ _
  have hs2 : w2.heap.size = w1.heap.size + 1 := by rw [← hw2]; simp
  have hc2 : ∀ (i : Nat) (x : Int), [1, 2, 3][i]? = some x → w2.cell? ⟨w1.heap.size, 0 + i, none⟩ = some (.int .i64 x) := by
    intro i x hx
    rw [← hw2]
    rcases i with _ | _ | _ | i
    · obtain rfl : (1 : Int) = x := by simpa using hx
      simp
    · obtain rfl : (2 : Int) = x := by simpa using hx
      simp
    · obtain rfl : (3 : Int) = x := by simpa using hx
      simp
    · simp at hx
  rw [hw2]
  have HT2 := Lib.hid (HT.out.below hb2)
  have HB2 : Hid (Below W.heap.size W w2) := Lib.hid (thn HB1.out hb2)
  refine (bgive_t (b0 := w1.heap.size) (o0 := 0) (zs := [1, 2, 3]) (.inr rfl) rfl hc2 (.inr ⟨by omega, by omega⟩) (by decide) (by decide) (Nat.le_refl _) (.inr rfl) HT2.out).mono ?_
  rintro e w3 ⟨rfl, ⟨b', v', gs', cs', vals', hT3, hbb, hgs⟩, hs3, hk3, ho3⟩
  have HB3 : Hid (Below W.heap.size W w3) := Lib.hid ⟨ho3.1.trans HB2.out.os, ho3.2.1.trans HB2.out.tape, ho3.2.2.trans HB2.out.output, Nat.le_trans HB2.out.size hs3, fun i hi => (hk3 i (by have := HB2.out.size; omega) (by omega) (by have := HB1.out.size; omega)).trans (HB2.out.block i hi)⟩
  clear hw2 hb2 hc2 hk3 ho3 HT HT2 HB1 HB2
  have hls : ([] ++ chL 2 [1, 2, 3] : List (List Int)) = [[1, 2]] ++ [[3]] := by rfl
  rw [hls] at hT3
  obtain ⟨gs0, g, cs0, c, vals0, u, rfl, rfl, rfl⟩ := hT3.last
  have HT3 := Lib.hid hT3
  clear hT3 hls hgs hbb
  go_wp2_with fail
  refine (btake HT3.out).mono ?_
  rintro e w4 ⟨rfl, ⟨v4, hT4⟩, hR4, -, -, -, hs4, hk4, hb4⟩
  have HT4 := Lib.hid hT4
  have e0 := hR4.2.2.2.2.1 0 3 rfl
  have HB4 : Hid (Below W.heap.size W w4) := Lib.hid (HB3.out.trans (hb4.mono (by have := HT3.out.lt; omega)))
  clear hT4 hR4 hs4 hk4 hb4
  go_wp2_with fail
  refine (blen HT4.out).mono ?_
  rintro e w5 ⟨rfl, rfl⟩
  go_wp2_with fail
  go_ret
  exact ⟨rfl, HB4.out⟩
/-- The statement's own rows. -/
structure MT (bm : Nat) (vm : Value) (gm : List Nat) (ls : List (List Int)) (mv : List Value) (W : World) : Prop where
  lt : bm < W.heap.size
  out : VZ 1 bm W vm ls.length mv
  lg : gm.length = ls.length
  lv : mv.length = ls.length
  at_ : ∀ (j : Nat) (l : List Int), ls[j]? = some l → ∃ (g : Nat) (u : Value), gm[j]? = some g ∧ mv[j]? = some u ∧ 0 < l.length ∧ RV g W u l ∧ g < W.heap.size
  df : bm ∉ gm
section
variable {bm : Nat} {vm : Value} {gm : List Nat} {ls : List (List Int)} {mv : List Value} {W W' : World}
theorem MT.keep (h : MT bm vm gm ls mv W) (hs : W.heap.size ≤ W'.heap.size) (hk : ∀ i, i < W.heap.size → (i = bm ∨ i ∈ gm) → W'.heap[i]? = W.heap[i]?) : MT bm vm gm ls mv W' := by
  refine ⟨Nat.lt_of_lt_of_le h.lt hs, h.out.keep hs (fun hb => hk bm hb (.inl rfl)), h.lg, h.lv, fun j l hj => ?_, h.df⟩
  obtain ⟨g, u, e1, e2, e3, e4, e5⟩ := h.at_ j l hj
  exact ⟨g, u, e1, e2, e3, VZ.keep e4 hs (fun hg => hk g hg (.inr (List.mem_of_getElem? e1))), Nat.lt_of_lt_of_le e5 hs⟩
theorem MT.below (h : MT bm vm gm ls mv W) (hb : Below W.heap.size W W') : MT bm vm gm ls mv W' := h.keep hb.size (fun i hi _ => hb.block i hi)
theorem MT.mem_lt (h : MT bm vm gm ls mv W) {g : Nat} (hg : g ∈ gm) : g < W.heap.size := by
  obtain ⟨j, hj⟩ := List.getElem?_of_mem hg
  have hjl : j < ls.length := by rw [← h.lg]; exact (List.getElem?_eq_some_iff.1 hj).1
  obtain ⟨g2, u, e1, -, -, -, e5⟩ := h.at_ j _ (List.getElem?_eq_getElem hjl)
  obtain rfl : g2 = g := by rw [hj] at e1; exact (Option.some.inj e1).symm
  exact e5
/-- No rows at all: a new outer row without cells. -/
theorem mt_made (W : World) (E : TypeId) : MT W.heap.size (.slice (some ⟨W.heap.size, 0, none⟩) 0 0) [] [] [] (W.alloc (.cells #[] E)) := ⟨by simp, vz_made 1 W E, rfl, rfl, fun j l h => by simp at h, by simp⟩
/-- One row more. -/
theorem MT.push {g : Nat} {u : Value} {l : List Int} {v' : Value} {w' : World} (h : MT bm vm gm ls mv W) (hr : RV g W u l) (hl : 0 < l.length) (hg : g < W.heap.size) (h3 : g ≠ bm)
    (hV : VPost 1 bm W (ls.length + 1) (mv ++ [u]) v' w') :
    ∃ bm', (bm' = bm ∨ W.heap.size ≤ bm') ∧ MT bm' v' (gm ++ [g]) (ls ++ [l]) (mv ++ [u]) w' ∧ W.heap.size ≤ w'.heap.size ∧ (∀ i, i < W.heap.size → i ≠ bm → w'.heap[i]? = W.heap[i]?) ∧ ∀ L, L ≤ bm → L ≤ W.heap.size → Below L W w' := by
  obtain ⟨b', hb', hz, hsz, hk, hL⟩ := hV
  refine ⟨b', hb', ⟨?_, by rw [List.length_append]; exact hz, by simp [h.lg], by simp [h.lv], fun j q hj => ?_, fun hm => ?_⟩, hsz, hk, hL⟩
  · obtain ⟨A, c, rfl, q1, q2, q3, q4, ⟨rfl, q5, rfl⟩ | ⟨off, rfl, q5, q6, q7⟩⟩ := hz
    · omega
    · exact q5
  · by_cases hjl : j < ls.length
    · rw [List.getElem?_append_left hjl] at hj
      obtain ⟨g2, u2, e1, e2, e3, e4, e5⟩ := h.at_ j q hj
      have hgm := List.mem_of_getElem? e1
      have hne : g2 ≠ bm := fun e => h.df (e ▸ hgm)
      exact ⟨g2, u2, by rw [List.getElem?_append_left (by rw [h.lg]; exact hjl)]; exact e1, by rw [List.getElem?_append_left (by rw [h.lv]; exact hjl)]; exact e2, e3, VZ.keep e4 hsz (fun h9 => hk g2 h9 hne), by omega⟩
    · have hj2 := (List.getElem?_eq_some_iff.1 hj).1
      simp only [List.length_append, List.length_singleton] at hj2
      obtain rfl : j = ls.length := by omega
      obtain rfl : l = q := by simpa using hj
      have g1 := h.lg
      have g3 := h.lv
      exact ⟨g, u, by rw [← g1]; simp, by rw [← g3]; simp, hl, VZ.keep hr hsz (fun h9 => hk g h9 h3), by omega⟩
  · rcases List.mem_append.1 hm with hm | hm
    · rcases hb' with rfl | h9
      · exact h.df hm
      · have := h.mem_lt hm; omega
    · rw [List.mem_singleton] at hm
      rcases hb' with rfl | h9
      · exact h3 hm.symm
      · omega
theorem MT.open_ (h : MT bm vm gm ls mv W) (h0 : 0 < ls.length) : ∃ off c, vm = .slice (some ⟨bm, off, none⟩) ls.length c ∧ ls.length ≤ c ∧ c ≤ 9223372036854775807 ∧ ∀ (j : Nat) (u : Value), mv[j]? = some u → W.cell? ⟨bm, off + j, none⟩ = some u := by
  obtain ⟨A, c, rfl, h1, h2, h3, h4, ⟨rfl, h5, rfl⟩ | ⟨off, rfl, hl, hc, hsp⟩⟩ := h.out
  · omega
  · exact ⟨off, c, rfl, h2, h3, fun j u hj => hc j u hj⟩
/-- The last row goes. -/
theorem MT.pop {l : List Int} {g : Nat} {u : Value} {off c : Nat} (h : MT bm (.slice (some ⟨bm, off, none⟩) (ls.length + 1) c) (gm ++ [g]) (ls ++ [l]) (mv ++ [u]) W) : MT bm (.slice (some ⟨bm, off, none⟩) ls.length c) gm ls mv W := by
  have lg := h.lg
  have lv := h.lv
  simp only [List.length_append, List.length_singleton] at lg lv
  refine ⟨h.lt, ?_, by omega, by omega, fun j q hj => ?_, fun hm => h.df (List.mem_append_left _ hm)⟩
  · obtain ⟨A, k, hv, h1, h2, h3, h4, h5⟩ := h.out
    injection hv with hA hn hcap
    subst hA hcap
    refine ⟨_, c, rfl, by omega, by omega, h3, fun q hq => h4 q (List.mem_append_left _ hq), ?_⟩
    rcases h5 with ⟨h5, -⟩ | ⟨off', h5, h6, h7, h8⟩
    · cases h5
    · injection h5 with h5
      injection h5 with _ h5 _
      subst h5
      exact .inr ⟨off, rfl, h6, fun j q hq => h7 j q (by rw [List.getElem?_append_left (List.getElem?_eq_some_iff.1 hq).1]; exact hq), h8⟩
  · have hjl : j < ls.length := (List.getElem?_eq_some_iff.1 hj).1
    obtain ⟨gg, kk, a1, a2, a3, a4, a5⟩ := h.at_ j q (by rw [List.getElem?_append_left hjl]; exact hj)
    rw [List.getElem?_append_left (by omega)] at a1 a2
    exact ⟨gg, kk, a1, a2, a3, a4, a5⟩
theorem MT.last {l : List Int} (h : MT bm vm gm (ls ++ [l]) mv W) : ∃ gm0 g mv0 u, gm = gm0 ++ [g] ∧ mv = mv0 ++ [u] := by
  obtain ⟨gs0, g, e1⟩ := snoc_of_len (n := ls.length) (h.lg.trans (by simp))
  obtain ⟨vals0, u, e3⟩ := snoc_of_len (n := ls.length) (h.lv.trans (by simp))
  exact ⟨gs0, g, vals0, u, e1, e3⟩
end
theorem chL_next {k : Nat} {zs : List Int} {n : Nat} (t : Nat) : ((List.range (t + 1)).map fun j => (zs.drop (j * k)).take k) = ((List.range t).map fun j => (zs.drop (j * k)).take k) ++ [(zs.drop (t * k)).take k] := by simp [List.range_succ]
theorem chL_end {k : Nat} {zs : List Int} {t : Nat} (hk : 1 ≤ k) (h1 : zs.length ≤ t * k) (h2 : ∀ i, i < t → i * k < zs.length) : ((List.range t).map fun j => (zs.drop (j * k)).take k) = chL k zs := by
  have h := chS_eq (zs := zs) (n := zs.length) rfl hk ⟨t, rfl, h1, h2⟩
  rw [← h]
  unfold chU
  rw [List.map_map]
  refine List.map_congr_left (fun j hj => ?_)
  have h4 := h2 j (List.mem_range.1 hj)
  simp only [Function.comp, pcL, chG_val hk h4]
  rcases Nat.le_total k (zs.length - j * k) with h5 | h5
  · rw [Nat.min_eq_left h5]
  · rw [Nat.min_eq_right h5, List.take_of_length_le (by rw [List.length_drop]; omega), List.take_of_length_le (by rw [List.length_drop]; omega)]
theorem wL_next {zs : List Int} {ls : List (List Int)} {j : Nat} {l : List Int} (h : ls[j]? = some l) : wL zs (ls.take (j + 1)) = wL zs (ls.take j) ++ if (fltL zs l).length = 0 then [] else [fltL zs l] := by
  unfold wL
  rw [List.take_add_one, h]
  simp only [Option.toList_some, List.map_append, List.map_cons, List.map_nil, List.filter_append]
  congr 1
  by_cases h9 : (fltL zs l).length = 0
  · rw [if_pos h9, List.filter_cons, h9]
    simp
  · rw [if_neg h9, List.filter_cons]
    simp [h9]
/-- How many go. -/
def goneL (zs : List Int) (ls : List (List Int)) : Int := ((ls.map List.length).sum : Int) - (((wL zs ls).map List.length).sum : Int)
theorem goneL_next {zs : List Int} {ls : List (List Int)} {j : Nat} {l : List Int} (h : ls[j]? = some l) : goneL zs (ls.take (j + 1)) = goneL zs (ls.take j) + ((l.length : Int) - ((fltL zs l).length : Int)) := by
  unfold goneL
  rw [wL_next h, List.take_add_one, h]
  by_cases h9 : (fltL zs l).length = 0
  · rw [if_pos h9, h9]
    simp
    omega
  · rw [if_neg h9]
    simp
    omega
theorem fltL_next {zs l : List Int} {p : Nat} {x : Int} (h : l[p]? = some x) : fltL zs (l.take (p + 1)) = fltL zs (l.take p) ++ if decide (x ∈ zs) then [] else [x] := filter_next h
end Go.Proofs.Ytokdjonnblbegaa
