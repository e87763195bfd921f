/- Package large: Drop, Pages; awake. -/
import Derived.Test.YtohamecjiidjdaaLaG
namespace Go.Proofs.Ytohamecjiidjdaa
open Go.RowKit
set_option linter.unusedVariables false
set_option linter.unusedSimpArgs false

set_option maxHeartbeats 1600000 in
theorem nldrop (at_ : Int) (W : World) : Calls Try.prog 17 #[.pointer none, .int .i64 at_] W fun e w' => e = .returned (.tuple #[.agg #[.int .i64 0, .int .i64 0, .int .i64 0, .int .i64 0], .bool false]) ∧ Below W.heap.size W w' := by
  go_enter Try.func17, Try.ntmps17
  go_upto_region 1 with (fail)
  obtain ⟨z, hz⟩ : ∃ z, W.heap.size = z := ⟨_, rfl⟩
  obtain ⟨w1, hw1⟩ : ∃ w1, W.alloc (.cells #[.int .i64 0, .int .i64 0, .int .i64 0, .int .i64 0] 50) = w1 := ⟨_, rfl⟩
  have HZ : Hid (L4 z w1 0 0 0 0) := Lib.hid (by rw [← hw1, ← hz]; exact L4.new _ 0 0 0 0 _)
  have HB : Hid (Below W.heap.size W w1 ∧ W.heap.size = z) := Lib.hid (by rw [← hw1]; exact ⟨alc0 _ _, hz⟩)
  rw [hw1, hz]
  clear hw1 hz
  go_wp2_with fail
  with_reducible refine Calls.mono (nlget at_ _) ?_
  rintro e w2 ⟨rfl, hb⟩
  have HZ2 := Lib.hid ((HZ.out.below hb).below (alc0 w2 (.cells #[.int .i64 0, .int .i64 0, .int .i64 0, .int .i64 0] 50)))
  have HB2 := Lib.hid (alc (thn HB.out.1 hb) (.cells #[.int .i64 0, .int .i64 0, .int .i64 0, .int .i64 0] 50))
  clear hb
  obtain ⟨hzl, k0, k1, k2, k3, kf⟩ := HZ2.out
  have kf0 := kf 0 (by decide)
  have kf1 := kf 1 (by decide)
  have kf2 := kf 2 (by decide)
  have kf3 := kf 3 (by decide)
  obtain ⟨ws, hws, hzs, hbs⟩ := l4_store HZ2.out 0 0 0 0
  obtain ⟨-, j0, j1, j2, j3, -⟩ := hzs
  have HE : Hid (Below W.heap.size W ws) := Lib.hid (HB2.out.trans (hbs.mono (by have := HB.out.2; omega)))
  clear kf hbs
  go_wp2
  refine bodyPost_ret (v := .tuple #[.agg #[.int .i64 0, .int .i64 0, .int .i64 0, .int .i64 0], .bool false]) (by simp [results, Try.results17, go_sem, j0, j1, j2, j3]) rfl ⟨rfl, HE.out⟩
set_option maxHeartbeats 1600000 in
theorem ldrop_no (g b : Nat) (W : World) (ms : List La) (h : LgAt g b W ms) (hn : ms.length ≤ 1000) (at_ : Int) (k : Nat) (hk : LBat ms at_ k) (hF : fndB ms at_ k = false) : Calls Try.prog 17 #[.pointer (some ⟨g, 0, none⟩), .int .i64 at_] W fun e w' => e = .returned (.tuple #[.agg #[.int .i64 0, .int .i64 0, .int .i64 0, .int .i64 0], .bool false]) ∧ Below W.heap.size W w' := by
  have HL := Lib.hid (h.below (alc0 W (.cells #[.int .i64 0, .int .i64 0, .int .i64 0, .int .i64 0] 50)))
  have HK := Lib.hid hk
  have HF := Lib.hid hF
  clear h hk hF
  go_enter Try.func17, Try.ntmps17
  go_upto_region 1 with (fail)
  obtain ⟨z, hz⟩ : ∃ z, W.heap.size = z := ⟨_, rfl⟩
  obtain ⟨w1, hw1⟩ : ∃ w1, W.alloc (.cells #[.int .i64 0, .int .i64 0, .int .i64 0, .int .i64 0] 50) = w1 := ⟨_, rfl⟩
  have HZ : Hid (L4 z w1 0 0 0 0) := Lib.hid (by rw [← hw1, ← hz]; exact L4.new _ 0 0 0 0 _)
  have HB : Hid (Below W.heap.size W w1 ∧ W.heap.size = z) := Lib.hid (by rw [← hw1]; exact ⟨alc0 _ _, hz⟩)
  rw [hw1] at HL ⊢
  rw [hz]
  clear hw1 hz
  go_wp2_with fail
  with_reducible refine Calls.mono (lget_no g b _ ms HL.out hn at_ k HK.out HF.out) ?_
  rintro e w2 ⟨rfl, hb⟩
  have HZ2 := Lib.hid ((HZ.out.below hb).below (alc0 w2 (.cells #[.int .i64 0, .int .i64 0, .int .i64 0, .int .i64 0] 50)))
  have HB2 := Lib.hid (alc (thn HB.out.1 hb) (.cells #[.int .i64 0, .int .i64 0, .int .i64 0, .int .i64 0] 50))
  clear hb
  obtain ⟨hzl, k0, k1, k2, k3, kf⟩ := HZ2.out
  have kf0 := kf 0 (by decide)
  have kf1 := kf 1 (by decide)
  have kf2 := kf 2 (by decide)
  have kf3 := kf 3 (by decide)
  obtain ⟨ws, hws, hzs, hbs⟩ := l4_store HZ2.out 0 0 0 0
  obtain ⟨-, j0, j1, j2, j3, -⟩ := hzs
  have HE : Hid (Below W.heap.size W ws) := Lib.hid (HB2.out.trans (hbs.mono (by have := HB.out.2; omega)))
  clear kf hbs
  go_wp2
  refine bodyPost_ret (v := .tuple #[.agg #[.int .i64 0, .int .i64 0, .int .i64 0, .int .i64 0], .bool false]) (by simp [results, Try.results17, go_sem, j0, j1, j2, j3]) rfl ⟨rfl, HE.out⟩
def DropPost (g b : Nat) (W : World) (ms : List La) (y : La) (e : Ending) (w' : World) : Prop := e = .returned (.tuple #[.agg #[.int .i64 y.at_, .int .i64 y.first, .int .i64 y.pages, .int .i64 y.room], .bool true]) ∧ LgAt g b w' ms ∧ Fr g b W w' ∧ b < W.heap.size
set_option maxHeartbeats 3200000 in
theorem ldrop_yes (g b : Nat) (W : World) (ms : List La) (h : LgAt g b W ms) (hn : ms.length ≤ 1000) (at_ : Int) (k : Nat) (hk : LBat ms at_ k) (hF : fndB ms at_ k = true) (y : La) (hy : ms[k]? = some y) : Calls Try.prog 17 #[.pointer (some ⟨g, 0, none⟩), .int .i64 at_] W (DropPost g b W (ms.eraseIdx k) y) := by
  have HL := Lib.hid (h.below (alc0 W (.cells #[.int .i64 0, .int .i64 0, .int .i64 0, .int .i64 0] 50)))
  have hbW : b < W.heap.size := by
    obtain ⟨_, _, _, v, _, hV⟩ := h
    rcases v4_open hV with ⟨_, e9⟩ | ⟨off, c', rfl, hbb, _⟩
    · rw [e9] at hy; simp at hy
    · exact hbb
  have hgW := h.1
  have hbg := h.2.1
  have HK := Lib.hid hk
  have HF := Lib.hid hF
  have HY := Lib.hid hy
  clear h hk hF hy
  go_enter Try.func17, Try.ntmps17
  go_upto_region 1 with (fail)
  obtain ⟨z, hz⟩ : ∃ z, W.heap.size = z := ⟨_, rfl⟩
  obtain ⟨w1, hw1⟩ : ∃ w1, W.alloc (.cells #[.int .i64 0, .int .i64 0, .int .i64 0, .int .i64 0] 50) = w1 := ⟨_, rfl⟩
  have HZ : Hid (L4 z w1 0 0 0 0) := Lib.hid (by rw [← hw1, ← hz]; exact L4.new _ 0 0 0 0 _)
  have HB : Hid (Below W.heap.size W w1 ∧ W.heap.size = z) := Lib.hid (by rw [← hw1]; exact ⟨alc0 _ _, hz⟩)
  rw [hw1] at HL ⊢
  rw [hz]
  clear hw1 hz
  go_wp2_with fail
  with_reducible refine Calls.mono (lget_yes g b _ ms HL.out hn at_ k HK.out HF.out y HY.out) ?_
  rintro e w2 ⟨rfl, hb⟩
  have HL2 := Lib.hid (HL.out.below hb)
  have HZ2 := Lib.hid (HZ.out.below hb)
  have HB2 := Lib.hid (thn HB.out.1 hb)
  clear hb HL HZ
  go_upto_region 3 with (fail)
  obtain ⟨x, hx⟩ : ∃ x, w2.heap.size = x := ⟨_, rfl⟩
  obtain ⟨w3, hw3⟩ : ∃ w3, w2.alloc (.cells #[.int .i64 y.at_, .int .i64 y.first, .int .i64 y.pages, .int .i64 y.room] 50) = w3 := ⟨_, rfl⟩
  have HX3 : Hid (L4 x w3 y.at_ y.first y.pages y.room) := Lib.hid (by rw [← hw3, ← hx]; exact L4.new _ _ _ _ _ _)
  have HZ3 : Hid (L4 z w3 0 0 0 0) := Lib.hid (by rw [← hw3]; exact HZ2.out.below (alc0 _ _))
  have HL3 : Hid (LgAt g b w3 ms) := Lib.hid (by rw [← hw3]; exact HL2.out.below (alc0 _ _))
  have HB3 : Hid (Below W.heap.size W w3 ∧ z < x) := Lib.hid (by rw [← hw3]; exact ⟨alc HB2.out _, by have := HZ2.out.1; omega⟩)
  rw [hw3, hx]
  clear hw3 hx HL2 HZ2 HB2
  go_wp2_with fail
  with_reducible refine Calls.mono (lplace g b _ ms HL3.out hn at_ k HK.out true HF.out) ?_
  rintro e w4 ⟨rfl, hb⟩
  have HL4 := Lib.hid (HL3.out.below hb)
  have HZ4 := Lib.hid (HZ3.out.below hb)
  have HX4 := Lib.hid (HX3.out.below hb)
  have HB4 := Lib.hid (thn HB3.out.1 hb)
  clear hb HL3 HZ3 HX3
  obtain ⟨hgl, -, hgf, v, hgv, hV⟩ := HL4.out
  rcases v4_open hV with ⟨_, e9⟩ | ⟨off, c', rfl, hbb, hlc, _, _⟩
  · have := HY.out
    rw [e9] at this
    simp at this
  have hkl : k < ms.length := (List.getElem?_eq_some_iff.1 HY.out).1
  obtain ⟨j, hj⟩ : ∃ j, k + 1 = j := ⟨_, rfl⟩
  have hjI : (k : Int) + 1 = (j : Int) := by omega
  have hdel := del_large b off c' k j ms _ hV hkl hj.symm hn
  obtain ⟨n, hnn⟩ : ∃ n, ms.length = n := ⟨_, rfl⟩
  rw [hnn] at hdel hgv hn hkl
  have HDEL := Lib.hid hdel
  clear hdel hV hnn hj
  go_wp2_with fail
  with_reducible refine Calls.mono HDEL.out ?_
  rintro e w5 ⟨v5, rfl, hv5, hfb⟩
  obtain ⟨A5, c5, e5, -⟩ := id hv5
  subst e5
  have HV5 := Lib.hid hv5
  have hs5 := hfb.1
  have eg := hfb.2.1 g (Ne.symm hbg)
  have hg5 := (World.cell?_of_block (a := ⟨g, 0, none⟩) eg).trans hgv
  have hf5 := (World.frozen?_of_block (a := ⟨g, 0, none⟩) eg).trans hgf
  have hgl5 : g < w5.heap.size := by omega
  have HFB := Lib.hid hfb
  have hzb : z ≠ b := by have := HB.out.2; omega
  have hxb : x ≠ b := by have := HB.out.2; have := HB3.out.2; omega
  have hzg : z ≠ g := by have := HB.out.2; omega
  have hxg : x ≠ g := by have := HB.out.2; have := HB3.out.2; omega
  have HZ5 := Lib.hid (HZ4.out.keep (by omega) (hfb.2.1 z hzb))
  have HX5 := Lib.hid (HX4.out.keep (by omega) (hfb.2.1 x hxb))
  clear hfb hv5 eg
  go_upto_region 5 with (fail)
  obtain ⟨w6, hw6⟩ : ∃ w6, w5.setCell ⟨g, 0, none⟩ (.slice A5 (ms.eraseIdx k).length c5) = w6 := ⟨_, rfl⟩
  have HL6 : Hid (LgAt g b w6 (ms.eraseIdx k)) := Lib.hid (by rw [← hw6]; exact ⟨by rw [size_set]; exact hgl5, hbg, by rw [World.frozen?_setCell]; exact hf5, _, World.cell?_setCell_same _ _ _ hg5, HV5.out.far hbg⟩)
  have HF6 : Hid (Fr g b W w6) := Lib.hid (by rw [← hw6]; exact ((Fr.of_below HB4.out).fb HFB.out).set 0 _)
  have HZ6 : Hid (L4 z w6 0 0 0 0) := Lib.hid (by rw [← hw6]; exact HZ5.out.far hzg)
  have HX6 : Hid (L4 x w6 y.at_ y.first y.pages y.room) := Lib.hid (by rw [← hw6]; exact HX5.out.far hxg)
  rw [hw6]
  clear hw6 hg5 hf5 HZ5 HX5 HV5
  obtain ⟨hzl, k0, k1, k2, k3, kf⟩ := HZ6.out
  obtain ⟨hxl, i0, i1, i2, i3, -⟩ := HX6.out
  have kf0 := kf 0 (by decide)
  have kf1 := kf 1 (by decide)
  have kf2 := kf 2 (by decide)
  have kf3 := kf 3 (by decide)
  obtain ⟨ws, hws, hzs, hbs⟩ := l4_store HZ6.out y.at_ y.first y.pages y.room
  obtain ⟨-, j0, j1, j2, j3, -⟩ := hzs
  have HE : Hid (LgAt g b ws (ms.eraseIdx k) ∧ Fr g b W ws) := Lib.hid (by
    have hz := HB.out.2
    have hf := HF6.out
    exact ⟨HL6.out.keep hbs.size (hbs.block g (by omega)) (fun _ => hbs.block b (by omega)), ⟨Nat.le_trans hf.1 hbs.size, fun i hi hg hb => (hbs.block i (by omega)).trans (hf.2.1 i hi hg hb), fun L hg hb hL => (hf.2.2 L hg hb hL).trans (hbs.mono (by omega))⟩⟩)
  clear kf hbs
  go_wp2
  refine bodyPost_ret (v := .tuple #[.agg #[.int .i64 y.at_, .int .i64 y.first, .int .i64 y.pages, .int .i64 y.room], .bool true]) (by simp [results, Try.results17, go_sem, j0, j1, j2, j3]) rfl ⟨rfl, HE.out.1, HE.out.2, hbW⟩
def sumG : List La → Int
  | [] => 0
  | p :: r => p.pages + 2 + sumG r
theorem sumG_snoc (l : List La) (p : La) : sumG (l ++ [p]) = sumG l + (p.pages + 2) := by
  induction l with
  | nil => simp [sumG]
  | cons q r ih => simp only [List.cons_append, sumG, ih]; omega
theorem sumG_take (l : List La) (i : Nat) (p : La) (h : l[i]? = some p) : sumG (l.take (i + 1)) = sumG (l.take i) + (p.pages + 2) := by
  have : l.take (i + 1) = l.take i ++ [p] := by rw [List.take_add_one, h]; rfl
  rw [this, sumG_snoc]
theorem sumG_bd : ∀ (l : List La), (∀ p ∈ l, 0 ≤ p.pages ∧ p.pages ≤ 1000) → 0 ≤ sumG l ∧ sumG l ≤ 1002 * l.length
  | [], _ => by simp [sumG]
  | q :: r, h => by
    have h1 := h q (by simp)
    have h2 := sumG_bd r (fun p hp => h p (by simp [hp]))
    simp only [sumG, List.length_cons]
    omega
theorem nlpages (W : World) : Calls Try.prog 23 #[.pointer none] W fun e w' => e = .returned (.int .i64 0) ∧ W = w' := by
  go_enter Try.func23, Try.ntmps23
  go_wp2_with fail
  refine (nlall _).mono ?_
  rintro e w' ⟨rfl, rfl⟩
  go_wp2_with fail
  refine Go.wp_loop_rounds 1 ?_
  rw [rounds_succ]
  go_wp2
  go_ret
  exact ⟨rfl, rfl⟩
set_option maxHeartbeats 1600000 in
theorem lpages (g b : Nat) (W : World) (ms : List La) (h : LgAt g b W ms) (hn : ms.length ≤ 1000) (hp : ∀ p ∈ ms, 0 ≤ p.pages ∧ p.pages ≤ 1000) : Calls Try.prog 23 #[.pointer (some ⟨g, 0, none⟩)] W fun e w' => e = .returned (.int .i64 (sumG ms)) ∧ Below W.heap.size W w' := by
  have H := Lib.hid h
  have HP := Lib.hid hp
  clear h hp
  go_enter Try.func23, Try.ntmps23
  go_wp2_with fail
  refine (lall g b _ ms H.out hn).mono ?_
  rintro e w1 ⟨b2, v2, rfl, hb2, hv, hb⟩
  have HB := Lib.hid hb
  have HV := Lib.hid hv
  obtain ⟨A2, c2, rfl, -⟩ := hv
  obtain ⟨n, hnn⟩ : ∃ n, ms.length = n := ⟨_, rfl⟩
  rw [hnn] at HV hn ⊢
  have HN := Lib.hid hnn
  clear hb hb2 hnn
  go_wp2_with fail
  go_loopw [3, 9] (fun v3 v9 wr => ∃ i : Nat, i ≤ n ∧ v9 = .int .i64 i ∧ v3 = .int .i64 (sumG (ms.take i)) ∧ Hid (Below w1.heap.size w1 wr)) (fun _ v9 _ => n - (intOf v9).toNat)
  case atStart => exact ⟨0, by omega, rfl, rfl, Lib.hid (Below.refl _ _)⟩
  case round =>
    obtain ⟨i, hi, rfl, rfl, HR⟩ := hrel
    by_cases hin : i < n
    · have hinI : (i : Int) < (n : Int) := by omega
      rcases v4_open HV.out with ⟨_, e9⟩ | ⟨off, c', e1, hbb, hlc, _, hcell⟩
      · have := HN.out
        rw [e9] at this
        simp at this
        omega
      injection e1 with e1 e2 e3
      subst e1 e3
      obtain ⟨p, hp⟩ : ∃ p, ms[i]? = some p := ⟨ms[i]'(by have := HN.out; omega), List.getElem?_eq_getElem _⟩
      obtain ⟨c0, c1, c2', c3⟩ := hcell i p hp
      have c0 := (HR.out.cell (p := ⟨b2, off + i * 4, none⟩) hbb).trans c0
      have c1 := (HR.out.cell (p := ⟨b2, off + i * 4 + 1, none⟩) hbb).trans c1
      have c2' := (HR.out.cell (p := ⟨b2, off + i * 4 + 2, none⟩) hbb).trans c2'
      have c3 := (HR.out.cell (p := ⟨b2, off + i * 4 + 3, none⟩) hbb).trans c3
      have hpp := HP.out p (List.mem_of_getElem? hp)
      have hsb := sumG_bd (ms.take i) (fun q hq => HP.out q (List.mem_of_mem_take hq))
      have hst : Hid (sumG (ms.take (i + 1)) = sumG (ms.take i) + (p.pages + 2)) := Lib.hid (sumG_take ms i p hp)
      have hlt : (ms.take i).length ≤ 1000 := by have := HN.out; simp; omega
      obtain ⟨S, hS⟩ : ∃ S, sumG (ms.take i) = S := ⟨_, rfl⟩
      rw [hS] at hst hsb ⊢
      obtain ⟨hp1, hp2⟩ := hpp
      obtain ⟨hs1, hs2⟩ := hsb
      have hs3 : S ≤ 1002000 := by omega
      clear hcell hp e2 hS hs2
      go_wp2_with fail
      go_roundw
      case rel => exact ⟨i + 1, by omega, by go_num, by rw [hst.out], Lib.hid (alc HR.out _)⟩
      case measure => simp [intOf] <;> omega
    · obtain rfl : i = n := by omega
      have hfin : Hid (ms.take i = ms) := Lib.hid (List.take_of_length_le (by have := HN.out; omega))
      go_wp2
      go_ret
      exact ⟨by rw [hfin.out]; rfl, thn HB.out HR.out⟩
end Go.Proofs.Ytohamecjiidjdaa
