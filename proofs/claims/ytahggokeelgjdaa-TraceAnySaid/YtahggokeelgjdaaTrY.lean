/- trace.Read of bytes that are no list's. -/
import Derived.Test.YtahggokeelgjdaaTrP
import Derived.Test.YtahggokeelgjdaaTrX
namespace Go.Proofs.Ytahggokeelgjdaa
open Go.RowKit
set_option linter.unusedVariables false
set_option linter.unusedSimpArgs false

set_option maxHeartbeats 3200000 in
theorem trRead_no (v : Value) (xs : List Nat) (W : World) (h : RD W v xs) (hx : ∀ x ∈ xs, x < 256) (hno : ∀ l : List OV, mayB l = true → (∀ p ∈ l, p.o.ok) → ¬ bytesB l = xs) :
    Calls Try.prog 14 #[v] W fun e w' => e = .returned (.tuple #[.slice none 0 0, .bool false]) ∧ Below W.heap.size W w' := by
  obtain ⟨s, hs, cs⟩ := conv_rd W v _ h hx
  have hss : s.size ≤ 140737488351232 := by
    rw [← sb_size, hs]
    obtain ⟨_, _, _, h2, _⟩ := h
    exact h2
  have HD := Lib.hid h
  have HX := Lib.hid hx
  have HNO := Lib.hid hno
  have HSS := Lib.hid hss
  have HSB := Lib.hid hs
  clear h hx hno hss hs
  have hsh := HD.out
  obtain ⟨A, c, rfl, -, -⟩ := hsh
  by_cases hpre : (sb s).take (⟨#[67, 84, 49]⟩ : ByteArray).size = sb ⟨#[67, 84, 49]⟩
  rotate_left
  · have HP := Lib.hid hpre
    clear hpre
    go_enter Try.func14, Try.ntmps14
    go_wp2_with fail
    refine (cutPre_no s ⟨#[67, 84, 49]⟩ W HP.out).mono ?_
    rintro e w1 ⟨rfl, q1, hw1⟩
    have HB1 : Hid (Below W.heap.size W w1) := Lib.hid (by rw [hw1]; exact below_drewN (Below.refl _ _) _)
    clear hw1 cs
    go_wp2
    refine bodyPost_ret (v := .tuple #[.slice none 0 0, .bool false]) (by simp [results, Try.results14, go_sem]) rfl ⟨rfl, HB1.out⟩
  obtain ⟨s1, hs1⟩ : ∃ s1, s.extract (⟨#[67, 84, 49]⟩ : ByteArray).size s.size = s1 := ⟨_, rfl⟩
  have hz1 : s1.size ≤ 140737488351232 := by
    rw [← hs1, ← sb_size, sb_drop, List.length_drop, sb_size]
    have := HSS.out
    omega
  have hxne : 0 < xs.length := by
    have h1 := congrArg List.length hpre
    rw [HSB.out, List.length_take] at h1
    have h3 : (sb (⟨#[67, 84, 49]⟩ : ByteArray)).length = 3 := rfl
    rw [h3] at h1
    omega
  have HXN := Lib.hid hxne
  have HZ1 := Lib.hid hz1
  have HS1 := Lib.hid hs1
  have HP := Lib.hid hpre
  clear hz1 hs1 hpre hxne
  go_enter Try.func14, Try.ntmps14
  go_wp2_with fail
  refine (cutPre s ⟨#[67, 84, 49]⟩ W HP.out).mono ?_
  rintro e w1 ⟨rfl, q1, hw1⟩
  rw [HS1.out]
  have HB1 : Hid (Below W.heap.size W w1) := Lib.hid (by rw [hw1]; exact below_drewN (Below.refl _ _) _)
  clear hw1 cs
  obtain ⟨g, hg⟩ : ∃ g, w1.heap.size = g := ⟨_, rfl⟩
  have HG : Hid (RdAt g (w1.alloc (.cells #[.string s1, .bool false] 50)) s1 false) := Lib.hid (by rw [← hg]; exact ⟨by simp, by simp, by simp, fun o => by simp⟩)
  have HWg : Hid (W.heap.size ≤ g) := Lib.hid (by rw [← hg]; exact HB1.out.size)
  go_wp2_with fail
  refine (rnum_any 140737488351232 g s1 false _ HG.out (fun _ => HZ1.out)).mono ?_
  rintro e w3 ⟨⟨n0, rfl, hn0, s3, wb3, hr3, hs3, _⟩, ho3⟩
  have hb3 : Below W.heap.size W w3 := (HB1.out.trans ((alc0 w1 _).mono HB1.out.size)).trans (ho3.2.2 _ HWg.out (by simp; have := HB1.out.size; omega))
  have HG3 : Hid (RS 140737488351232 g w3) := Lib.hid ⟨s3, wb3, hr3, hs3⟩
  have HB3 := Lib.hid hb3
  clear hr3 hb3 hs3 ho3 HG hg
  by_cases hmany : 500 < n0
  · clear HNO
    go_wp2
    refine bodyPost_ret (v := .tuple #[.slice none 0 0, .bool false]) (by simp [results, Try.results14, go_sem]) rfl ⟨rfl, HB3.out⟩
  go_wp2_with fail
  go_loopw [8, 25] (fun v8 v25 wr => ∃ (i bl : Nat) (l' : List OV), i ≤ 500 ∧ v25 = .int .i64 i ∧ Hid (LQ g bl wr v8 l' ∧ (l' = [] ∨ W.heap.size ≤ bl) ∧ (l' = [] → bl = g)) ∧ Hid (l'.length = i) ∧ Hid (∀ p ∈ l', ∀ x ∈ p.d, x < 256) ∧ Hid (RS 140737488351232 g wr) ∧ Hid (Below W.heap.size W wr)) (fun _ v25 _ => 500 - (intOf v25).toNat)
  case atStart => exact ⟨0, g, [], by omega, rfl, Lib.hid ⟨⟨vz_nil _ _ _, fun _ => rfl, fun h => absurd rfl h, by simp⟩, .inl rfl, fun _ => rfl⟩, Lib.hid rfl, Lib.hid (by simp), HG3, HB3⟩
  case round =>
    clear HG3 HB3
    obtain ⟨i, bl, l', hi, rfl, HQ, HLL, HO, HGS, HB⟩ := hrel
    obtain ⟨s', wb, hrd0, hsz0⟩ := HGS.out
    have HG := Lib.hid hrd0
    have HZ := Lib.hid hsz0
    clear hrd0 hsz0
    have hsh := HQ.out.1.1
    obtain ⟨A8, c8, rfl, -⟩ := hsh
    by_cases hlt : (i : Int) < n0
    · go_wp2_with fail
      refine (rone_any g s' wb wr HG.out HZ.out).mono ?_
      rintro e w4 ⟨⟨o, d, dv, rfl, hok, hdd, hdb⟩, hrs4, ho4⟩
      obtain ⟨p, hp⟩ : ∃ p : OV, (⟨o, d, dv⟩ : OV) = p := ⟨_, rfl⟩
      have HOKp := Lib.hid hok
      have HDBp := Lib.hid hdb
      have HQ4 : Hid (LQ g bl w4 (.slice A8 l'.length c8) l' ∧ (l' = [] ∨ W.heap.size ≤ bl) ∧ (l' = [] → bl = g)) := Lib.hid ⟨HQ.out.1.keep ho4.1 (fun j hj hn => ho4.2.1 j hj hn), HQ.out.2⟩
      have HDD := Lib.hid hdd
      have HB4 : Hid (Below W.heap.size W w4) := Lib.hid (HB.out.trans (ho4.2.2 _ HWg.out HB.out.size))
      have HO4 := Lib.hid ho4
      obtain ⟨s4, wb4, hr4, hz4⟩ := hrs4
      have HR4 := Lib.hid hr4
      have HZ4 := Lib.hid hz4
      have hgl : g < w4.heap.size := hr4.1
      clear hdd hz4 hr4 ho4 hp hok hdb
      have hone : ∀ u ∈ enc8 ⟨o, d, dv⟩, u.oneCell' = true := by
        obtain ⟨D, c9, e9, _⟩ := HDD.out
        intro u hu
        simp only [enc8, List.mem_cons, List.not_mem_nil, or_false] at hu
        rcases hu with rfl | rfl | rfl | rfl | rfl | rfl | rfl | rfl
        all_goals first | rfl | (rw [e9]; rfl)
      have HQa : Hid (LQ g bl (w4.alloc (.cells #[.int .i64 o.k, .int .i64 o.t, .int .i64 o.a, .int .i64 o.b, .int .i64 o.v, .int .i64 o.n, .int .i64 o.m, dv] 25)) (.slice A8 l'.length c8) l') := Lib.hid (HQ4.out.1.keep (by simp) (fun j hj _ => Below.heap_alloc _ _ _ hj))
      obtain ⟨b0, hb0, hvz⟩ : ∃ b0, ((l' = [] ∧ b0 = (w4.alloc (.cells #[.int .i64 o.k, .int .i64 o.t, .int .i64 o.a, .int .i64 o.b, .int .i64 o.v, .int .i64 o.n, .int .i64 o.m, dv] 25)).heap.size) ∨ (l' ≠ [] ∧ b0 = bl)) ∧ VZ 8 b0 (w4.alloc (.cells #[.int .i64 o.k, .int .i64 o.t, .int .i64 o.a, .int .i64 o.b, .int .i64 o.v, .int .i64 o.n, .int .i64 o.m, dv] 25)) (.slice A8 l'.length c8) l'.length (l'.flatMap enc8) := by
        by_cases hne : l' = []
        · refine ⟨_, .inl ⟨hne, rfl⟩, ?_⟩
          have e := HQ4.out.1.2.1 hne
          rw [e, hne]
          exact vz_nil _ _ _
        · exact ⟨bl, .inr ⟨hne, rfl⟩, HQa.out.1⟩
      have HB0 := Lib.hid hb0
      have HVZ := Lib.hid hvz
      have hll5 : l'.length ≤ 500 := by have := HLL.out; omega
      have hll4 : l'.length < 9223372036854775807 := by omega
      clear hll4
      clear hb0 hvz
      go_wp2_with (at_builtin; refine app_vz tyOp rfl _ _ rfl b0 (.slice A8 l'.length c8) l'.length (l'.flatMap enc8) rfl HVZ.out ⟨w4.heap.size, 0, none⟩ 1 1 (enc8 ⟨o, d, dv⟩) rfl rfl (new8 w4 ⟨o, d, dv⟩ _) hone (.inl (by decide)) (by omega) ?_)
      rintro v9 w9 hp9
      have hrdn : RDN g bl (w4.alloc (.cells #[.int .i64 o.k, .int .i64 o.t, .int .i64 o.a, .int .i64 o.b, .int .i64 o.v, .int .i64 o.n, .int .i64 o.m, dv] 25)) dv d := by
        obtain ⟨D, c9, e9, h1, h2, h3, h4⟩ := HDD.out
        have hgw := HG.out.1
        refine ⟨D, c9, e9, by omega, ?_, by simp; omega, h3, h4.keep (Below.heap_alloc _ _ _ h2)⟩
        by_cases hne : l' = []
        · have := HQ.out.2.2 hne
          omega
        · have := (HQ.out.1.2.2.1 hne).1
          omega
      obtain ⟨bl', hLQ, hs9, hg9, hL9, hbl9⟩ := LQ.add (p := ⟨o, d, dv⟩) HQa.out (by simp; omega) HOKp.out hrdn b0 HB0.out hp9
      have hLe : l' = [] ∨ W.heap.size ≤ bl := HQ4.out.2.1
      have HQ9 : Hid (LQ g bl' w9 v9 (l' ++ [⟨o, d, dv⟩]) ∧ (l' ++ [⟨o, d, dv⟩] = [] ∨ W.heap.size ≤ bl') ∧ (l' ++ [(⟨o, d, dv⟩ : OV)] = [] → bl' = g)) := Lib.hid ⟨hLQ, .inr (by
        rcases hbl9 with ⟨rfl, hne⟩ | h
        · rcases hLe with h | h
          · exact absurd h hne
          · exact h
        · simp at h
          have := HB4.out.size
          omega), fun h => by simp at h⟩
      have HB9 : Hid (Below W.heap.size W w9) := Lib.hid ((HB4.out.alloc HB4.out.size _).trans (hL9 _ (by simp; have := HB4.out.size; omega) hLe))
      have HG9 : Hid (RdAt g w9 s4 wb4) := Lib.hid ((HR4.out.keep (by simp) (Below.heap_alloc w4 _ _ hgl)).keep hs9 hg9)
      have HO9 : Hid (∀ p ∈ l' ++ [(⟨o, d, dv⟩ : OV)], ∀ x ∈ p.d, x < 256) := Lib.hid (fun p hp => by
        rcases List.mem_append.1 hp with h | h
        · exact HO.out p h
        · simp at h; subst h; exact HDBp.out)
      have HL9 : Hid ((l' ++ [(⟨o, d, dv⟩ : OV)]).length = i + 1) := Lib.hid (by rw [List.length_append, HLL.out]; rfl)
      have HRS9 : Hid (RS 140737488351232 g w9) := Lib.hid ⟨s4, wb4, HG9.out, HZ4.out⟩
      have hi9 : i + 1 ≤ 500 := by omega
      obtain ⟨z1, z2, z3, z4⟩ := HG9.out
      clear hp9 hrdn hLQ hs9 hg9 hL9 hbl9 hone HQa HVZ HB0 HQ4 HDD HR4 HB4 HO4 HQ HO HG HGS HZ HB z4 hLe
      cases wb4 with
      | true =>
        go_wp2
        refine bodyPost_ret (v := .tuple #[.slice none 0 0, .bool false]) (by simp [results, Try.results14, go_sem]) rfl ⟨rfl, HB9.out⟩
      | false =>
        go_wp2_with fail
        go_roundw
        case rel => exact ⟨i + 1, bl', _, hi9, by go_num, HQ9, HL9, HO9, HRS9, HB9⟩
        case measure => simp [intOf] <;> omega
    · have HOP : Hid (OPS wr (.slice A8 l'.length c8) l') := Lib.hid (HQ.out.1.ops (by have := HLL.out; omega))
      obtain ⟨z1, z2, z3, z4⟩ := HG.out
      clear z4
      cases wb with
      | true =>
        go_wp2
        refine bodyPost_ret (v := .tuple #[.slice none 0 0, .bool false]) (by simp [results, Try.results14, go_sem]) rfl ⟨rfl, HB.out⟩
      | false =>
        go_wp2_with fail
        with_reducible refine Calls.mono (trBytes _ l' wr HOP.out) ?_
        intro e w5 hp5
        have hq : ∃ vn ys, e = .returned vn ∧ RD w5 vn ys ∧ (∀ x ∈ ys, x < 256) ∧ ¬ ys = xs ∧ Below wr.heap.size wr w5 := by
          rcases hp5 with ⟨hm, bn, vn, rfl, hbn, hvn, hb5, _⟩ | ⟨hf, rfl, hb5⟩
          · exact ⟨vn, _, rfl, BY.rd hvn (by have := bytesB_len l' hm HOP.out.oks; omega), bytesB_lt l' HO.out, HNO.out l' hm HOP.out.oks, hb5⟩
          · exact ⟨_, [], rfl, ⟨none, 0, rfl, by simp, .inl rfl⟩, by simp, fun h => by have := HXN.out; rw [← h] at this; simp at this, hb5⟩
        obtain ⟨vn, ys, rfl, hr, hy, hne, hb5⟩ := hq
        have HRn := Lib.hid hr
        have HY := Lib.hid hy
        have HNE := Lib.hid hne
        have HRb : Hid (RD w5 (.slice A xs.length c) xs) := Lib.hid ((HD.out.keep HB.out).keep hb5)
        have HB5 : Hid (Below W.heap.size W w5) := Lib.hid (HB.out.trans (hb5.mono HB.out.size))
        obtain ⟨An, cn, rfl, -, -⟩ := hr
        clear hy hne hb5 hp5
        go_wp2_with fail
        with_reducible refine Calls.mono (beq_bytes _ _ ys xs w5 HRn.out HRb.out HY.out HX.out) ?_
        rintro e w6 ⟨rfl, rfl⟩
        rw [decide_eq_false HNE.out]
        go_wp2
        refine bodyPost_ret (v := .tuple #[.slice none 0 0, .bool false]) (by simp [results, Try.results14, go_sem]) rfl ⟨rfl, HB5.out⟩
end Go.Proofs.Ytahggokeelgjdaa
