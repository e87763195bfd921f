/- trace.Read of what was written. -/
import Derived.Test.YtahggokeelgjdaaTrN
namespace Go.Proofs.Ytahggokeelgjdaa
open Go.RowKit
set_option linter.unusedVariables false
set_option linter.unusedSimpArgs false

def odOf (l : List OV) : List (Op7 × List Nat) := l.map fun p => (p.o, p.d)
theorem bytesB_od {l l' : List OV} (h : odOf l' = odOf l) : bytesB l' = bytesB l := by
  have hl : l'.length = l.length := by have := congrArg List.length h; simpa [odOf] using this
  have hf : ∀ k : List OV, (k.flatMap fun p => oneB p.o p.d) = (odOf k).flatMap fun q => oneB q.1 q.2 := fun k => by simp [odOf, List.flatMap_map]
  rw [bytesB, bytesB, hl, hf, hf, h]
theorem mayB_od {l l' : List OV} (h : odOf l' = odOf l) : mayB l' = mayB l := by
  have hl : l'.length = l.length := by have := congrArg List.length h; simpa [odOf] using this
  have hf : ∀ k : List OV, (∀ p ∈ k, p.d.length ≤ 4096) ↔ ∀ q ∈ odOf k, q.2.length ≤ 4096 := fun k => by simp [odOf]
  rw [mayB, mayB, hl]
  congr 1
  rw [hf, hf, h]
set_option maxHeartbeats 3200000 in
theorem trRead_ok (v : Value) (l : List OV) (W : World) (h : RD W v (bytesB l)) (hm : mayB l = true) (hok : ∀ p ∈ l, p.o.ok) (hx : ∀ x ∈ bytesB l, x < 256) :
    Calls Try.prog 14 #[v] W fun e w' => (∃ v' l', e = .returned (.tuple #[v', .bool true]) ∧ OPS w' v' l' ∧ odOf l' = odOf l) ∧ Below W.heap.size W w' := by
  obtain ⟨s, hs, cs⟩ := conv_rd W v _ h hx
  have hmm : l.length ≤ 500 ∧ ∀ p ∈ l, p.d.length ≤ 4096 := by rwa [mayB, decide_eq_true_iff] at hm
  have hl5 := hmm.1
  have hnb : (-9223372036854775808 : Int) ≤ (l.length : Int) ∧ (l.length : Int) ≤ 9223372036854775807 := by omega
  have hpre : (sb s).take (⟨#[67, 84, 49]⟩ : ByteArray).size = sb ⟨#[67, 84, 49]⟩ := by rw [hs, bytesB]; rfl
  have hss : s.size ≤ 140737488351232 := by
    rw [← sb_size, hs]
    obtain ⟨_, _, _, h2, _⟩ := h
    exact h2
  obtain ⟨s1, hs1⟩ : ∃ s1, s.extract (⟨#[67, 84, 49]⟩ : ByteArray).size s.size = s1 := ⟨_, rfl⟩
  have hsb1 : sb s1 = vb (zig (l.length : Int)) ++ l.flatMap fun p => oneB p.o p.d := by
    rw [← hs1, sb_drop, hs, bytesB, List.append_assoc]
    rfl
  have hz1 : s1.size ≤ 140737488351232 := by
    have h1 := congrArg List.length hsb1
    have h2 := congrArg List.length hs
    rw [sb_size] at h1 h2
    rw [bytesB, List.append_assoc, List.length_append, ← h1] at h2
    omega
  have HD := Lib.hid h
  have HX := Lib.hid hx
  have HOK := Lib.hid hok
  have HMM := Lib.hid hmm
  have HM := Lib.hid hm
  have HNB := Lib.hid hnb
  have HSB1 := Lib.hid hsb1
  have HZ1 := Lib.hid hz1
  have HS1 := Lib.hid hs1
  have HP := Lib.hid hpre
  clear h hm hok hx hmm hnb hsb1 hz1 hs1 hpre hss hs
  have hsh := HD.out
  obtain ⟨A, c, rfl, _, _⟩ := hsh
  go_enter Try.func14, Try.ntmps14
  go_wp2_with fail
  refine (cutPre s ⟨#[67, 84, 49]⟩ W HP.out).mono ?_
  rintro e w1 ⟨rfl, q1, hw1⟩
  rw [HS1.out]
  have HB1 : Hid (Below W.heap.size W w1) := Lib.hid (by rw [hw1]; exact below_drewN (Below.refl _ _) _)
  clear hw1 cs
  obtain ⟨g, hg⟩ : ∃ g, w1.heap.size = g := ⟨_, rfl⟩
  have HG : Hid (RdAt g (w1.alloc (.cells #[.string s1, .bool false] 50)) s1 false) := Lib.hid (by rw [← hg]; exact ⟨by simp, by simp, by simp, fun o => by simp⟩)
  have HWg : Hid (W.heap.size ≤ g) := Lib.hid (by rw [← hg]; exact HB1.out.size)
  have HR1 : Hid (rdN 10 0 0 (sb s1) = some (zig (l.length : Int), l.flatMap fun p => oneB p.o p.d)) := Lib.hid (by rw [HSB1.out]; exact rdN_zig _ _ HNB.out)
  go_wp2_with fail
  refine (rnum_ok g s1 _ _ _ HG.out HR1.out).mono ?_
  rintro e w3 ⟨rfl, ⟨s3, hs3, hr3⟩, ho3⟩
  rw [unzig_zig]
  have hb3 : Below W.heap.size W w3 := (HB1.out.trans ((alc0 w1 _).mono HB1.out.size)).trans (ho3.2.2 _ HWg.out (by simp; have := HB1.out.size; omega))
  have HG3 := Lib.hid hr3
  have HB3 := Lib.hid hb3
  have HS3 := Lib.hid hs3
  have HZ3 : Hid (s3.size ≤ 140737488351232) := Lib.hid (by
    have h1 := congrArg List.length HSB1.out
    rw [sb_size, List.length_append] at h1
    have h2 := congrArg List.length hs3
    rw [sb_size] at h2
    have := HZ1.out
    omega)
  have hmany : ¬ (500 : Int) < l.length := by omega
  clear hr3 hb3 hs3 ho3 HG hg
  go_wp2_with fail
  go_loopw [8, 25] (fun v8 v25 wr => ∃ (i bl : Nat) (l' : List OV) (s' : ByteArray), i ≤ l.length ∧ v25 = .int .i64 i ∧ Hid (LQ g bl wr v8 l' ∧ (l' = [] ∨ W.heap.size ≤ bl) ∧ (l' = [] → bl = g)) ∧ Hid (odOf l' = odOf (l.take i)) ∧ Hid (RdAt g wr s' false) ∧ Hid (sb s' = (l.drop i).flatMap fun p => oneB p.o p.d) ∧ Hid (s'.size ≤ 140737488351232) ∧ Hid (Below W.heap.size W wr)) (fun _ v25 _ => l.length - (intOf v25).toNat)
  case atStart => exact ⟨0, g, [], s3, by omega, rfl, Lib.hid ⟨⟨vz_nil _ _ _, fun _ => rfl, fun h => absurd rfl h, by simp⟩, .inl rfl, fun _ => rfl⟩, Lib.hid rfl, HG3, Lib.hid HS3.out, HZ3, HB3⟩
  case round =>
    clear HG3 HB3 HS3 HZ3
    obtain ⟨i, bl, l', s', hi, rfl, HQ, HO, HG, HS, HZ, HB⟩ := hrel
    have hll : l'.length = i := by
      have := congrArg List.length HO.out
      simp [odOf] at this
      omega
    have hsh := HQ.out.1.1
    obtain ⟨A8, c8, rfl, _⟩ := hsh
    by_cases hlt : i < l.length
    · obtain ⟨p, hp⟩ : ∃ p, l[i]? = some p := ⟨_, List.getElem?_eq_getElem hlt⟩
      have hdr : l.drop i = p :: l.drop (i + 1) := by
        rw [List.drop_eq_getElem_cons hlt]
        rw [List.getElem?_eq_getElem hlt] at hp
        rw [Option.some.inj hp]
      have hrd : rdO (sb s') = some (p.o.l, p.d, (l.drop (i + 1)).flatMap fun p => oneB p.o p.d) := by
        rw [HS.out, hdr, List.flatMap_cons]
        exact rdO_one _ _ _ (HOK.out p (List.mem_of_getElem? hp)) (by have := HMM.out.2 p (List.mem_of_getElem? hp); omega)
      have HRD := Lib.hid hrd
      have HPi := Lib.hid hp
      have i1 : (i : Int) < l.length := by omega
      have HLL := Lib.hid hll
      clear hp hdr hrd hll
      go_wp2_with fail
      refine (rone_ok g s' wr p.o p.d _ HG.out HRD.out HZ.out).mono ?_
      rintro e w4 ⟨⟨dv, rfl, hdd⟩, ⟨s4, hs4, hz4, hr4⟩, ho4⟩
      have HQ4 : Hid (LQ g bl w4 (.slice A8 l'.length c8) l' ∧ (l' = [] ∨ W.heap.size ≤ bl) ∧ (l' = [] → bl = g)) := Lib.hid ⟨HQ.out.1.keep ho4.1 (fun j hj hn => ho4.2.1 j hj hn), HQ.out.2⟩
      have HDD := Lib.hid hdd
      have HR4 := Lib.hid hr4
      have HS4 := Lib.hid hs4
      have HZ4 : Hid (s4.size ≤ 140737488351232) := Lib.hid (Nat.le_trans hz4 HZ.out)
      have HB4 : Hid (Below W.heap.size W w4) := Lib.hid (HB.out.trans (ho4.2.2 _ HWg.out HB.out.size))
      have HO4 := Lib.hid ho4
      have hgl : g < w4.heap.size := hr4.1
      clear hdd hs4 hz4 hr4 ho4
      have hone : ∀ u ∈ enc8 ⟨p.o, p.d, dv⟩, u.oneCell' = true := by
        obtain ⟨D, c9, e9, _⟩ := HDD.out
        intro u hu
        simp only [enc8, List.mem_cons, List.not_mem_nil, or_false] at hu
        rcases hu with rfl | rfl | rfl | rfl | rfl | rfl | rfl | rfl
        all_goals first | rfl | (rw [e9]; rfl)
      have HQa : Hid (LQ g bl (w4.alloc (.cells #[.int .i64 p.o.k, .int .i64 p.o.t, .int .i64 p.o.a, .int .i64 p.o.b, .int .i64 p.o.v, .int .i64 p.o.n, .int .i64 p.o.m, dv] 25)) (.slice A8 l'.length c8) l') := Lib.hid (HQ4.out.1.keep (by simp) (fun j hj _ => Below.heap_alloc _ _ _ hj))
      obtain ⟨b0, hb0, hvz⟩ : ∃ b0, ((l' = [] ∧ b0 = (w4.alloc (.cells #[.int .i64 p.o.k, .int .i64 p.o.t, .int .i64 p.o.a, .int .i64 p.o.b, .int .i64 p.o.v, .int .i64 p.o.n, .int .i64 p.o.m, dv] 25)).heap.size) ∨ (l' ≠ [] ∧ b0 = bl)) ∧ VZ 8 b0 (w4.alloc (.cells #[.int .i64 p.o.k, .int .i64 p.o.t, .int .i64 p.o.a, .int .i64 p.o.b, .int .i64 p.o.v, .int .i64 p.o.n, .int .i64 p.o.m, dv] 25)) (.slice A8 l'.length c8) l'.length (l'.flatMap enc8) := by
        by_cases hne : l' = []
        · refine ⟨_, .inl ⟨hne, rfl⟩, ?_⟩
          have e := HQ4.out.1.2.1 hne
          rw [e, hne]
          exact vz_nil _ _ _
        · exact ⟨bl, .inr ⟨hne, rfl⟩, HQa.out.1⟩
      have HB0 := Lib.hid hb0
      have HVZ := Lib.hid hvz
      have hll5 : l'.length ≤ 500 := by have := HLL.out; omega
      clear hb0 hvz
      go_wp2_with (at_builtin; refine app_vz tyOp rfl _ _ rfl b0 (.slice A8 l'.length c8) l'.length (l'.flatMap enc8) rfl HVZ.out ⟨w4.heap.size, 0, none⟩ 1 1 (enc8 ⟨p.o, p.d, dv⟩) rfl rfl (new8 w4 ⟨p.o, p.d, dv⟩ _) hone (.inl (by decide)) (by omega) ?_)
      rintro v9 w9 hp9
      have hrdn : RDN g bl (w4.alloc (.cells #[.int .i64 p.o.k, .int .i64 p.o.t, .int .i64 p.o.a, .int .i64 p.o.b, .int .i64 p.o.v, .int .i64 p.o.n, .int .i64 p.o.m, dv] 25)) dv p.d := by
        obtain ⟨D, c9, e9, h1, h2, h3, h4⟩ := HDD.out
        have hgw := HG.out.1
        refine ⟨D, c9, e9, by omega, ?_, by simp; omega, h3, h4.keep (Below.heap_alloc _ _ _ h2)⟩
        by_cases hne : l' = []
        · have := HQ.out.2.2 hne
          omega
        · have := (HQ.out.1.2.2.1 hne).1
          omega
      obtain ⟨bl', hLQ, hs9, hg9, hL9, hbl9⟩ := LQ.add (p := ⟨p.o, p.d, dv⟩) HQa.out (by simp; omega) (HOK.out p (List.mem_of_getElem? HPi.out)) hrdn b0 HB0.out hp9
      have hLe : l' = [] ∨ W.heap.size ≤ bl := HQ4.out.2.1
      have HQ9 : Hid (LQ g bl' w9 v9 (l' ++ [⟨p.o, p.d, dv⟩]) ∧ (l' ++ [⟨p.o, p.d, dv⟩] = [] ∨ W.heap.size ≤ bl') ∧ (l' ++ [(⟨p.o, p.d, dv⟩ : OV)] = [] → bl' = g)) := Lib.hid ⟨hLQ, .inr (by
        rcases hbl9 with ⟨rfl, hne⟩ | h
        · rcases hLe with h | h
          · exact absurd h hne
          · exact h
        · simp at h
          have := HB4.out.size
          omega), fun h => by simp at h⟩
      have HB9 : Hid (Below W.heap.size W w9) := Lib.hid ((HB4.out.alloc HB4.out.size _).trans (hL9 _ (by simp; have := HB4.out.size; omega) hLe))
      have HG9 : Hid (RdAt g w9 s4 false) := Lib.hid ((HR4.out.keep (by simp) (Below.heap_alloc w4 _ _ hgl)).keep hs9 hg9)
      have HO9 : Hid (odOf (l' ++ [⟨p.o, p.d, dv⟩]) = odOf (l.take (i + 1))) := Lib.hid (by
        have h1 := HO.out
        rw [List.take_add_one, HPi.out]
        simp only [odOf, List.map_append] at h1 ⊢
        rw [h1]
        rfl)
      obtain ⟨z1, z2, z3, z4⟩ := HG9.out
      clear hp9 hrdn hLQ hs9 hg9 hL9 hbl9 hone HQa HVZ HB0 HQ4 HDD HR4 HB4 HO4 HQ HO HG HS HZ HB z4 hLe
      go_wp2_with fail
      go_roundw
      case rel => exact ⟨i + 1, bl', _, s4, by omega, by go_num, HQ9, HO9, HG9, HS4, HZ4, HB9⟩
      case measure => simp [intOf] <;> omega
    · obtain rfl : i = l.length := by omega
      have hod : odOf l' = odOf l := by have := HO.out; rwa [List.take_length] at this
      have HOD := Lib.hid hod
      have HOP : Hid (OPS wr (.slice A8 l'.length c8) l') := Lib.hid (HQ.out.1.ops (by omega))
      have hm' : mayB l' = true := by rw [mayB_od hod]; exact HM.out
      have HM' := Lib.hid hm'
      obtain ⟨z1, z2, z3, z4⟩ := HG.out
      have HLL := Lib.hid hll
      clear hod hm' z4 hll
      go_wp2_with fail
      with_reducible refine Calls.mono (trBytes _ l' wr HOP.out) ?_
      rintro e w5 (⟨_, bn, vn, rfl, hbn, hvn, hb5, _⟩ | ⟨hf, _⟩)
      · have hlen : (bytesB l').length ≤ 140737488351232 := by
          rw [bytesB_od HOD.out]
          obtain ⟨_, _, _, h2, _⟩ := HD.out
          exact h2
        have HRn : Hid (RD w5 vn (bytesB l)) := Lib.hid (by have := BY.rd hvn hlen; rwa [bytesB_od HOD.out] at this)
        have HRb : Hid (RD w5 (.slice A (bytesB l).length c) (bytesB l)) := Lib.hid ((HD.out.keep HB.out).keep hb5)
        have HOP5 : Hid (OPS w5 (.slice A8 l'.length c8) l') := Lib.hid (HOP.out.keep hb5)
        have HB5 : Hid (Below W.heap.size W w5) := Lib.hid (HB.out.trans (hb5.mono HB.out.size))
        clear hbn hvn hb5 hlen
        go_wp2_with fail
        with_reducible refine Calls.mono (beq_bytes vn _ _ _ w5 HRn.out HRb.out HX.out HX.out) ?_
        rintro e w6 ⟨rfl, rfl⟩
        rw [decide_eq_true rfl]
        go_wp2
        refine bodyPost_ret (v := .tuple #[.slice A8 l'.length c8, .bool true]) (by simp [results, Try.results14, go_sem]) rfl ⟨⟨_, l', rfl, HOP5.out, HOD.out⟩, HB5.out⟩
      · rw [HM'.out] at hf
        cases hf
end Go.Proofs.Ytahggokeelgjdaa
