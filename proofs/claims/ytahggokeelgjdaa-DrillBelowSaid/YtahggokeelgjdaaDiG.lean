/- Dice: five things. -/
import Derived.Test.YtahggokeelgjdaaDiE
import Derived.Test.YtahggokeelgjdaaDiF
namespace Go.Proofs.Ytahggokeelgjdaa
open Go.RowKit
set_option linter.unusedVariables false
set_option linter.unusedSimpArgs false

theorem tyOp : TyOK 25 22 8 80 (.agg #[.int .i64 0, .int .i64 0, .int .i64 0, .int .i64 0, .int .i64 0, .int .i64 0, .int .i64 0, .slice none 0 0]) := ⟨Try.underlying22, by kernel_rfl, rfl, by decide, by decide⟩
set_option maxRecDepth 100000 in
set_option maxHeartbeats 16000000 in
theorem dops (g s : Nat) (pg rg lg th ca ba sh re mo fi key : Int) (W : World) (h : DC g s W) (hth : 1 ≤ th ∧ th ≤ 1048576) (hre : 1 ≤ re ∧ re ≤ 1048576) (hmo : 1 ≤ mo ∧ mo ≤ 1048576) :
    Calls Try.prog 33 #[.pointer (some ⟨g, 0, none⟩), .agg #[.int .i64 pg, .int .i64 rg, .int .i64 lg, .int .i64 th, .int .i64 ca, .int .i64 ba, .int .i64 sh, .int .i64 re, .int .i64 mo, .int .i64 fi, .int .u64 key], .int .i64 5] W fun e w' => ∃ A c, e = .returned (.slice A 5 c) ∧ ∃ s', DP g s' W w' := by
  have hgW := h.1
  have H0 := Lib.hid ((DP.start h).below (alc0 W (.cells #[.int .i64 pg, .int .i64 rg, .int .i64 lg, .int .i64 th, .int .i64 ca, .int .i64 ba, .int .i64 sh, .int .i64 re, .int .i64 mo, .int .i64 fi, .int .u64 key] 59)))
  have HX := Lib.hid (ConfAt.new W pg rg lg th ca ba sh re mo fi key 59)
  clear h
  go_enter Try.func33, Try.ntmps33
  go_upto_region 1 with (fail)
  obtain ⟨x4, hx4⟩ : ∃ x4, W.heap.size = x4 := ⟨_, rfl⟩
  obtain ⟨w0, hw0⟩ : ∃ w0, W.alloc (.cells #[.int .i64 pg, .int .i64 rg, .int .i64 lg, .int .i64 th, .int .i64 ca, .int .i64 ba, .int .i64 sh, .int .i64 re, .int .i64 mo, .int .i64 fi, .int .u64 key] 59) = w0 := ⟨_, rfl⟩
  rw [hw0] at H0 HX ⊢
  rw [hx4] at HX ⊢
  have hxg : x4 ≠ g := by omega
  have HX4 := Lib.hid hx4
  clear hw0 hx4
  go_wp2_with fail
  go_loopw [7, 11] (fun v7 v11 wr => ∃ (i b s' : Nat) (cs : List Value), i ≤ 5 ∧ v11 = .int .i64 i ∧ Hid (VZ 8 b wr v7 i cs) ∧ Hid (x4 < b ∧ DP g s' W wr ∧ ConfAt x4 wr pg rg lg th ca ba sh re mo fi key)) (fun _ v11 _ => 5 - (intOf v11).toNat)
  case atStart => exact ⟨0, x4 + 1, s, [], by omega, rfl, Lib.hid (vz_nil _ _ _), Lib.hid ⟨by omega, H0.out, HX.out⟩⟩
  case round =>
    clear H0 HX
    obtain ⟨i, b, s', cs, hi, rfl, HZ, HR⟩ := hrel
    obtain ⟨A3, c3, e3, -⟩ := HZ.out
    subst e3
    by_cases him : i < 5
    · have himI : (i : Int) < 5 := by omega
      obtain ⟨hxl, k0, k1, k2, k3, k4, k5, k6, k7, k8, k9, k10, -⟩ := HR.out.2.2
      go_wp2_with fail
      with_reducible refine Calls.mono (dop g s' pg rg lg th ca ba sh re mo fi key _ HR.out.2.1.dc hth hre hmo) ?_
      rintro e w2 ⟨k, t, a, bb, v, n, m, A, l, c, rfl, s2, hd⟩
      have hgb : b ≠ g := by have := HR.out.1; have := HX4.out; omega
      have HZ2 : Hid (VZ 8 b w2 (.slice A3 i c3) i cs) := Lib.hid (HZ.out.keep hd.kp.1.size (fun hb => hd.kp.2 b hb hgb))
      have HR2 : Hid (x4 < b ∧ DP g s2 W w2 ∧ ConfAt x4 w2 pg rg lg th ca ba sh re mo fi key) := Lib.hid ⟨HR.out.1, HR.out.2.1.trans hd, HR.out.2.2.kps hxg hd.kp⟩
      clear hd HZ HR hxl k0 k1 k2 k3 k4 k5 k6 k7 k8 k9 k10
      go_wp2_with (at_builtin; refine app_vz tyOp rfl (.tmp 13) (.tmp 17) rfl b _ i cs rfl (HZ2.out.below (alc0 _ _)) ⟨w2.heap.size, 0, none⟩ 1 1 [.int .i64 k, .int .i64 t, .int .i64 a, .int .i64 bb, .int .i64 v, .int .i64 n, .int .i64 m, .slice A l c] rfl rfl ?_ ?_ (.inl (by decide)) (by omega) ?_)
      case refine_1 =>
        intro j u hu
        have hj : j < 8 := by
          have := (List.getElem?_eq_some_iff.1 hu).1
          simpa using this
        rw [addp, Nat.zero_add, World.cell?_alloc_mark]
        rw [← hu]
        simp
      case refine_2 =>
        intro u hu
        simp only [List.mem_cons, List.not_mem_nil, or_false] at hu
        rcases hu with rfl | rfl | rfl | rfl | rfl | rfl | rfl | rfl <;> rfl
      intro v9 w3 hz3
      have hR3 := (HR2.out.2.1.below (alc0 w2 _)).vp hz3 (by have := HR2.out.1; have := HX4.out; omega) hgW
      have hX3 := HR2.out.2.2.below (alc0 w2 (.cells #[.int .i64 k, .int .i64 t, .int .i64 a, .int .i64 bb, .int .i64 v, .int .i64 n, .int .i64 m, .slice A l c] 25))
      obtain ⟨b', hb', hzb, hsz3, ho3, -⟩ := hz3
      have HZ3 := Lib.hid hzb
      have HR3 : Hid (x4 < b' ∧ DP g s2 W w3 ∧ ConfAt x4 w3 pg rg lg th ca ba sh re mo fi key) := Lib.hid ⟨hb'.elim (fun h => by rw [h]; exact HR2.out.1) (fun h => Nat.lt_of_lt_of_le hX3.1 h), hR3, hX3.keep hsz3 (ho3 x4 hX3.1 (by have := HR2.out.1; omega))⟩
      clear hb' hzb hR3 hX3 hsz3 ho3 HZ2 HR2
      go_wp2_with fail
      go_roundw
      case rel => exact ⟨i + 1, b', _, _, by omega, by go_num, HZ3, HR3⟩
      case measure => simp [intOf] <;> omega
    · obtain rfl : i = 5 := by omega
      go_wp2
      go_ret
      exact ⟨_, _, rfl, _, HR.out.2.1⟩
end Go.Proofs.Ytahggokeelgjdaa
