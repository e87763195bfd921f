/- MpP. -/
import Derived.Test.YtanmmhbnjmglhaaZ47
namespace Go.Proofs.Ytanmmhbnjmglhaa
set_option maxRecDepth 100000
open Go.RowKit Go.ChangeMaps Go.MapKept
set_option linter.unusedVariables false
set_option linter.unusedSimpArgs false
/-- The statement's own model. -/
abbrev C45 : Cf := ⟨0, 0, 0, 1, 0, 0, 0, 2, 100, 9, 0⟩
theorem mref_f2 (a b c d e : Int) (w : World) : (Instr.field 52 (.agg #[.int .i64 a, .int .i64 b, .int .i64 c, .int .i64 d, .int .i64 e]) 2).run Try.prog w = .ok (.int .i64 c) w := by
  have hu := fun w => run_underlying (P := Try.prog) Try.underlying52 w
  simp [Instr.field, hu, part, asAgg, Try.isAgg3, go_sem]
set_option maxHeartbeats 1600000 in
theorem w45awake (W : World) : Calls Try.prog 5 #[] W fun e w' => e = .returned (.bool true) ∧ Below W.heap.size W w' := by
  have HN := Lib.hid (mnew C45 2 (by decide) ⟨by decide, by decide, by decide⟩ W)
  simp only [Cf.v] at HN
  go_enter Try.func5, Try.ntmps5
  go_wp2_with fail
  refine HN.out.mono ?_
  rintro e w1 ⟨m, mb, r, rfl, hmo, hm, hmb, hr, hb1⟩
  have hs1 := hb1.size
  have HMO := Lib.hid hmo
  have HB := Lib.hid hb1
  have hE : doE C45 2 1 0 0 0 0 5 0 0 false = 0 := by decide
  have hdo : Calls Try.prog 10 #[.pointer (some ⟨m, 0, none⟩), opv 1 0 0 0 0 5 0 none 0 0, .bool false] w1 fun e w' => e = .returned (.agg #[rE 0, .int .i64 0, .slice none 0 0]) ∧ DG m mb r C45 0 (List.replicate 2 Rf0) 0 5 9 w1 w' := by
    have h9 := mdo_any 1 0 0 0 0 5 0 none 0 0 false (by decide) (by omega) hmo
    have h8 : (List.replicate 2 Rf0).length = 2 := rfl
    rw [h8, hE] at h9
    exact h9.mono fun e w' h7 => ⟨h7.1, h7.2⟩
  have HDO := Lib.hid hdo
  clear hmo hb1 hE hdo HN
  go_wp2_with fail
  refine HDO.out.mono ?_
  rintro e w2 ⟨rfl, ⟨q, d, kb, hmo, hck, hq1, hd1, hq2, hd2⟩, hs2, ho2, hl2⟩
  replace HB := Lib.hid (HB.out.trans (hl2 W.heap.size hm hmb hr (by omega)))
  have HMO2 : Hid (MO m mb r C45 1 [((1 : Int), q)] [⟨1, 0, 5, 0, 31⟩, Rf0] w2) := Lib.hid hmo
  have HCK : Hid (CkAt q d kb 5 9 w2) := Lib.hid hck
  clear hmo hck ho2 hl2 HMO HDO
  go_upto_region 3 with (fail)
  obtain ⟨w3, hw3⟩ : ∃ w3, w2.alloc (.cells #[.int .i64 0, .int .i64 0, .slice none 0 0] 39) = w3 := ⟨_, rfl⟩
  have bw3 : Below w2.heap.size w2 w3 := by rw [← hw3]; exact alc0 _ _
  have sw3 : w3.heap.size = w2.heap.size + 1 := by rw [← hw3]; simp
  have XA : Hid (BX (w2.heap.size) #[.int .i64 0, .int .i64 0, .slice none 0 0] w3) := Lib.hid (by rw [← hw3]; exact bx_new _ _ _)
  rw [hw3]
  clear hw3
  replace HMO2 := Lib.hid (HMO2.out.below bw3)
  replace HCK := Lib.hid (HCK.out.keep (bw3.block q (by omega)) (bw3.block d (by omega)))
  replace HB := Lib.hid (thn HB.out bw3)
  clear bw3
  go_wp2_with fail
  refine (mdo1 q d kb (by simp) rfl (by omega) (by omega) HCK.out HMO2.out).mono ?_
  rintro e w4 ⟨D, rfl, hD1, hD2, hD3, bw4⟩
  have sw4 := bw4.size
  replace HMO2 := Lib.hid (HMO2.out.below bw4)
  replace HCK := Lib.hid (HCK.out.keep (bw4.block q (by omega)) (bw4.block d (by omega)))
  replace XA := Lib.hid (XA.out.block (bw4.block (w2.heap.size) (by omega)))
  replace HB := Lib.hid (thn HB.out bw4)
  clear bw4
  have HL := Lib.hid hD3
  clear hD3
  go_upto_region 4 with (fail)
  obtain ⟨w5, hw5⟩ : ∃ w5, w4.alloc (.cells #[.int .i64 0, .int .i64 0, .slice (some ⟨D, 0, none⟩) 2 2] 39) = w5 := ⟨_, rfl⟩
  have bw5 : Below w4.heap.size w4 w5 := by rw [← hw5]; exact alc0 _ _
  have sw5 : w5.heap.size = w4.heap.size + 1 := by rw [← hw5]; simp
  have XB : Hid (BX (w4.heap.size) #[.int .i64 0, .int .i64 0, .slice (some ⟨D, 0, none⟩) 2 2] w5) := Lib.hid (by rw [← hw5]; exact bx_new _ _ _)
  rw [hw5]
  clear hw5
  replace HMO2 := Lib.hid (HMO2.out.below bw5)
  replace HCK := Lib.hid (HCK.out.keep (bw5.block q (by omega)) (bw5.block d (by omega)))
  replace XA := Lib.hid (XA.out.block (bw5.block (w2.heap.size) (by omega)))
  replace HL := Lib.hid ((World.cell?_of_block (bw5.block (D) (by omega))).trans HL.out)
  replace HB := Lib.hid (thn HB.out bw5)
  clear bw5
  obtain ⟨cA0, cA1, cA2⟩ := XA.out.c3
  obtain ⟨cB0, cB1, cB2⟩ := XB.out.c3
  have cD := HL.out
  go_wp2_with fail
  refine (mlive HMO2.out).mono ?_
  rintro e w9 ⟨rfl, rfl⟩
  go_wp2_with fail
  refine (mget_yes 0 ⟨1, 0, 5, 0, 31⟩ HMO2.out rfl).mono ?_
  rintro e w10 ⟨rfl, hb10⟩
  have hgr : goodR [((1 : Int), q)] ⟨1, 0, 5, 0, 31⟩ = ⟨1, 0, 5, 0, 31⟩ := goodR_in (q := ⟨1, 0, 5, 0, 31⟩) (b := q) (by simp)
  rw [hgr]
  simp only [Rf.v]
  have HB10 := Lib.hid (thn HB.out hb10)
  clear hb10
  have hrf := @mref_f2
  go_wp2_with fail
  go_ret
  exact ⟨rfl, HB10.out⟩
end Go.Proofs.Ytanmmhbnjmglhaa
