/- MpA. -/
import Derived.Test.YtanmmhbnjmglhaaZ31
import Derived.Test.YtanmmhbnjmglhaaZ08
import Derived.Laws.OwnMore
namespace Go.Proofs.Ytanmmhbnjmglhaa
set_option maxRecDepth 100000
open Go.RowKit Go.ChangeMaps Go.MapKept
set_option linter.unusedVariables false
set_option linter.unusedSimpArgs false
theorem rkRef2 (k : Nat) (hk : k ≤ 4096) (W : World) : (Instr.makeSlice 32 (.int .i64 (k : Int)) (.int .i64 (k : Int))).run Try.prog W = .ok (.slice (some ⟨W.heap.size, 0, none⟩) k k) (W.alloc (.cells (madeCells #[.int .i64 0, .int .i64 0, .int .i64 0, .int .i64 0, .int .i64 0] (k * 5)) 54)) := by
  obtain ⟨i0, hi, hz0, hz1, hz2⟩ := info_parts infoRR
  have := run_make (P := Try.prog) (w := W) 32 54 i0 z5 Try.underlying32 hi hz0 .i64 .i64 k k (by omega) (by omega) (by rw [hz2]; omega) (by omega)
  rw [hz1] at this
  simp only [Int.toNat_natCast] at this
  exact this
/-- What room gives: a number of bytes that is not too large. -/
def RoomPost (W : World) (e : Ending) (w' : World) : Prop := (∃ R : Nat, e = .returned (.int .i64 (R : Int)) ∧ R ≤ 9000) ∧ Below W.heap.size W w'
theorem rroom (n a : Int) (W : World) (h1 : 1 ≤ n) (hn : n ≤ 8000) (ha : 1 ≤ a) (ha2 : a ≤ 256) : Calls Try.prog 64 #[.int .i64 n, .int .i64 a] W (RoomPost W) := by
  by_cases hs : n ≤ 1024
  · obtain ⟨j, hj, hj2⟩ : ∃ j : Nat, forI n = (j : Int) ∧ j < 20 := ⟨(forI n).toNat, by have := (tight (x := n) (by omega) (by omega)).1; omega, by have := (tight (x := n) (by omega) (by omega)).2.1; omega⟩
    by_cases ht : a ≤ 16
    · go_enter Try.func64, Try.ntmps64
      go_wp2_with fail
      refine (rfor_any n W (by omega)).mono ?_
      rintro e w1 ⟨rfl, hb⟩
      rw [hj]
      have HB := Lib.hid hb
      clear hb
      go_wp2_with fail
      refine (sizes_any w1).mono ?_
      rintro e w2 ⟨rfl, hw⟩
      have hc := sizes_cell w1 j hj2
      have hb := alc0 w1 sizesO
      rw [hw] at hc hb
      clear hw
      have HB2 := Lib.hid (thn HB.out hb)
      clear hb HB
      go_wp2_with fail
      have hbd := ofI_bd j
      obtain ⟨R, hR⟩ : ∃ R : Nat, ofI j = (R : Int) := ⟨(ofI j).toNat, by omega⟩
      refine bodyPost_ret (v := .int .i64 (ofI j)) (by simp [results, Try.results64, go_sem]) rfl ⟨⟨R, by rw [hR], by omega⟩, HB2.out⟩
    · have hm : max a 16 = a := by omega
      go_enter Try.func64, Try.ntmps64
      go_wp2_with fail
      refine (rfor_any n W (by omega)).mono ?_
      rintro e w1 ⟨rfl, hb⟩
      rw [hj]
      have HB := Lib.hid hb
      clear hb
      go_wp2_with fail
      obtain ⟨R, hR, hR2⟩ : ∃ R : Nat, (a + n + 255) / 256 * 256 - a = (R : Int) ∧ R ≤ 9000 := ⟨((a + n + 255) / 256 * 256 - a).toNat, by omega, by omega⟩
      refine bodyPost_ret (v := .int .i64 (R : Int)) (by simp [results, Try.results64, go_sem, hR]) rfl ⟨⟨R, rfl, by omega⟩, HB.out⟩
  · have hj : forI n = -1 := forI_none.2 (by omega)
    go_enter Try.func64, Try.ntmps64
    go_wp2_with fail
    refine (rfor_any n W (by omega)).mono ?_
    rintro e w1 ⟨rfl, hb⟩
    rw [hj]
    have HB := Lib.hid hb
    clear hb
    go_wp2_with fail
    · obtain ⟨R, hR, hR2⟩ : ∃ R : Nat, (16 + n + 255) / 256 * 256 - 16 = (R : Int) ∧ R ≤ 9000 := ⟨((16 + n + 255) / 256 * 256 - 16).toNat, by omega, by omega⟩
      refine bodyPost_ret (v := .int .i64 (R : Int)) (by simp [results, Try.results64, go_sem, hR]) rfl ⟨⟨R, rfl, by omega⟩, HB.out⟩
    · obtain ⟨R, hR, hR2⟩ : ∃ R : Nat, (a + n + 255) / 256 * 256 - a = (R : Int) ∧ R ≤ 9000 := ⟨((a + n + 255) / 256 * 256 - a).toNat, by omega, by omega⟩
      refine bodyPost_ret (v := .int .i64 (R : Int)) (by simp [results, Try.results64, go_sem, hR]) rfl ⟨⟨R, rfl, by omega⟩, HB.out⟩
/-- An append onto a row of one's own, as one step of a region that draws. -/
theorem step_app_own {ops : Array Oper} {o : Oper} {a : Act} {w : World} {K : Act → World → Prop} {Q : Exit → Act → World → Prop} {E : Prop} (hgd : o.guard = none) (s x : Operand) (t : TypeId)
    (ho : o.op = .call { callee := .builtin .append, args := #[s, x], argTypes := #[t, t] })
    (base : Nat) (e : TypeId) (i : TypeInfo) (size : Nat) (ht : Try.prog.underlying t = some (.slice e)) (hi : Try.prog.info? e = some i)
    (v : Value) (n : Nat) (xs : List Value) (hs : a.eval s = v) (hown : w.ownsRow base e size v n xs) (hx : a.eval x = .slice none 0 0)
    (h : K (a.put o.dst v) w) : if Region.wanted o (yielded ops a.tmps) = true then Oper.wp Try.prog o a w K Q else E := by
  have hw : Region.wanted o (yielded ops a.tmps) = true := by simp [Region.wanted, hgd]
  rw [if_pos hw]
  have hrun := run_append_owned_none (P := Try.prog) (w := w) base t o.type e i size ht hi v n xs hown
  unfold Oper.wp
  simp [execOp, ho, resolve, invoke, builtin, hs, hx, hrun, Result.andThen]
  exact h
end Go.Proofs.Ytanmmhbnjmglhaa
