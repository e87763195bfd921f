/- MoC. -/
import Derived.Test.YtanmmhbnjmglhaaZ03
import Derived.Deep.RegionHeld3
import Derived.Test.YtanmmhbnjmglhaaZ06
import Derived.Test.YtanmmhbnjmglhaaZ08
import Derived.Laws.MakeOwn
import Derived.Laws.OwnMore
import Derived.Laws.IdiomCopy
namespace Go.Proofs.Ytanmmhbnjmglhaa
set_option maxRecDepth 100000
open Go.RowKit Go.ChangeMaps Go.MapKept
set_option linter.unusedVariables false
set_option linter.unusedSimpArgs false
theorem infoU8 : (Try.prog.info? 5).map (fun i => (i.zero, i.size, i.bytes)) = some (some (.int .u8 0), 1, 1) := by kernel_rfl
theorem mkN (n : Nat) (hn : n ≤ 262144) (W : World) : (Instr.makeSlice 37 (.int .i64 (n : Int)) (.int .i64 (n : Int))).run Try.prog W = .ok (.slice (some ⟨W.heap.size, 0, none⟩) n n) (W.alloc (.cells (madeCells #[.int .u8 0] n) 5)) := by
  obtain ⟨i0, hi, hz0, hz1, hz2⟩ := info_parts infoU8
  have := run_make (P := Try.prog) (w := W) 37 5 i0 (.int .u8 0) Try.underlying37 hi hz0 .i64 .i64 n n (by omega) (by omega) (by rw [hz2]; omega) (by omega)
  rw [hz1, Int.toNat_natCast, Nat.mul_one] at this
  exact this
theorem made_cell (W : World) (n : Nat) (E : TypeId) (j : Nat) (hj : j < n) : (W.alloc (.cells (madeCells #[.int .u8 0] n) E)).cell? ⟨W.heap.size, j, none⟩ = some (.int .u8 0) := by
  rw [World.cell?_alloc_mark]
  have := toList_madeCells_one (.int .u8 0) n
  rw [← Array.getElem?_toList, this, List.getElem?_replicate, if_pos hj]
theorem large_f3 (a b c d : Int) (w : World) : (Instr.field 117 (.agg #[.int .i64 a, .int .i64 b, .int .i64 c, .int .i64 d]) 3).run Try.prog w = .ok (.int .i64 d) w := by
  have hu := fun w => run_underlying (P := Try.prog) Try.underlying117 w
  simp [Instr.field, hu, part, asAgg, Try.isAgg3, go_sem]
theorem malB1 : malB 1 = true := malB_list (.inl rfl)
theorem mroom (a n : Int) (W : World) (ha : malB a = true) (h1 : 1 ≤ n) (hn : n ≤ 8000) : Calls Try.prog 60 #[.int .i64 a, .int .i64 n] W fun e w' => (∃ R, e = .returned (.tuple #[.int .i64 R, .int .i64 0])) ∧ Below W.heap.size W w' := by
  have hbd := needI_bd ha h1 (show n ≤ 16384 by omega)
  have hny := need_yes n a W ha h1 (by omega)
  by_cases hs : n ≤ 1024
  · by_cases ht : a ≤ 16
    · clear hny hbd
      go_enter Try.func60, Try.ntmps60
      go_wp2_with fail
      refine (for_any n W (by omega)).mono ?_
      rintro e w1 ⟨rfl, rfl⟩
      go_wp2_with fail
      refine (of_any _ W).mono ?_
      rintro e w1 ⟨rfl, rfl⟩
      go_wp2_with fail
      refine bodyPost_ret (v := .tuple #[.int .i64 (ofI (forI n)), .int .i64 0]) (by simp [results, Try.results60, go_sem]) rfl ⟨⟨_, rfl⟩, Below.refl _ _⟩
    · have HNY := Lib.hid hny
      have HBD := Lib.hid hbd
      clear hny hbd
      go_enter Try.func60, Try.ntmps60
      go_wp2_with fail
      refine HNY.out.mono ?_
      rintro e w1 ⟨rfl, rfl⟩
      go_wp2_with fail
      refine (gin_yes 0 (needI n a) a W ha (by omega) (by omega) (by have := HBD.out; omega) (by have := HBD.out; omega)).mono ?_
      rintro e w1 ⟨rfl, hb⟩
      have HB := Lib.hid hb
      clear hb
      have hlf := @large_f3
      go_wp2_with fail
      refine bodyPost_ret (v := .tuple #[.int .i64 (needI n a * 256 - max a 16), .int .i64 0]) (by simp [results, Try.results60, go_sem]) rfl ⟨⟨_, rfl⟩, HB.out⟩
  · have HNY := Lib.hid hny
    have HBD := Lib.hid hbd
    clear hny hbd
    go_enter Try.func60, Try.ntmps60
    go_wp2_with fail
    refine HNY.out.mono ?_
    rintro e w1 ⟨rfl, rfl⟩
    go_wp2_with fail
    refine (gin_yes 0 (needI n a) a W ha (by omega) (by omega) (by have := HBD.out; omega) (by have := HBD.out; omega)).mono ?_
    rintro e w1 ⟨rfl, hb⟩
    have HB := Lib.hid hb
    clear hb
    have hlf := @large_f3
    go_wp2_with fail
    refine bodyPost_ret (v := .tuple #[.int .i64 (needI n a * 256 - max a 16), .int .i64 0]) (by simp [results, Try.results60, go_sem]) rfl ⟨⟨_, rfl⟩, HB.out⟩
section
variable {m mb r : Nat} {C : Cf} {md : Nat} {ch : List (Int × Nat)} {rs : List Rf} {W : World}
/-- What get is refused for. -/
def askE (C : Cf) (t n : Int) (full : Bool) : Int := if t < 0 ∨ C.th ≤ t ∨ n < 1 then 1 else if C.mo < n then 4 else if full then 13 else 0
set_option maxHeartbeats 1600000 in
theorem mget_err (t a n f : Int) (full : Bool) (h : MO m mb r C md ch rs W) (ha : malB a = true) (he : askE C t n full ≠ 0) :
    Calls Try.prog 39 #[.pointer (some ⟨m, 0, none⟩), .int .i64 t, .int .i64 a, .int .i64 n, .int .u8 f, .bool full] W fun e w' => e = .returned (.tuple #[z5, rE (askE C t n full)]) ∧ Below W.heap.size W w' := by
  have H1 := Lib.hid (fun o => h.below (alc0 W o))
  have hm := h.lt.1
  have c8 := h.cf.2.2.2.2.2.2.2.2.1
  have hok := h.ok.1
  clear h
  by_cases ht : 0 ≤ t ∧ t < C.th
  · by_cases hn : n < 1
    · have hE : askE C t n full = 1 := by unfold askE; rw [if_pos (.inr (.inr hn))]
      rw [hE]
      clear he hE
      go_enter Try.func39, Try.ntmps39
      go_wp2_with fail
      refine (mthread_yes t (H1.out _) ht).mono ?_
      rintro e w1 ⟨rfl, rfl⟩
      go_wp2_with fail
      refine bodyPost_ret (v := .tuple #[z5, rE 1]) (by simp [results, Try.results39, go_sem]) rfl ⟨rfl, alc0 _ _⟩
    · by_cases hb : C.mo < n
      · have hE : askE C t n full = 4 := by unfold askE; rw [if_neg (by omega), if_pos hb]
        rw [hE]
        have hb2 : n > C.mo := hb
        clear he hE
        go_enter Try.func39, Try.ntmps39
        go_wp2_with fail
        refine (mthread_yes t (H1.out _) ht).mono ?_
        rintro e w1 ⟨rfl, rfl⟩
        go_wp2_with fail
        refine bodyPost_ret (v := .tuple #[z5, rE 4]) (by simp [results, Try.results39, go_sem]) rfl ⟨rfl, alc0 _ _⟩
      · cases full with
        | false => exact absurd (by unfold askE; rw [if_neg (by omega), if_neg hb]; rfl) he
        | true =>
          have hE : askE C t n true = 13 := by unfold askE; rw [if_neg (by omega), if_neg hb]; rfl
          rw [hE]
          have hb2 : ¬ n > C.mo := hb
          have HBO := Lib.hid hb
          clear he hE
          go_enter Try.func39, Try.ntmps39
          go_wp2_with fail
          refine (mthread_yes t (H1.out _) ht).mono ?_
          rintro e w1 ⟨rfl, rfl⟩
          go_wp2_with fail
          refine (mroom a n _ ha (by omega) (by have := HBO.out; have := hok.2.1; omega)).mono ?_
          rintro e w1 ⟨⟨R, rfl⟩, hb1⟩
          have y0 := (hb1.cell (p := ⟨W.heap.size, 0, none⟩) (by simp)).trans (show _ = some (Value.int .i64 0) by simp)
          have y1 := (hb1.cell (p := ⟨W.heap.size, 1, none⟩) (by simp)).trans (show _ = some (Value.int .i64 0) by simp)
          have y2 := (hb1.cell (p := ⟨W.heap.size, 2, none⟩) (by simp)).trans (show _ = some (Value.int .i64 0) by simp)
          have y3 := (hb1.cell (p := ⟨W.heap.size, 3, none⟩) (by simp)).trans (show _ = some (Value.int .i64 0) by simp)
          have y4 := (hb1.cell (p := ⟨W.heap.size, 4, none⟩) (by simp)).trans (show _ = some (Value.int .i64 0) by simp)
          have z0 := (hb1.frozen (p := ⟨W.heap.size, 0, none⟩) (by simp)).trans (show _ = false by simp)
          have z1 := (hb1.frozen (p := ⟨W.heap.size, 1, none⟩) (by simp)).trans (show _ = false by simp)
          have z2 := (hb1.frozen (p := ⟨W.heap.size, 2, none⟩) (by simp)).trans (show _ = false by simp)
          have z3 := (hb1.frozen (p := ⟨W.heap.size, 3, none⟩) (by simp)).trans (show _ = false by simp)
          have z4 := (hb1.frozen (p := ⟨W.heap.size, 4, none⟩) (by simp)).trans (show _ = false by simp)
          have HB1 := Lib.hid ((alc0 W _).trans (hb1.mono (by simp)))
          clear hb1
          go_wp2_with fail
          refine bodyPost_ret (v := .tuple #[z5, rE 13]) (by simp [results, Try.results39, go_sem, y0, y1, y2, y3, y4]) rfl ⟨rfl, ?_⟩
          exact HB1.out.setCell (p := ⟨W.heap.size, 0, none⟩) (Nat.le_refl _) _ |>.setCell (p := ⟨W.heap.size, 1, none⟩) (Nat.le_refl _) _ |>.setCell (p := ⟨W.heap.size, 2, none⟩) (Nat.le_refl _) _ |>.setCell (p := ⟨W.heap.size, 3, none⟩) (Nat.le_refl _) _ |>.setCell (p := ⟨W.heap.size, 4, none⟩) (Nat.le_refl _) _
  · have hE : askE C t n full = 1 := by unfold askE; rw [if_pos (by omega)]
    rw [hE]
    clear he hE
    go_enter Try.func39, Try.ntmps39
    go_wp2_with fail
    refine (mthread_no t (H1.out _) (by omega)).mono ?_
    rintro e w1 ⟨rfl, rfl⟩
    go_wp2_with fail
    refine bodyPost_ret (v := .tuple #[z5, rE 1]) (by simp [results, Try.results39, go_sem]) rfl ⟨rfl, alc0 _ _⟩
/-- A chunk: its object at q, its bytes at d. -/
def CkAt (q d kb n : Nat) (f : Int) (W : World) : Prop := (∃ R, W.cell? ⟨q, 0, none⟩ = some (.slice (some ⟨d, 0, none⟩) n n) ∧ W.cell? ⟨q, 1, none⟩ = some (.int .i64 R) ∧ W.cell? ⟨q, 2, none⟩ = some (.map (some kb))) ∧ ∀ i, i < n → W.cell? ⟨d, i, none⟩ = some (.int .u8 f)
def GetPost (m mb r : Nat) (C : Cf) (md : Nat) (ch : List (Int × Nat)) (rs : List Rf) (n : Nat) (f : Int) (W : World) (e : Ending) (w' : World) : Prop :=
  e = .returned (.tuple #[.agg #[.int .i64 ((md : Int) + 1), .int .i64 0, .int .i64 (n : Int), .int .i64 0, .int .i64 31], rE 0]) ∧ (∃ q d kb, MO m mb r C (md + 1) (ch ++ [((md : Int) + 1, q)]) rs w' ∧ CkAt q d kb n f w' ∧ W.heap.size ≤ q ∧ W.heap.size ≤ d ∧ q < w'.heap.size ∧ d < w'.heap.size) ∧ W.heap.size ≤ w'.heap.size ∧ (∀ i, i < W.heap.size → i ≠ m → i ≠ mb → w'.heap[i]? = W.heap[i]?) ∧ ∀ L, L ≤ m → L ≤ mb → L ≤ W.heap.size → Below L W w'
end
end Go.Proofs.Ytanmmhbnjmglhaa
