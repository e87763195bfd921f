/- SweepClears: counts; a row of bools; an array of capabilities. -/
import Derived.Test.YtljjcomedjdpaaaDoorSgC
import Derived.Test.YtljjcomedjdpaaaDoorCode
import Derived.Deep.WholeRow
namespace Go.Proofs.YtljjcomedjdpaaaDoor
set_option maxRecDepth 1000000
open Go.RowKit Go.ChangeMaps Go.MapKept
set_option linter.unusedVariables false
set_option linter.unusedSimpArgs false

theorem cntF_congr {p q : Nat → Bool} {n : Nat} (h : ∀ i, i < n → p i = q i) : cntF p n = cntF q n := by
  induction n with
  | zero => rfl
  | succ n ih => rw [cntF, cntF, ih (fun i hi => h i (by omega)), h n (by omega)]
theorem cntF_add (p : Nat → Bool) (a m : Nat) : cntF p (a + m) = cntF p a + cntF (fun j => p (a + j)) m := by
  induction m with
  | zero => rfl
  | succ m ih => rw [← Nat.add_assoc, cntF, ih, cntF, Nat.add_assoc]
theorem cntF_nil {p : Nat → Bool} {n : Nat} (h : ∀ i, i < n → p i = false) : cntF p n = 0 := by
  induction n with
  | zero => rfl
  | succ n ih => rw [cntF, ih (fun i hi => h i (by omega)), h n (by omega)]; rfl
theorem cnt_all {PT : Nat → Bool} {σ : MS} {f : Nat → CapV} (k : MadeG σ f) : cntF (itF PT σ f) 86 = cntF (fun y => PM PT (capK σ y)) 128 + cntF (fun h => PM PT (f h)) 6 := by
  have hz : ∀ y, (48 ≤ y ∧ y < 80) ∨ (112 ≤ y ∧ y < 128) → PM PT (capK σ y) = false := by
    intro y hy
    refine PM_none ?_
    unfold capK
    cases e : σ.kp y with
    | false => rfl
    | true =>
      have := k.km y e
      rw [pgM_low, decide_eq_true_eq] at this
      omega
  have e1 : cntF (itF PT σ f) 86 = cntF (itF PT σ f) 6 + cntF (fun j => itF PT σ f (6 + j)) 80 := cntF_add (itF PT σ f) 6 80
  have e2 : cntF (itF PT σ f) 6 = cntF (fun h => PM PT (f h)) 6 := cntF_congr (fun i hi => by unfold itF; rw [if_pos hi])
  have e3 : cntF (fun j => itF PT σ f (6 + j)) 80 = cntF (fun j => itF PT σ f (6 + j)) 48 + cntF (fun j => itF PT σ f (6 + (48 + j))) 32 := cntF_add (fun j => itF PT σ f (6 + j)) 48 32
  have e4 : cntF (fun j => itF PT σ f (6 + j)) 48 = cntF (fun y => PM PT (capK σ y)) 48 := cntF_congr (fun i hi => by
    unfold itF grI
    rw [if_neg (by omega), show 6 + i - 6 = i by omega, if_pos hi])
  have f1 : cntF (fun y => PM PT (capK σ y)) 128 = cntF (fun y => PM PT (capK σ y)) 48 + cntF (fun j => PM PT (capK σ (48 + j))) 80 := cntF_add (fun y => PM PT (capK σ y)) 48 80
  have f2 : cntF (fun j => PM PT (capK σ (48 + j))) 80 = cntF (fun j => PM PT (capK σ (48 + j))) 32 + cntF (fun j => PM PT (capK σ (48 + (32 + j)))) 48 := cntF_add (fun j => PM PT (capK σ (48 + j))) 32 48
  have f3 : cntF (fun j => PM PT (capK σ (48 + (32 + j)))) 48 = cntF (fun j => PM PT (capK σ (48 + (32 + j)))) 32 + cntF (fun j => PM PT (capK σ (48 + (32 + (32 + j))))) 16 := cntF_add (fun j => PM PT (capK σ (48 + (32 + j)))) 32 16
  have f4 : cntF (fun j => PM PT (capK σ (48 + j))) 32 = 0 := cntF_nil (fun i hi => hz _ (.inl (by omega)))
  have f5 : cntF (fun j => PM PT (capK σ (48 + (32 + (32 + j))))) 16 = 0 := cntF_nil (fun i hi => hz _ (.inr (by omega)))
  have f6 : cntF (fun j => itF PT σ f (6 + (48 + j))) 32 = cntF (fun j => PM PT (capK σ (48 + (32 + j)))) 32 := cntF_congr (fun i hi => by
    unfold itF grI
    rw [if_neg (by omega), show 6 + (48 + i) - 6 = 48 + i by omega, if_neg (by omega), show 48 + i + 32 = 48 + (32 + i) by omega])
  rw [e1, e2, e3, e4, f6, f1, f2, f4, f3, f5]
  omega
theorem list5 : listF pgM 1024 = [0, 1, 2, 5, 6] := by kernel_rfl
theorem infoBl : (Tryd.prog.info? 4).map (fun i => (i.zero, i.size, i.bytes)) = some (some (.bool false), 1, 1) := by kernel_rfl
theorem mkB (W : World) : (Instr.makeSlice 31 (.int .i64 256) (.int .i64 256)).run Tryd.prog W = .ok (.slice (some ⟨W.heap.size, 0, none⟩) 256 256) (W.alloc (.cells (madeCells #[.bool false] 256) 4)) := by
  obtain ⟨i0, hi, hz0, hz1, hz2⟩ := info_parts infoBl
  have := run_make (P := Tryd.prog) (w := W) 31 4 i0 (.bool false) Tryd.underlying31 hi hz0 .i64 .i64 256 256 (by omega) (by omega) (by rw [hz2]; omega) (by omega)
  rw [hz1] at this
  exact this
theorem BRow.new (W : World) : BRow W.heap.size 256 (W.alloc (.cells (madeCells #[.bool false] 256) 4)) (fun _ => false) := by
  refine ⟨by simp, fun i hi => ⟨?_, by simp⟩⟩
  rw [World.cell?_alloc_mark]
  have := toList_madeCells_one (.bool false) 256
  rw [← Array.getElem?_toList, this, List.getElem?_replicate, if_pos hi]
theorem zeroV_oneC (i : Nat) : (zeroV i).oneCell' = true := by
  unfold zeroV
  have h : i % 6 = 0 ∨ i % 6 = 1 ∨ i % 6 = 2 ∨ i % 6 = 3 ∨ i % 6 = 4 ∨ i % 6 = 5 := by omega
  rcases h with h | h | h | h | h | h <;> rw [h] <;> rfl
/-- Nobody's capabilities, 128 of them. -/
def ZC : Array Value := Array.ofFn (n := 768) fun i => zeroV i
theorem infoZ : (Tryd.prog.info? 38).map (fun i => (i.zero, i.size)) = some (some (.agg ZC), 768) := by kernel_rfl
theorem zeroZ (W : World) : (zeroValue 38).run Tryd.prog W = .ok (.agg ZC) W := by
  cases hi : Tryd.prog.info? 38 with
  | none => have := infoZ; rw [hi] at this; cases this
  | some i0 =>
    have h := infoZ
    rw [hi] at h
    injection h with h
    injection h with hz0 h
    simp [zeroValue, typeInfo, hi, hz0]
theorem ZC_size : ZC.size = 768 := by simp [ZC]
theorem ZC_at (i : Nat) (hi : i < 768) : ZC[i]? = some (zeroV i) := by simp [ZC, hi]
theorem sizeZ : (Tryd.prog.info? 38).map (·.size) = some ZC.size := by
  have h := infoZ
  cases hi : Tryd.prog.info? 38 with
  | none => rw [hi] at h; cases h
  | some i0 =>
    rw [hi] at h
    injection h with h
    injection h with _ h
    simp [ZC_size, h]
theorem storeZ (W : World) : (storeCells ⟨W.heap.size, 0, none⟩ ZC.toList 0).run Tryd.prog (W.alloc (.cells ZC 38)) = .ok () (W.alloc (.cells ZC 38)) :=
  run_storeCells_new (P := Tryd.prog) W 38 ZC ZC sizeZ rfl (by rw [Array.all_eq_true]; intro i hi; rw [show ZC[i] = zeroV i from by simp [ZC]]; exact zeroV_oneC i)
theorem CB.new (W : World) (t : TypeId) : CB W.heap.size 128 (W.alloc (.cells ZC t)) (fun _ => cap0) :=
  ⟨by simp, fun i hi => ⟨by rw [World.cell?_alloc_mark, ZC_at i (by omega), CV_zero], by simp⟩⟩
theorem zc_eq : Tryd.zeroCells38 = ZC := by kernel_rfl
end Go.Proofs.YtljjcomedjdpaaaDoor
