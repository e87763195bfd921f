/- Contracts of package set: New, Count, end. -/
import Derived.Test.YtgidnmjeifgciaaDoorSet
import Derived.Laws.MakeOwn
import Derived.Deep.DeepCutAuto
namespace Go.Proofs.YtgidnmjeifgciaaDoor
set_option maxRecDepth 100000
open Go.RowKit
set_option linter.unusedVariables false
set_option linter.unusedSimpArgs false

theorem scount_any (lo hi g : Nat) (W : World) (n c : Int) (ws : List Nat) (h : SetIs lo hi g W n c ws) :
    Calls Tryd.prog 99 #[.pointer (some ⟨g, 0, none⟩)] W fun e w' => e = .returned (.int .i64 c) ∧ W = w' := by
  obtain ⟨_, _, _, c1, _⟩ := h
  go_enter Tryd.func99, Tryd.ntmps99
  go_wp2
  go_ret
  exact ⟨rfl, rfl⟩

def sendI (n f m : Int) : Int := if 0 ≤ f ∧ f < n ∧ 1 ≤ m then f + min m (n - f) else f
theorem send_any (lo hi g : Nat) (W : World) (n c f m : Int) (ws : List Nat) (h : SetIs lo hi g W n c ws) :
    Calls Tryd.prog 137 #[.pointer (some ⟨g, 0, none⟩), .int .i64 f, .int .i64 m] W fun e w' => e = .returned (.int .i64 (sendI n f m)) ∧ W = w' := by
  have H := Lib.hid h
  obtain ⟨_, ⟨n0, n1, _⟩, c0, _⟩ := h
  have hd : sendI n f m = if 0 ≤ f ∧ f < n ∧ 1 ≤ m then f + min m (n - f) else f := rfl
  have HD := Lib.hid hd; clear hd
  by_cases h1 : 0 ≤ f ∧ f < n
  · by_cases h2 : m < 1
    · have HN := Lib.hid h1; clear h1
      go_enter Tryd.func137, Tryd.ntmps137
      go_wp2_with fail
      refine (sthere_is true _ _ _ _ _ _ _ _ H.out (decide_eq_true HN.out)).mono ?_
      rintro e w' ⟨rfl, rfl⟩
      go_wp2
      go_ret
      exact ⟨ret_int (by rw [HD.out, if_neg (by omega)]), rfl⟩
    · have HN := Lib.hid h1
      obtain ⟨f0, f1⟩ := h1
      go_enter Tryd.func137, Tryd.ntmps137
      go_wp2_with fail
      refine (sthere_is true _ _ _ _ _ _ _ _ H.out (decide_eq_true HN.out)).mono ?_
      rintro e w' ⟨rfl, rfl⟩
      go_wp2
      all_goals
        go_ret
        exact ⟨ret_int (by rw [HD.out, if_pos (by omega)]; omega), rfl⟩
  · have HN := Lib.hid h1; clear h1
    go_enter Tryd.func137, Tryd.ntmps137
    go_wp2_with fail
    refine (sthere_is false _ _ _ _ _ _ _ _ H.out (decide_eq_false HN.out)).mono ?_
    rintro e w' ⟨rfl, rfl⟩
    go_wp2
    go_ret
    exact ⟨ret_int (by have := HN.out; rw [HD.out, if_neg (by omega)]), rfl⟩

theorem infoU64 : (Tryd.prog.info? 80).map (fun i => (i.zero, i.size, i.bytes)) = some (some (.int .u64 0), 1, 8) := by kernel_rfl
def SNewPost (n : Int) (W : World) (e : Ending) (w' : World) : Prop :=
  ∃ g, e = .returned (.pointer (some ⟨g, 0, none⟩)) ∧ SetIs W.heap.size w'.heap.size g w' n 0 (List.replicate ((n + 63) / 64).toNat 0) ∧ Below W.heap.size W w'
theorem snew_any (n k : Int) (W : World) (hk : min (max n 0) 65536 = k) :
    Calls Tryd.prog 98 #[.int .i64 n] W (SNewPost k W) := by
  have k0 : 0 ≤ k ∧ k ≤ 65536 := by omega
  obtain ⟨k0, k1⟩ := k0
  have HK := Lib.hid hk; clear hk
  obtain ⟨L, hL⟩ : ∃ L : Nat, (L : Int) = (k + 63) / 64 := ⟨((k + 63) / 64).toNat, by omega⟩
  have hL2 : ((k + 63) / 64).toNat = L := by omega
  have hL3 : L ≤ 1024 := by omega
  obtain ⟨i0, hi, hz0, hz1, hz2⟩ := info_parts infoU64
  have hmk := fun W : World => run_make (P := Tryd.prog) (w := W) 174 80 i0 (.int .u64 0) Tryd.underlying174 hi hz0 .i64 .i64 (L : Int) (L : Int) (by omega) (by omega) (by rw [hz2]; omega) (by omega)
  simp only [Int.toNat_natCast, hz1] at hmk
  have hq : (k + 64 - 1) / 64 = (L : Int) := by omega
  clear hL hL2
  go_enter Tryd.func98, Tryd.ntmps98
  go_upto_region 1 with (fail)
  go_cut [0] (fun v wx => v = .int .i64 k ∧ W = wx)
  case first =>
    go_wp2_with fail
    all_goals
      go_meet
      exact ⟨congrArg (Value.int .i64) (by have := HK.out; omega), rfl⟩
  case rest =>
    obtain ⟨rfl, rfl⟩ := hcut
    go_wp2_with fail
    go_ret
    have hrep : ((k + 63) / 64).toNat = L := by omega
    have hcell : ∀ i, i < L → (madeCells #[.int .u64 0] L)[i]? = some (.int .u64 0) := fun i hi => by
      have := toList_madeCells_one (.int .u64 0) L
      rw [← Array.getElem?_toList, this, List.getElem?_replicate, if_pos hi]
    refine ⟨W.heap.size + 1, by first | rfl | simp, ?_, alc (alc0 _ _) _⟩
    rw [hrep]
    refine ⟨⟨by omega, by simp, Nat.le_refl _⟩, ⟨k0, k1, by simp; omega⟩, by simp, by simp, by simp, W.heap.size, L, by simp, Nat.le_refl _, by simp; omega, by omega, by simp, by omega, fun i hi => ?_⟩
    have hi' : i < L := by simpa using hi
    refine ⟨?_, by simp, by simp [List.getD, hi']⟩
    rw [World.cell?_alloc_lt _ _ _ (by simp), World.cell?_alloc_mark]
    refine (hcell i hi').trans ?_
    simp [List.getD, hi']
end Go.Proofs.YtgidnmjeifgciaaDoor
