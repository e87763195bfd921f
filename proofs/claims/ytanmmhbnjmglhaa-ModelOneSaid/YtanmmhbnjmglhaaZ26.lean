/- MoT. -/
import Derived.Test.YtanmmhbnjmglhaaZ25
import Derived.Deep.RegionHeld3
namespace Go.Proofs.Ytanmmhbnjmglhaa
set_option maxRecDepth 100000
open Go.RowKit Go.ChangeMaps Go.MapKept
set_option linter.unusedVariables false
set_option linter.unusedSimpArgs false
section
variable {C : Cf} {R : Option Addr} {k kc : Nat} {W : World}
theorem rsame (E : Int) : Calls Try.prog 12 #[.agg #[rE E, .int .i64 0, .slice none 0 0], .agg #[rE E, .int .i64 0, .slice none 0 0]] W fun e w' => e = .returned (.bool true) ∧ Below W.heap.size W w' := by
  have hEE : (E == E) = true := by simp
  have hEE2 : (E != E) = false := by simp
  go_enter Try.func12, Try.ntmps12
  go_wp2_with fail
  obtain ⟨wb, hwb⟩ : ∃ wb, (W.alloc (.cells #[rE E, .int .i64 0, .slice none 0 0] 39)).alloc (.cells #[rE E, .int .i64 0, .slice none 0 0] 39) = wb := ⟨_, rfl⟩
  have hbb : Below W.heap.size W wb := by rw [← hwb]; exact alc (alc0 _ _) _
  have x2 : wb.cell? ⟨W.heap.size, 2, none⟩ = some (.slice none 0 0) := by
    rw [← hwb]
    exact ((alc0 (W.alloc (.cells #[rE E, .int .i64 0, .slice none 0 0] 39)) _).cell (p := ⟨W.heap.size, 2, none⟩) (by simp)).trans (by simp)
  try rw [hwb]
  clear hwb
  go_loopw [5] (fun v5 wr => v5 = .int .i64 0 ∧ wb = wr) (fun _ _ => 0)
  case atStart => exact ⟨rfl, rfl⟩
  case round =>
    obtain ⟨rfl, rfl⟩ := hrel
    go_wp2_with fail
    go_ret
    exact ⟨rfl, hbb⟩
theorem lsame45 (a b c d f : Int) : Calls Try.prog 15 #[.agg #[.int .i64 a, .int .i64 b, .int .i64 c, .int .i64 d, .int .i64 f], .agg #[.int .i64 a, .int .i64 b, .int .i64 c, .int .i64 d, .int .i64 f]] W fun e w' => e = .returned (.bool true) ∧ Below W.heap.size W w' := by
  have h1 : (a == a) = true := by simp
  have h2 : (b == b) = true := by simp
  have h3 : (c == c) = true := by simp
  have h4 : (d == d) = true := by simp
  have h5 : (f == f) = true := by simp
  go_enter Try.func15, Try.ntmps15
  go_wp2_with fail
  go_ret
  exact ⟨rfl, alc (alc0 _ _) _⟩
theorem llive0 (lc : Nat) (L : Option Addr) : Calls Try.prog 14 #[rmv C L 0 lc R k kc] W fun e w' => e = .returned (.int .i64 0) ∧ Below W.heap.size W w' := by
  go_enter Try.func14, Try.ntmps14
  go_wp2_with fail
  obtain ⟨wb, hwb⟩ : ∃ wb, W.alloc (.cells #[.int .i64 C.pg, .int .i64 C.rg, .int .i64 C.lg, .int .i64 C.th, .int .i64 C.ca, .int .i64 C.ba, .int .i64 C.sh, .int .i64 C.re, .int .i64 C.mo, .int .i64 C.fi, .int .u64 C.ky, .slice L 0 lc, .slice R k kc] 34) = wb := ⟨_, rfl⟩
  have hbb : Below W.heap.size W wb := by rw [← hwb]; exact alc0 _ _
  have x11 : wb.cell? ⟨W.heap.size, 11, none⟩ = some (.slice L 0 lc) := by
    rw [← hwb, World.cell?_alloc_mark]
    rfl
  rw [hwb]
  clear hwb
  go_loopw [3, 4] (fun v3 v4 wr => v3 = .int .i64 0 ∧ v4 = .int .i64 0 ∧ wb = wr) (fun _ _ _ => 0)
  case atStart => exact ⟨rfl, rfl, rfl⟩
  case round =>
    obtain ⟨rfl, rfl, rfl⟩ := hrel
    go_wp2_with fail
    go_ret
    exact ⟨rfl, hbb⟩
theorem llive1 (lb lc : Nat) (hb : lb < W.heap.size) (hlive : W.cell? ⟨lb, 3, none⟩ = some (.bool true)) : Calls Try.prog 14 #[rmv C (some ⟨lb, 0, none⟩) 1 lc R k kc] W fun e w' => e = .returned (.int .i64 1) ∧ Below W.heap.size W w' := by
  go_enter Try.func14, Try.ntmps14
  go_wp2_with fail
  obtain ⟨wb, hwb⟩ : ∃ wb, W.alloc (.cells #[.int .i64 C.pg, .int .i64 C.rg, .int .i64 C.lg, .int .i64 C.th, .int .i64 C.ca, .int .i64 C.ba, .int .i64 C.sh, .int .i64 C.re, .int .i64 C.mo, .int .i64 C.fi, .int .u64 C.ky, .slice (some ⟨lb, 0, none⟩) 1 lc, .slice R k kc] 34) = wb := ⟨_, rfl⟩
  have hbb : Below W.heap.size W wb := by rw [← hwb]; exact alc0 _ _
  have x11 : wb.cell? ⟨W.heap.size, 11, none⟩ = some (.slice (some ⟨lb, 0, none⟩) 1 lc) := by
    rw [← hwb, World.cell?_alloc_mark]
    rfl
  rw [hwb]
  clear hwb
  have hlv := (hbb.cell (p := ⟨lb, 3, none⟩) hb).trans hlive
  go_loopw [3, 4] (fun v3 v4 wr => ∃ i : Nat, i ≤ 1 ∧ v3 = .int .i64 i ∧ v4 = .int .i64 i ∧ wb = wr) (fun _ v4 _ => 1 - (intOf v4).toNat)
  case atStart => exact ⟨0, by omega, rfl, rfl, rfl⟩
  case round =>
    obtain ⟨i, hi, rfl, rfl, rfl⟩ := hrel
    by_cases h0 : i = 0
    · subst h0
      go_wp2_with fail
      go_roundw
      case rel => exact ⟨1, by omega, by go_num, by go_num, by first | trivial | rfl⟩
      case measure => simp [intOf] <;> omega
    · obtain rfl : i = 1 := by omega
      go_wp2_with fail
      go_ret
      exact ⟨rfl, hbb⟩
end
end Go.Proofs.Ytanmmhbnjmglhaa
