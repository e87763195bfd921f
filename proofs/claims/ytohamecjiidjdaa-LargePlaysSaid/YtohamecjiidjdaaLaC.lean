/- slices.Insert of one large chunk. -/
import Derived.Test.YtohamecjiidjdaaLaB
import Derived.Shelf.Spec.SlicesInsertGrow
import Derived.Lib.Overlaps
import Derived.Laws.Externs
namespace Go.Proofs.Ytohamecjiidjdaa
open Go.RowKit Go.Lib
set_option linter.unusedVariables false
set_option linter.unusedSimpArgs false

theorem run_copy_sz {P : Program} (w : World) (dT sT ty elem : TypeId) (sz b o dLen dCap : Nat) (a : Addr) (sLen sCap : Nat) (cs : List Value)
    (hu : P.underlying dT = some (.slice elem)) (hs : (P.info? elem).map (·.size) = some sz) (hn : cs.length = Nat.min sLen dLen * sz)
    (hsrc : ∀ j v, cs[j]? = some v → w.cell? (a.add j) = some v) (hc : ∀ j, j < cs.length → (w.cell? ⟨b, o + j, none⟩).isSome = true) (hf : ∀ j, j < cs.length → w.frozen? ⟨b, o + j, none⟩ = false) (h1 : ∀ v ∈ cs, v.oneCell' = true) :
    (Builtin.copy_ #[dT, sT] ty #[.slice (some ⟨b, o, none⟩) dLen dCap, .slice (some a) sLen sCap]).run P w = .ok (goInt (Nat.min sLen dLen)) (w.setCells b o cs) := by
  have hst := run_storeCells_cells (P := P) b o cs 0 w (by simpa using hc) (by simpa using hf) h1
  have hfc := run_firstCells_some (P := P) w sz (Nat.min sLen dLen) a sLen sCap cs hn hsrc
  cases hq : P.info? elem with
  | none => simp [hq] at hs
  | some i =>
    have hi : i.size = sz := by simpa [hq] using hs
    simp only [Nat.add_zero] at hst
    simp [Builtin.copy_, run_underlying hu, Builtin.lenOf, sizeOf, typeInfo, hq, hi, hfc, hst, Result.andThen]
def insL (ms : List La) (k : Nat) (y : La) : List La := ms.take k ++ y :: ms.drop k
theorem insL_len (ms : List La) (k : Nat) (y : La) (h : k ≤ ms.length) : (insL ms k y).length = ms.length + 1 := by
  unfold insL; simp; omega
theorem insL_flat (ms : List La) (k : Nat) (y : La) : (insL ms k y).flatMap enc4 = (ms.flatMap enc4).take (k * 4) ++ (enc4 y ++ (ms.flatMap enc4).drop (k * 4)) := by
  unfold insL
  rw [List.flatMap_append, List.flatMap_cons, flat_take enc4 4 enc4_len, flat_drop enc4 4 enc4_len]
def InsPost (b : Nat) (W : World) (ms : List La) (e : Ending) (w' : World) : Prop := ∃ v', e = .returned v' ∧ VPost 4 b W ms.length (ms.flatMap enc4) v' w'
/-- The block of the one that is put in. -/
def One (vb : Nat) (W : World) (y : La) : Prop := (∀ j u, (enc4 y)[j]? = some u → W.cell? ⟨vb, 0 + j, none⟩ = some u) ∧ (∃ t, W.shape? vb = some (t, 4)) ∧ W.frozen? ⟨vb, 0, none⟩ = false ∧ W.frozen? ⟨vb, 4, none⟩ = false
theorem One.new (W : World) (y : La) (T : TypeId) : One W.heap.size (W.alloc (.cells #[.int .i64 y.at_, .int .i64 y.first, .int .i64 y.pages, .int .i64 y.room] T)) y := by
  refine ⟨fun j u hu => ?_, ⟨T, ?_⟩, by simp, by simp⟩
  · rw [Nat.zero_add, World.cell?_alloc_mark, ← hu]
    simp [enc4]
  · simp [World.shape?, show ∀ o, (W.alloc o).heap = W.heap.push o from fun _ => rfl]
set_option maxHeartbeats 4000000 in
set_option maxRecDepth 100000 in
theorem lins_end (b vb : Nat) (v : Value) (ms : List La) (y : La) (W : World) (h : V4 b W v ms) (hn : ms.length ≤ 1000) (hy : One vb W y) :
    Calls Try.prog 30 #[v, .int .i64 (ms.length : Int), .slice (some ⟨vb, 0, none⟩) 1 1] W (InsPost b W (insL ms ms.length y)) := by
  have hl : (insL ms ms.length y).length = ms.length + 1 := insL_len ms _ y (Nat.le_refl _)
  have hf : (insL ms ms.length y).flatMap enc4 = ms.flatMap enc4 ++ enc4 y := by
    rw [insL_flat]
    have hfl : (ms.flatMap enc4).length = ms.length * 4 := by obtain ⟨_, _, _, h1, _⟩ := h; exact h1
    rw [List.take_of_length_le (by omega), List.drop_of_length_le (by omega), List.append_nil]
  have HV := Lib.hid h
  obtain ⟨A, c, e0, hl1, hnc, -⟩ := h
  subst e0
  have hone : ∀ u ∈ enc4 y, u.oneCell' = true := fun u hu => by
    simp only [enc4, List.mem_cons, List.not_mem_nil, or_false] at hu
    rcases hu with rfl | rfl | rfl | rfl <;> rfl
  have HO := Lib.hid hone
  have HY := Lib.hid hy
  obtain ⟨n, hnn⟩ : ∃ n, ms.length = n := ⟨_, rfl⟩
  have HN := Lib.hid hnn
  rw [hnn] at hn hnc hf hl ⊢
  have HF := Lib.hid hf
  have HL := Lib.hid hl
  clear hf hl hl1 hone hy hnn
  have hbase : Hid (V4 b W (.slice A n c) ms) := Lib.hid (by have := HV.out; rw [HN.out] at this; exact this)
  cases A with
  | none =>
    have hn0 : n = 0 := by
      obtain ⟨A', c', e, _, _, _, _, ⟨_, h5, _⟩ | ⟨off, e1, _⟩⟩ := HV.out
      · have := HN.out; omega
      · injection e with e2; rw [e1] at e2; cases e2
    subst hn0
    have hc0 : c = 0 := by
      obtain ⟨A', c', e, _, _, _, _, ⟨_, _, h6⟩ | ⟨off, e1, _⟩⟩ := hbase.out
      · injection e with _ _ e3; omega
      · injection e with e2; rw [e1] at e2; cases e2
    subst hc0
    go_enter Try.func30, Try.ntmps30
    go_wp2_with (at_builtin; refine app_vz tyLarge rfl _ _ rfl b _ 0 (ms.flatMap enc4) rfl (by have := hbase.out; rw [show (0 : Nat) = ms.length from HN.out.symm]; rw [HN.out]; exact HV.out |> fun h => by rw [HN.out] at h; exact (HN.out ▸ h)) ⟨vb, 0, none⟩ 1 1 (enc4 y) rfl rfl (fun j u hu => by rw [addp]; exact HY.out.1 j u hu) HO.out (.inl (by decide)) (by omega) ?_)
    intro v' w' hv
    have HVP := Lib.hid hv
    clear hv
    go_wp2
    go_ret
    exact ⟨_, rfl, by rw [HF.out, HL.out]; exact HVP.out⟩
  | some a =>
    obtain ⟨ab, ao, asp⟩ := a
    go_enter Try.func30, Try.ntmps30
    go_wp2_with (at_builtin; refine app_vz tyLarge rfl _ _ rfl b _ n (ms.flatMap enc4) rfl (by have h := HV.out; unfold V4 at h; rw [HN.out] at h; exact h) ⟨vb, 0, none⟩ 1 1 (enc4 y) rfl rfl (fun j u hu => by rw [addp]; exact HY.out.1 j u hu) HO.out (.inl (by decide)) (by omega) ?_)
    all_goals
      intro v' w' hv
      have HVP := Lib.hid hv
      clear hv
      go_wp2
      go_ret
      exact ⟨_, rfl, by rw [HF.out, HL.out]; exact HVP.out⟩
end Go.Proofs.Ytohamecjiidjdaa
