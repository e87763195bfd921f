/- Slices of items (five integers each). -/
import Derived.Test.YtohamecjiidjdaaVz
import Derived.Lib.SliceRun
import Derived.WalkKit
import Derived.ProofKit
import Derived.OpenShut
namespace Go.Proofs.Ytohamecjiidjdaa
open Go.RowKit
set_option linter.unusedVariables false
set_option linter.unusedSimpArgs false

structure It where
  at_ : Int
  room : Int
  cls : Int
  thr : Int
  ep : Int
def enc5 (p : It) : List Value := [.int .i64 p.at_, .int .i64 p.room, .int .i64 p.cls, .int .i64 p.thr, .int .i64 p.ep]
theorem enc5_len (p : It) : (enc5 p).length = 5 := rfl
theorem enc5_one (ms : List It) : ∀ u ∈ ms.flatMap enc5, u.oneCell' = true := by
  intro u hu
  obtain ⟨p, _, h⟩ := List.mem_flatMap.1 hu
  simp only [enc5, List.mem_cons, List.not_mem_nil, or_false] at h
  rcases h with rfl | rfl | rfl | rfl | rfl <;> rfl
theorem tyItem : TyOK 33 24 5 40 (.agg #[.int .i64 0, .int .i64 0, .int .i64 0, .int .i64 0, .int .i64 0]) := ⟨Try.underlying24, by kernel_rfl, rfl, by decide, by decide⟩
/-- A slice of items. -/
abbrev VI (b : Nat) (W : World) (v : Value) (ms : List It) : Prop := VZ 5 b W v ms.length (ms.flatMap enc5)
theorem vi_open {b : Nat} {W : World} {v : Value} {ms : List It} (h : VI b W v ms) :
    (v = .slice none 0 0 ∧ ms = []) ∨ ∃ off c, v = .slice (some ⟨b, off, none⟩) ms.length c ∧ b < W.heap.size ∧ ms.length ≤ c ∧ c ≤ 9223372036854775807 ∧
      ∀ i p, ms[i]? = some p → W.cell? ⟨b, off + i * 5, none⟩ = some (.int .i64 p.at_) ∧ W.cell? ⟨b, off + i * 5 + 1, none⟩ = some (.int .i64 p.room) ∧ W.cell? ⟨b, off + i * 5 + 2, none⟩ = some (.int .i64 p.cls) ∧ W.cell? ⟨b, off + i * 5 + 3, none⟩ = some (.int .i64 p.thr) ∧ W.cell? ⟨b, off + i * 5 + 4, none⟩ = some (.int .i64 p.ep) := by
  obtain ⟨A, c, rfl, h1, h2, h3, h4, ⟨rfl, h5, rfl⟩ | ⟨off, rfl, hl, hc, hsp⟩⟩ := h
  · obtain rfl := List.length_eq_zero_iff.1 h5
    exact .inl ⟨rfl, rfl⟩
  · refine .inr ⟨off, c, rfl, hl, h2, h3, fun i p hp => ?_⟩
    have key : ∀ j u, (enc5 p)[j]? = some u → j < 5 → W.cell? ⟨b, off + i * 5 + j, none⟩ = some u := fun j u hu hj => by
      have := hc (i * 5 + j) u (by rw [flat_get enc5 5 enc5_len ms i j hj p hp]; exact hu)
      rwa [← Nat.add_assoc] at this
    exact ⟨by simpa using key 0 _ rfl (by decide), key 1 _ rfl (by decide), key 2 _ rfl (by decide), key 3 _ rfl (by decide), key 4 _ rfl (by decide)⟩
def CloneI (W : World) (ms : List It) (e : Ending) (w' : World) : Prop :=
  ∃ b v, e = .returned v ∧ W.heap.size ≤ b ∧ VI b w' v ms ∧ Below W.heap.size W w'
theorem clone_item (b : Nat) (v : Value) (ms : List It) (W : World) (h : VI b W v ms) (hn : ms.length ≤ 1000) :
    Calls Try.prog 25 #[v] W (CloneI W ms) := by
  have q : ∀ (w : World) (a : Option Addr) (n c n' c' : Nat), (binOp .eql 24 (.slice a n c) (.slice none n' c')).run Try.prog w = .ok (.bool a.isNone) w := fun w a n c n' c' => Lib.run_eql_slice_nil w _ _ a n c n' c' Try.underlying24
  obtain ⟨A, c, rfl, h1, h2, h3, h4, ⟨rfl, h5, rfl⟩ | ⟨off, rfl, hl, hc, hsp⟩⟩ := h
  · obtain rfl := List.length_eq_zero_iff.1 h5
    go_enter Try.func25, Try.ntmps25
    go_wp2
    go_ret
    exact ⟨W.heap.size, _, rfl, Nat.le_refl _, vz_nil _ _ _, Below.refl _ _⟩
  · have HC := Lib.hid hc
    clear hc hsp
    go_enter Try.func25, Try.ntmps25
    go_wp2_with (at_builtin; refine app_vz tyItem rfl _ _ rfl W.heap.size (.slice (some ⟨W.heap.size, 0, none⟩) 0 0) 0 [] rfl (vz_made 5 W _) ⟨b, off, none⟩ ms.length c (ms.flatMap enc5) rfl h1 ?qc1 h4 (.inr (by simp)) (by omega) ?_)
    case qc1 =>
      intro j u hj
      rw [addp]
      exact Lib.cell?_alloc_some _ (HC.out j u hj)
    rintro v' w1 ⟨b', hb', hv, hs, ho, hbel⟩
    go_wp2
    go_ret
    refine ⟨b', v', rfl, ?_, by simpa using hv, ?_⟩
    · rcases hb' with rfl | h
      · exact Nat.le_refl _
      · simp at h; omega
    · exact (alc0 W _).trans (hbel _ (Nat.le_refl _) (by simp))
end Go.Proofs.Ytohamecjiidjdaa
