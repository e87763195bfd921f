/- TagsZ, Tags in one text: a claim holds at most 60 files. -/
import Derived.Test.YtgidnmjeifgciaaDoorRows
import Derived.Test.YtgidnmjeifgciaaDoorInt
import Derived.WalkKit
import Derived.ProofKit
import Derived.OpenShut
import Derived.Lib.Hide
import Derived.Deep.WholeRow
import Derived.WalkLawsBesides
import Derived.WalkSpells
import Derived.Deep.QuietTactic
import Derived.BigQuiet
import Derived.WalkSmall
import Derived.Laws.BitsAllLaws
import Derived.Laws.Tables
import Derived.Deep.RegionWith
import Derived.RegionTactic
import Derived.ChangeAlike
import Derived.BigRegion
namespace Go.Proofs.YtgidnmjeifgciaaDoor
set_option maxRecDepth 100000
open Go.RowKit
def tagZ : Array Value := Array.replicate 8192 (.int .u8 0)
set_option maxRecDepth 1000000 in
theorem tagInfo : (Tryd.prog.info? 152).map (fun i => (i.zero, i.size)) = some (some (.agg tagZ), 8192) := by kernel_rfl
set_option maxRecDepth 1000000 in
theorem tagBuilt : Tryd.prog.built 152 ((#[] : Array (Nat × Value)).toList) = some tagZ := by kernel_rfl
theorem tagSize : tagZ.size = 8192 := by simp [tagZ]
theorem tagOne : tagZ.all (·.oneCell') = true := by
  rw [Array.all_eq_true]
  intro i h
  simp [tagZ, Value.oneCell']
end Go.Proofs.YtgidnmjeifgciaaDoor
namespace Go.Proofs.YtgidnmjeifgciaaDoor
set_option maxRecDepth 100000
open Go.RowKit
set_option linter.unusedVariables false
set_option linter.unusedSimpArgs false

/-- Tags at block p: granule y has tag f y; two a byte. -/
def TagIs (p : Nat) (W : World) (f : Nat → Nat) : Prop :=
  p < W.heap.size ∧ (∀ y, f y < 16) ∧ ∀ i, i < 8192 → W.cell? ⟨p, i, none⟩ = some (.int .u8 ((f (2 * i) + 16 * f (2 * i + 1) : Nat) : Int)) ∧ W.frozen? ⟨p, i, none⟩ = false
theorem TagIs.keep {p : Nat} {W W' : World} {f : Nat → Nat} (h : TagIs p W f) (hs : W.heap.size ≤ W'.heap.size) (hk : W'.heap[p]? = W.heap[p]?) : TagIs p W' f := by
  obtain ⟨h1, h2, h3⟩ := h
  refine ⟨by omega, h2, fun i hi => ?_⟩
  obtain ⟨a, b⟩ := h3 i hi
  exact ⟨(World.cell?_of_block hk).trans a, (World.frozen?_of_block hk).trans b⟩
theorem TagIs.below {p : Nat} {W W' : World} {f : Nat → Nat} (h : TagIs p W f) (hb : Below W.heap.size W W') : TagIs p W' f := h.keep hb.size (hb.block p h.1)

def TNewPost (W : World) (e : Ending) (w' : World) : Prop :=
  e = .returned (.pointer (some ⟨W.heap.size, 0, none⟩)) ∧ TagIs W.heap.size w' (fun _ => 0) ∧ Below W.heap.size W w'
theorem tagAt (i : Nat) (h : i < 8192) : tagZ[i]? = some (.int .u8 0) := by simp [tagZ, h]
theorem tnew_any (W : World) :
    Calls Tryd.prog 53 #[] W (TNewPost W) := by
  obtain ⟨zv, zi⟩ := zero_of_info tagInfo
  have HZ := Lib.hid tagAt
  have hZs := tagSize
  have h1 := tagOne
  generalize tagZ = Z at *
  go_enter Tryd.func53, Tryd.ntmps53
  go_wp2_with fail
  go_ret
  refine ⟨rfl, ⟨by simp, fun _ => (by decide : 0 < 16), fun i hi => ⟨?_, by simp⟩⟩, alc0 _ _⟩
  rw [World.cell?_alloc_mark]
  exact HZ.out i hi

theorem tshift (x : Nat) (W : World) (hx : x < 16384) :
    Calls Tryd.prog 116 #[.int .i64 x] W fun e w' => e = .returned (.int .i64 (((x % 2 * 4 : Nat)) : Int)) ∧ W = w' := by
  have g1 : ((x : Int)).tmod 2 = ((x % 2 : Nat) : Int) := by rw [Int.tmod_eq_emod_of_nonneg (by omega)]; omega
  go_enter Tryd.func116, Tryd.ntmps116
  go_wp2
  go_ret
  exact ⟨ret_int (by omega), rfl⟩
theorem tshift_is (s : Int) (x : Nat) (W : World) (hx : x < 16384) (hs : ((x % 2 * 4 : Nat) : Int) = s) :
    Calls Tryd.prog 116 #[.int .i64 x] W fun e w' => e = .returned (.int .i64 s) ∧ W = w' := by
  subst hs; exact tshift x W hx

def thereT (g n : Int) : Prop := 0 ≤ g ∧ g < 16384 ∧ 1 ≤ n ∧ n ≤ 16384 - g
instance (f n : Int) : Decidable (thereT f n) := by unfold thereT; infer_instance
theorem tthere (f n : Int) (W : World) :
    Calls Tryd.prog 115 #[.int .i64 f, .int .i64 n] W fun e w' => e = .returned (.bool (decide (thereT f n))) ∧ W = w' := by
  have hd : decide (thereT f n) = decide (0 ≤ f ∧ f < 16384 ∧ 1 ≤ n ∧ n ≤ 16384 - f) := rfl
  have HD := Lib.hid hd; clear hd
  by_cases h1 : 0 ≤ f
  · by_cases h2 : f < 16384
    · by_cases h3 : 1 ≤ n
      · go_enter Tryd.func115, Tryd.ntmps115
        go_wp2
        go_ret
        exact ⟨ret_bool (by rw [HD.out, decide_eq_decide]; omega), rfl⟩
      · go_enter Tryd.func115, Tryd.ntmps115
        go_wp2
        go_ret
        exact ⟨ret_bool (by rw [HD.out]; exact (decide_eq_false (by omega)).symm), rfl⟩
    · go_enter Tryd.func115, Tryd.ntmps115
      go_wp2
      go_ret
      exact ⟨ret_bool (by rw [HD.out]; exact (decide_eq_false (by omega)).symm), rfl⟩
  · go_enter Tryd.func115, Tryd.ntmps115
    go_wp2
    go_ret
    exact ⟨ret_bool (by rw [HD.out]; exact (decide_eq_false (by omega)).symm), rfl⟩
theorem tthere_is (r : Bool) (f n : Int) (W : World) (hr : decide (thereT f n) = r) :
    Calls Tryd.prog 115 #[.int .i64 f, .int .i64 n] W fun e w' => e = .returned (.bool r) ∧ W = w' := by
  subst hr; exact tthere f n W

theorem tget_out (p : Nat) (x : Int) (W : World) (hx : ¬ (0 ≤ x ∧ x < 16384)) :
    Calls Tryd.prog 72 #[.pointer (some ⟨p, 0, none⟩), .int .i64 x] W fun e w' => e = .returned (.int .i64 (-1)) ∧ W = w' := by
  have HX := Lib.hid hx; clear hx
  go_enter Tryd.func72, Tryd.ntmps72
  go_wp2_with fail
  refine (tthere_is false _ _ _ (decide_eq_false (by unfold thereT; have := HX.out; omega))).mono ?_
  rintro e w' ⟨rfl, rfl⟩
  go_wp2
  go_ret
  exact ⟨rfl, rfl⟩
theorem tget_in (p : Nat) (x h : Nat) (f : Nat → Nat) (W : World) (H : TagIs p W f) (hx : x < 16384) (hp : x = 2 * h ∨ x = 2 * h + 1) :
    Calls Tryd.prog 72 #[.pointer (some ⟨p, 0, none⟩), .int .i64 x] W fun e w' => e = .returned (.int .i64 (f x : Nat)) ∧ ∃ q, w' = W.drewN q := by
  obtain ⟨k1, k2⟩ := H.2.2 h (by omega)
  have hf1 := H.2.1 (2 * h)
  have hf2 := H.2.1 (2 * h + 1)
  have g1 : ((x : Int)).tdiv 2 = (h : Int) := by rw [Int.tdiv_eq_ediv_of_nonneg (by omega)]; omega
  have g2 : (x : Int) / 2 = (h : Int) := by omega
  have g3 : (0 : Int) ≤ (h : Int) := by omega
  have g4 : (h : Int) < 8192 := by omega
  have g5 : (h : Int).toNat = h := Int.toNat_natCast h
  have HS := Lib.hid (fun (s : Int) (q : Nat) (hs : ((x % 2 * 4 : Nat) : Int) = s) => tshift_is s x (W.drewN q) hx hs)
  have HX := Lib.hid hp
  have HT : Hid (thereT x 1) := Lib.hid (by unfold thereT; omega)
  clear H
  rcases HX.out with rfl | rfl
  · generalize f (2 * h) = a at *
    generalize f (2 * h + 1) = b at *
    go_enter Tryd.func72, Tryd.ntmps72
    go_wp2_with fail
    refine (tthere_is true _ _ _ (decide_eq_true HT.out)).mono ?_
    rintro e w' ⟨rfl, rfl⟩
    go_wp2_with fail
    go_quiet (exact Calls.quiet_of_same ((HS.out 0 _ (by omega)).mono fun _ _ ⟨he, hm⟩ => ⟨he, hm.symm⟩))
    go_wp2
    go_ret
    exact ⟨ret_int (by omega), _, rfl⟩
  · generalize f (2 * h) = a at *
    generalize f (2 * h + 1) = b at *
    have g6 : (2 * (h : Int) + 1).tdiv 2 = (h : Int) := by rw [Int.tdiv_eq_ediv_of_nonneg (by omega)]; omega
    have g7 : (2 * (h : Int) + 1) / 2 = (h : Int) := by omega
    go_enter Tryd.func72, Tryd.ntmps72
    go_wp2_with fail
    refine (tthere_is true _ _ _ (decide_eq_true HT.out)).mono ?_
    rintro e w' ⟨rfl, rfl⟩
    go_wp2_with fail
    go_quiet (exact Calls.quiet_of_same ((HS.out 4 _ (by omega)).mono fun _ _ ⟨he, hm⟩ => ⟨he, hm.symm⟩))
    go_wp2
    go_ret
    exact ⟨ret_int (by omega), _, rfl⟩
end Go.Proofs.YtgidnmjeifgciaaDoor
