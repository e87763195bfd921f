/- The walk of EpochPlays. -/
import Derived.Test.YtldnaddcmnghkaaEpoch
namespace Go.Proofs.Ytldnaddcmnghkaa
open Go.RowKit
set_option linter.unusedVariables false
set_option linter.unusedSimpArgs false

def EpIs (g : Nat) (wr : World) (N : Int) (on : Bool) : Prop :=
  wr.cell? ⟨g, 0, none⟩ = some (.int .i64 N) ∧ wr.cell? ⟨g, 1, none⟩ = some (.bool on) ∧ wr.frozen? ⟨g, 0, none⟩ = false ∧ wr.frozen? ⟨g, 1, none⟩ = false ∧ g < wr.heap.size
theorem EpIs.below {g : Nat} {a b : World} {N : Int} {on : Bool} (h : EpIs g a N on) (hb : Below a.heap.size a b) : EpIs g b N on := by
  obtain ⟨h1, h2, h3, h4, h5⟩ := h
  exact ⟨by rw [hb.cell h5]; exact h1, by rw [hb.cell h5]; exact h2, by rw [hb.frozen h5]; exact h3, by rw [hb.frozen h5]; exact h4, Nat.lt_of_lt_of_le h5 hb.size⟩

theorem EpIs.alloc {g : Nat} {a : World} {N : Int} {on : Bool} (h : EpIs g a N on) (o : Obj) : EpIs g (a.alloc o) N on := by
  obtain ⟨h1, h2, h3, h4, h5⟩ := h
  exact ⟨by rw [World.cell?_alloc_lt _ _ _ h5]; exact h1, by rw [World.cell?_alloc_lt _ _ _ h5]; exact h2, by rw [World.frozen?_alloc_old _ _ _ (Nat.ne_of_lt h5)]; exact h3, by rw [World.frozen?_alloc_old _ _ _ (Nat.ne_of_lt h5)]; exact h4, by simp; omega⟩
theorem EpIs.new (a : World) (N : Int) (on : Bool) (t : TypeId) : EpIs a.heap.size (a.alloc (.cells #[.int .i64 N, .bool on] t)) N on := ⟨by simp, by simp, by simp, by simp, by simp⟩

set_option maxHeartbeats 2000000 in
theorem walkEpochPlays (a0 : Option Addr) (len0 cap0 : Nat) (z0 : List Int) (a1 : Int) (w : World) (w0 : IsRow .i64 w a0 len0 cap0 z0) (w1 : (Lit.int .i64 a1).wf = true) :
    Calls Try.prog 13 #[.slice a0 len0 cap0, .int .i64 a1] w fun e w' => e = .returned (.bool true) ∧ Below w.heap.size w w' := by
  have HI := Lib.hid w0.ints
  clear w0
  generalize z0.take len0 = zs at *
  have e1 := and1
  have e31 := and31 a1
  have s0 : 0 ≤ a1 % 32 := Int.emod_nonneg _ (by decide)
  have s1 : a1 % 32 < 32 := Int.emod_lt_of_pos _ (by decide)
  obtain ⟨m, hm1, hm2, hm3⟩ : ∃ m : Nat, m ≤ len0 ∧ m ≤ 40 ∧ (m < len0 → m = 40) := ⟨min len0 40, by omega, by omega, by omega⟩
  go_enter Try.func13, Try.ntmps13
  go_wp2_with fail
  go_loopw [6, 7, 8, 9] (fun v6 v7 v8 v9 wr => ∃ (k : Nat) (N : Int) (on : Bool), k ≤ m ∧ v9 = .int .i64 k ∧ v6 = .int .i64 N ∧ v7 = .bool on ∧ v8 = .int .i64 (endedI N on) ∧ 0 ≤ N ∧ N ≤ k ∧ Hid (EpIs w.heap.size wr N on) ∧ Below w.heap.size w wr) (fun _ _ _ i _ => m - (intOf i).toNat)
  case atStart => exact ⟨0, 0, false, by omega, rfl, rfl, rfl, rfl, by omega, by omega, Lib.hid ⟨by simp, by simp, by simp, by simp, by simp⟩, alc0 _ _⟩
  case round =>
    obtain ⟨k, N, on, hk, rfl, rfl, rfl, rfl, hN0, hN1, HE, hbel⟩ := hrel
    obtain ⟨c0, c1, f0, f1, hlt0⟩ := HE.out
    have hbs := hbel.size
    by_cases hlt : k < m
    · obtain ⟨_, hin⟩ := HI.out.below hbel
      rcases hin with h0 | ⟨b, off, rfl, hbl, hmx, hc⟩
      · exfalso; omega
      · have hck := hc k (by omega)
        clear hc
        generalize zs.getD k 0 = x at *
        have l1 : (k : Int) < len0 := by omega
        have l2 : (k : Int) < 40 := by omega
        have hne : ¬ w.heap.size = wr.heap.size := by omega
        have hed : endedI N on = if on then N - 1 else N := rfl
        cases on
        · simp only [Bool.false_eq_true, if_false] at hed
          by_cases hx : x % 2 = 0
          · have hx2 : (x % 2 == 0) = true := by simpa using hx
            clear hx
            go_wp2_with fail
            refine (ebegin_off _ _ (by omega) (by omega)).mono ?_
            rintro e v1 ⟨rfl, hb1⟩
            have hz1 : wr.heap.size < v1.heap.size := Nat.lt_of_lt_of_le (by simp) hb1.size
            have hz1b : w.heap.size < v1.heap.size := by omega
            have hne2 : ¬ wr.heap.size = w.heap.size := by omega
            obtain ⟨k0, k1, g0, g1, _⟩ := (HE.out.alloc _).below hb1
            obtain ⟨q0, q1, r0, r1, _⟩ := (EpIs.new wr N false _).below hb1
            have B1 : Below w.heap.size w v1 := (alc hbel _).trans (hb1.mono (by simp; omega))
            clear c0 c1 f0 f1
            go_wp2_with fail
            refine (enow _ _ _).mono ?_
            rintro e v2 ⟨rfl, hb2⟩
            have HE2 : EpIs w.heap.size v2 (N + 1) true := EpIs.below (by refine ⟨?_, ?_, ?_, ?_, ?_⟩ <;> (try simp) <;> (try go_simp) <;> (try omega)) hb2
            have B2 : Below w.heap.size w v2 := Below.trans (by repeat (first | exact B1 | (refine Below.setCell ?_ (by first | omega | (simp <;> omega)) _))) (hb2.mono (by simp; omega))
            have HH2 := Lib.hid HE2
            obtain ⟨k0, k1, g0, g1, hk5⟩ := HE2
            go_wp2_with fail
            refine (eon _ _ _).mono ?_
            rintro e v3 ⟨rfl, hb3⟩
            go_wp2_with fail
            go_roundw
            case rel => exact ⟨k + 1, _, _, by omega, by go_num, rfl, rfl, congrArg (Value.int .i64) (by simp [endedI]), by omega, by omega, Lib.hid (EpIs.below HH2.out hb3), B2.trans (hb3.mono B2.size)⟩
            case measure => simp [intOf]; omega
          · have hx2 : (x % 2 == 0) = false := by simpa using hx
            clear hx
            go_wp2_with fail
            refine (eend_off _ _).mono ?_
            rintro e v1 ⟨rfl, hb1⟩
            have hz1 : wr.heap.size < v1.heap.size := Nat.lt_of_lt_of_le (by simp) hb1.size
            have hz1b : w.heap.size < v1.heap.size := by omega
            have hne2 : ¬ wr.heap.size = w.heap.size := by omega
            obtain ⟨k0, k1, g0, g1, _⟩ := (HE.out.alloc _).below hb1
            obtain ⟨q0, q1, r0, r1, _⟩ := (EpIs.new wr N false _).below hb1
            have B1 : Below w.heap.size w v1 := (alc hbel _).trans (hb1.mono (by simp; omega))
            clear c0 c1 f0 f1
            go_wp2_with fail
            refine (enow _ _ _).mono ?_
            rintro e v2 ⟨rfl, hb2⟩
            have HE2 : EpIs w.heap.size v2 (N) false := EpIs.below (by refine ⟨?_, ?_, ?_, ?_, ?_⟩ <;> (try simp) <;> (try go_simp) <;> (try omega)) hb2
            have B2 : Below w.heap.size w v2 := Below.trans (by repeat (first | exact B1 | (refine Below.setCell ?_ (by first | omega | (simp <;> omega)) _))) (hb2.mono (by simp; omega))
            have HH2 := Lib.hid HE2
            obtain ⟨k0, k1, g0, g1, hk5⟩ := HE2
            go_wp2_with fail
            refine (eon _ _ _).mono ?_
            rintro e v3 ⟨rfl, hb3⟩
            go_wp2_with fail
            go_roundw
            case rel => exact ⟨k + 1, _, _, by omega, by go_num, rfl, rfl, congrArg (Value.int .i64) (by simp [endedI]), by omega, by omega, Lib.hid (EpIs.below HH2.out hb3), B2.trans (hb3.mono B2.size)⟩
            case measure => simp [intOf]; omega
        · simp only [if_true] at hed
          by_cases hx : x % 2 = 0
          · have hx2 : (x % 2 == 0) = true := by simpa using hx
            clear hx
            go_wp2_with fail
            refine (ebegin_on _ _).mono ?_
            rintro e v1 ⟨rfl, hb1⟩
            have hz1 : wr.heap.size < v1.heap.size := Nat.lt_of_lt_of_le (by simp) hb1.size
            have hz1b : w.heap.size < v1.heap.size := by omega
            have hne2 : ¬ wr.heap.size = w.heap.size := by omega
            obtain ⟨k0, k1, g0, g1, _⟩ := (HE.out.alloc _).below hb1
            obtain ⟨q0, q1, r0, r1, _⟩ := (EpIs.new wr N true _).below hb1
            have B1 : Below w.heap.size w v1 := (alc hbel _).trans (hb1.mono (by simp; omega))
            clear c0 c1 f0 f1
            go_wp2_with fail
            refine (enow _ _ _).mono ?_
            rintro e v2 ⟨rfl, hb2⟩
            have HE2 : EpIs w.heap.size v2 (N) true := EpIs.below (by refine ⟨?_, ?_, ?_, ?_, ?_⟩ <;> (try simp) <;> (try go_simp) <;> (try omega)) hb2
            have B2 : Below w.heap.size w v2 := Below.trans (by repeat (first | exact B1 | (refine Below.setCell ?_ (by first | omega | (simp <;> omega)) _))) (hb2.mono (by simp; omega))
            have HH2 := Lib.hid HE2
            obtain ⟨k0, k1, g0, g1, hk5⟩ := HE2
            go_wp2_with fail
            refine (eon _ _ _).mono ?_
            rintro e v3 ⟨rfl, hb3⟩
            go_wp2_with fail
            go_roundw
            case rel => exact ⟨k + 1, _, _, by omega, by go_num, rfl, rfl, congrArg (Value.int .i64) (by simp [endedI]), by omega, by omega, Lib.hid (EpIs.below HH2.out hb3), B2.trans (hb3.mono B2.size)⟩
            case measure => simp [intOf]; omega
          · have hx2 : (x % 2 == 0) = false := by simpa using hx
            clear hx
            go_wp2_with fail
            refine (eend_on _ _).mono ?_
            rintro e v1 ⟨rfl, hb1⟩
            have hz1 : wr.heap.size < v1.heap.size := Nat.lt_of_lt_of_le (by simp) hb1.size
            have hz1b : w.heap.size < v1.heap.size := by omega
            have hne2 : ¬ wr.heap.size = w.heap.size := by omega
            obtain ⟨k0, k1, g0, g1, _⟩ := (HE.out.alloc _).below hb1
            obtain ⟨q0, q1, r0, r1, _⟩ := (EpIs.new wr N true _).below hb1
            have B1 : Below w.heap.size w v1 := (alc hbel _).trans (hb1.mono (by simp; omega))
            clear c0 c1 f0 f1
            go_wp2_with fail
            refine (enow _ _ _).mono ?_
            rintro e v2 ⟨rfl, hb2⟩
            have HE2 : EpIs w.heap.size v2 (N) false := EpIs.below (by refine ⟨?_, ?_, ?_, ?_, ?_⟩ <;> (try simp) <;> (try go_simp) <;> (try omega)) hb2
            have B2 : Below w.heap.size w v2 := Below.trans (by repeat (first | exact B1 | (refine Below.setCell ?_ (by first | omega | (simp <;> omega)) _))) (hb2.mono (by simp; omega))
            have HH2 := Lib.hid HE2
            obtain ⟨k0, k1, g0, g1, hk5⟩ := HE2
            go_wp2_with fail
            refine (eon _ _ _).mono ?_
            rintro e v3 ⟨rfl, hb3⟩
            go_wp2_with fail
            go_roundw
            case rel => exact ⟨k + 1, _, _, by omega, by go_num, rfl, rfl, congrArg (Value.int .i64) (by simp [endedI]), by omega, by omega, Lib.hid (EpIs.below HH2.out hb3), B2.trans (hb3.mono B2.size)⟩
            case measure => simp [intOf]; omega
    · obtain rfl : k = m := by omega
      have hstop : ¬ ((k : Int) < len0) ∨ ((k : Int) < len0 ∧ ¬ ((k : Int) < 40)) := by omega
      rcases hstop with hs | ⟨hs, hs2⟩
      all_goals
        go_wp2_with fail
        refine (e34awake_any _).mono ?_
        rintro e v1 ⟨rfl, hb1⟩
        obtain ⟨k0, k1, g0, g1, _⟩ := HE.out.below hb1
        go_wp2_with fail
        refine (epast _ _ _ _ (by omega) (by omega)).mono ?_
        rintro e v2 ⟨rfl, hb2⟩
        go_wp2_with fail
        go_ret
        exact ⟨ret_bool (by simp), thn (hbel.trans (hb1.mono hbs)) hb2⟩
end Go.Proofs.Ytldnaddcmnghkaa
