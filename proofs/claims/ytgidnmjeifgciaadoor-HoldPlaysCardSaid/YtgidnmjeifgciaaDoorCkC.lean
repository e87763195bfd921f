/- Package check: Load, Store. -/
import Derived.Test.YtgidnmjeifgciaaDoorCkB
import Derived.Test.YtgidnmjeifgciaaDoorMmG
import Derived.Test.YtgidnmjeifgciaaDoorMmR
import Derived.Deep.RegionHeld3
namespace Go.Proofs.YtgidnmjeifgciaaDoor
set_option maxRecDepth 100000
open Go.RowKit Go.ChangeMaps Go.MapKept
set_option linter.unusedVariables false
set_option linter.unusedSimpArgs false

section
variable {B : Nat} {col : Nat → Nat} {M : Nat} {W : World} {σ : MS}
theorem accE_ok {b l c p t : Int} {v : Bool} {n q : Int} (h : accE σ b l c p t v n q = 0) : aliveB σ b l c p t v = true ∧ phasB p q = true ∧ (v && capOkB b l c p t && insideB b l c n) = true ∧ (0 < n → tagdB σ c n t = true) := by
  unfold accE at h
  cases h1 : aliveB σ b l c p t v with
  | false => rw [h1] at h; cases h
  | true =>
    cases h2 : phasB p q with
    | false => rw [h1, h2] at h; cases h
    | true =>
      cases h3 : (v && capOkB b l c p t && insideB b l c n) with
      | false => rw [h1, h2, h3] at h; cases h
      | true =>
        refine ⟨rfl, rfl, rfl, fun hn => ?_⟩
        rw [h1, h2, h3, if_pos rfl, if_pos rfl, if_pos rfl, decide_eq_true hn, Bool.true_and] at h
        cases h4 : tagdB σ c n t with
        | true => rfl
        | false => rw [h4] at h; cases h
theorem tagd_open {c n t : Int} (h : tagdB σ c n t = true) : openB σ.pg c n = true := by
  unfold tagdB at h
  rw [Bool.and_eq_true] at h
  exact h.1
set_option maxHeartbeats 800000 in
theorem ckload_no (r : Int) (b l c p t : Int) (v : Bool) (n : Int) (h : MEM B col M W σ) (hr : accE σ b l c p t v n 1 = r) (h0 : r ≠ 0) :
    Calls Tryd.prog 42 #[.pointer (some ⟨M, 0, none⟩), .agg #[.int .i64 b, .int .i64 l, .int .i64 c, .int .i64 p, .int .i64 t, .bool v], .int .i64 n] W fun e w' => e = .returned (.tuple #[.slice none 0 0, .int .i64 r]) ∧ Below W.heap.size W w' := by
  have H := Lib.hid h
  have HR := Lib.hid hr
  have h5 : (r != 0) = true := by simpa using h0
  have h6 : (r == 0) = false := by simpa using h0
  clear h hr h0
  go_enter Tryd.func42, Tryd.ntmps42
  go_wp2_with fail
  refine (ckaccess r b l c p t v n 1 (H.out.later (alc0 _ _)) HR.out).mono ?_
  rintro e w1 ⟨rfl, hb⟩
  have HB := Lib.hid (thn (alc0 W _) hb)
  clear hb
  go_wp2
  go_ret2
  exact ⟨rfl, HB.out⟩
set_option maxHeartbeats 800000 in
theorem ckload_zero (b l c p t : Int) (v : Bool) (h : MEM B col M W σ) (hr : accE σ b l c p t v 0 1 = 0) :
    Calls Tryd.prog 42 #[.pointer (some ⟨M, 0, none⟩), .agg #[.int .i64 b, .int .i64 l, .int .i64 c, .int .i64 p, .int .i64 t, .bool v], .int .i64 0] W fun e w' => e = .returned (.tuple #[.slice none 0 0, .int .i64 0]) ∧ Below W.heap.size W w' := by
  have H := Lib.hid h
  have HR := Lib.hid hr
  clear h hr
  go_enter Tryd.func42, Tryd.ntmps42
  go_wp2_with fail
  refine (ckaccess 0 b l c p t v 0 1 (H.out.later (alc0 _ _)) HR.out).mono ?_
  rintro e w1 ⟨rfl, hb⟩
  have HB := Lib.hid (thn (alc0 W _) hb)
  clear hb
  go_wp2
  go_ret2
  exact ⟨rfl, HB.out⟩
set_option maxHeartbeats 800000 in
theorem ckload_yes (b l p t : Int) (c n : Nat) (v : Bool) (h : MEM B col M W σ) (hn : 0 < n) (hr : accE σ b l c p t v n 1 = 0) :
    Calls Tryd.prog 42 #[.pointer (some ⟨M, 0, none⟩), .agg #[.int .i64 b, .int .i64 l, .int .i64 c, .int .i64 p, .int .i64 t, .bool v], .int .i64 (n : Int)] W (MReadPost W c n σ.c) := by
  have H := Lib.hid h
  have HR := Lib.hid hr
  have HX := Lib.hid (CapAt.new W b l c p t v 31)
  have HO := Lib.hid (tagd_open ((accE_ok hr).2.2.2 (by omega)))
  have h5 : ((n : Int) == 0) = false := by simp; omega
  clear h hr hn
  go_enter Tryd.func42, Tryd.ntmps42
  go_wp2_with fail
  refine (ckaccess 0 b l c p t v n 1 (H.out.later (alc0 _ _)) HR.out).mono ?_
  rintro e w1 ⟨rfl, hb⟩
  have HB := Lib.hid (thn (alc0 W _) hb)
  obtain ⟨-, c0, c1, c2, c3, c4, c5, -⟩ := HX.out.below hb
  clear hb
  go_wp2_with fail
  refine (mread_ok c n (H.out.later HB.out) HO.out).mono ?_
  rintro e w2 ⟨D, rfl, hD, hP, hb⟩
  have HF := Lib.hid (And.intro hP (And.intro (thn HB.out hb) (Nat.le_trans HB.out.size hD)))
  clear hP hb hD c0 c1 c2 c3 c4 c5
  go_wp2
  go_ret2
  exact ⟨D, rfl, HF.out.2.2, HF.out.1, HF.out.2.1⟩
set_option maxHeartbeats 800000 in
theorem ckstore_no (r : Int) (b l c p t : Int) (v : Bool) (A : Option Addr) (n cb : Nat) (h : MEM B col M W σ) (hr : accE σ b l c p t v n 2 = r) (h0 : r ≠ 0) :
    Calls Tryd.prog 41 #[.pointer (some ⟨M, 0, none⟩), .agg #[.int .i64 b, .int .i64 l, .int .i64 c, .int .i64 p, .int .i64 t, .bool v], .slice A n cb] W fun e w' => e = .returned (.int .i64 r) ∧ Below W.heap.size W w' := by
  have H := Lib.hid h
  have HR := Lib.hid hr
  have h5 : (r != 0) = true := by simpa using h0
  have h6 : (r == 0) = false := by simpa using h0
  clear h hr h0
  go_enter Tryd.func41, Tryd.ntmps41
  go_wp2_with fail
  refine (ckaccess r b l c p t v n 2 (H.out.later (alc0 _ _)) HR.out).mono ?_
  rintro e w1 ⟨rfl, hb⟩
  have HB := Lib.hid (thn (alc0 W _) hb)
  clear hb
  go_wp2
  go_ret
  exact ⟨rfl, HB.out⟩
set_option maxHeartbeats 800000 in
theorem ckstore_zero (b l c p t : Int) (v : Bool) (A : Option Addr) (cb : Nat) (h : MEM B col M W σ) (hr : accE σ b l c p t v 0 2 = 0) :
    Calls Tryd.prog 41 #[.pointer (some ⟨M, 0, none⟩), .agg #[.int .i64 b, .int .i64 l, .int .i64 c, .int .i64 p, .int .i64 t, .bool v], .slice A 0 cb] W fun e w' => e = .returned (.int .i64 0) ∧ Below W.heap.size W w' := by
  have H := Lib.hid h
  have HR := Lib.hid hr
  clear h hr
  go_enter Tryd.func41, Tryd.ntmps41
  go_wp2_with fail
  refine (ckaccess 0 b l c p t v 0 2 (H.out.later (alc0 _ _)) HR.out).mono ?_
  rintro e w1 ⟨rfl, hb⟩
  have HB := Lib.hid (thn (alc0 W _) hb)
  clear hb
  go_wp2
  go_ret
  exact ⟨rfl, HB.out⟩
set_option maxHeartbeats 800000 in
theorem ckstore_yes (b l p t : Int) (c n sb so cb : Nat) (v : Bool) (d : Nat → Nat) (h : MEM B col M W σ) (hn : 0 < n) (hncb : n ≤ cb) (hr : accE σ b l c p t v n 2 = 0)
    (hs : ∀ i, i < n → W.cell? ⟨sb, so + i, none⟩ = some (.int .u8 (d i : Int))) (hd : ∀ i, i < n → d i < 256) (hsb : col sb = 0) :
    Calls Tryd.prog 41 #[.pointer (some ⟨M, 0, none⟩), .agg #[.int .i64 b, .int .i64 l, .int .i64 c, .int .i64 p, .int .i64 t, .bool v], .slice (some ⟨sb, so, none⟩) n cb] W fun e w' => e = .returned (.int .i64 0) ∧ MStep B col M W (wrS σ c n d) w' := by
  have H := Lib.hid h
  have HR := Lib.hid hr
  have HX := Lib.hid (CapAt.new W b l c p t v 31)
  have HO := Lib.hid (tagd_open ((accE_ok hr).2.2.2 (by omega)))
  have h5 : ((n : Int) == 0) = false := by simp; omega
  have hsz : sb < W.heap.size := World.block_lt_of_cell? W _ (hs 0 hn)
  have HS := Lib.hid hs
  have HD := Lib.hid hd
  have HC := Lib.hid hsb
  have HZ := Lib.hid (And.intro hsz hncb)
  clear h hr hn hs hd hsb hsz hncb
  go_enter Tryd.func41, Tryd.ntmps41
  go_wp2_with fail
  refine (ckaccess 0 b l c p t v n 2 (H.out.later (alc0 _ _)) HR.out).mono ?_
  rintro e w1 ⟨rfl, hb⟩
  have HB := Lib.hid (thn (alc0 W _) hb)
  obtain ⟨-, c0, c1, c2, c3, c4, c5, -⟩ := HX.out.below hb
  clear hb
  go_wp2_with fail
  refine (mwrite_ok c n sb so cb d (H.out.later HB.out) HO.out HZ.out.2 (fun i hi => (HB.out.cell (p := ⟨sb, so + i, none⟩) HZ.out.1).trans (HS.out i hi)) HD.out HC.out).mono ?_
  rintro e w2 ⟨rfl, hm⟩
  have HF := Lib.hid (MStep.before H.out.size HB.out hm)
  clear hm c0 c1 c2 c3 c4 c5
  go_wp2
  go_ret
  exact ⟨rfl, HF.out⟩
end
end Go.Proofs.YtgidnmjeifgciaaDoor
