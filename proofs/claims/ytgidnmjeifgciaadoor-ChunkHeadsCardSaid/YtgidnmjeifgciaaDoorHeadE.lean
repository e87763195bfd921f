/- The walk of HeadBack. -/
import Derived.Test.YtgidnmjeifgciaaDoorHeadD
namespace Go.Proofs.YtgidnmjeifgciaaDoor
set_option maxRecDepth 100000
open Go.RowKit
set_option linter.unusedVariables false
set_option linter.unusedSimpArgs false

theorem bounds_u64 {n : Int} (h : (Lit.int .u64 n).wf = true) : 0 ≤ n ∧ n < 18446744073709551616 := by
  simp [Lit.wf, IntKind.min, IntKind.max, IntKind.signed, IntKind.bits] at h; omega
theorem headF_lo (key at_ : Int) (s c t n e y : Nat) (h : y < 14) : headF key at_ s c t n e y = headC s c t n e y := by
  unfold headF headE headD
  rw [if_neg (by omega), if_neg (by omega)]
theorem headF_lt (key at_ : Int) {s c t : Nat} (n e : Nat) (hs : s < 256) (hc : c < 256) (ht : t < 256) : ∀ i, headF key at_ s c t n e i < 256 := headE_lt (headC_lt n e hs hc ht) (sumR_lt _ _ _)
theorem headF_seal (key at_ : Int) (s c t n e : Nat) : sealB key at_ (headF key at_ s c t n e) = true := by
  unfold sealB
  rw [sumR_congr key at_ (fun i hi => headF_lo key at_ s c t n e i hi)]
  have hl := sumR_lt key at_ (headC s c t n e)
  have h14 : headF key at_ s c t n e 14 = sumR key at_ (headC s c t n e) % 256 := by unfold headF headE headD; rw [if_neg (by omega), if_pos rfl]
  have h15 : headF key at_ s c t n e 15 = sumR key at_ (headC s c t n e) / 256 := by unfold headF headE; rw [if_pos rfl]
  rw [h14, h15]
  exact decide_eq_true (by omega)
theorem headF_parts (key at_ : Int) (s c t n e : Nat) (hn : n < 16777216) (he : e < 16777216) :
    headF key at_ s c t n e 1 = s ∧ headF key at_ s c t n e 2 = c ∧ headF key at_ s c t n e 3 = t ∧ get3 (headF key at_ s c t n e) 4 = n ∧ get3 (headF key at_ s c t n e) 7 = e := by
  have hd : ∀ y, y < 4 → headF key at_ s c t n e y = headS s c t 4 y := fun y hy => by rw [headF_lo _ _ _ _ _ _ _ _ (by omega)]; unfold headC; rw [put3_out (by omega), put3_out (by omega)]
  have hn2 : ∀ y, 4 ≤ y → y < 7 → headF key at_ s c t n e y = n / 256 ^ (y - 4) % 256 := fun y h1 h2 => by rw [headF_lo _ _ _ _ _ _ _ _ (by omega)]; unfold headC; rw [put3_out (by omega), put3_in (by omega)]
  have he2 : ∀ y, 7 ≤ y → y < 10 → headF key at_ s c t n e y = e / 256 ^ (y - 7) % 256 := fun y h1 h2 => by rw [headF_lo _ _ _ _ _ _ _ _ (by omega)]; unfold headC; rw [put3_in (by omega)]
  refine ⟨hd 1 (by omega), hd 2 (by omega), hd 3 (by omega), ?_, ?_⟩
  · unfold get3
    rw [hn2 4 (by omega) (by omega), hn2 5 (by omega) (by omega), hn2 6 (by omega) (by omega)]; exact sum3 n hn
  · unfold get3
    rw [he2 7 (by omega) (by omega), he2 8 (by omega) (by omega), he2 9 (by omega) (by omega)]; exact sum3 e he
theorem sealed_is (r : Bool) (key at_ : Int) (g cap : Nat) (f : Nat → Nat) (w : World) (H : RowU g 16 w f) (hf : ∀ i, f i < 256) (hcap : 16 ≤ cap) (hk0 : 0 ≤ key) (hk1 : key < 18446744073709551616) (h : sealB key at_ f = r) :
    Calls Tryd.prog 134 #[.int .u64 key, .int .i64 at_, .slice (some ⟨g, 0, none⟩) 16 cap] w fun e w' => e = .returned (.bool r) ∧ Below w.heap.size w w' :=
  (sealed_any key at_ g cap f w H hf hcap hk0 hk1).mono fun e w' ⟨h1, q, h2⟩ => ⟨by rw [h1, h], by rw [h2]; exact below_drewN (Below.refl _ _) q⟩
theorem hread_back (key at_ : Int) (g cap : Nat) (s c t n e : Nat) (w : World) (H : RowU g 16 w (headF key at_ s c t n e)) (hok : headOkB s c t n e = true) (hs : s < 256) (hc : c < 256) (ht : t < 256) (hn : n < 16777216) (he : e < 16777216) (hcap : 16 ≤ cap) (hk0 : 0 ≤ key) (hk1 : key < 18446744073709551616) :
    Calls Tryd.prog 93 #[.int .u64 key, .int .i64 at_, .slice (some ⟨g, 0, none⟩) 16 cap] w fun e' w' => e' = .returned (.tuple #[.agg #[.int .i64 s, .int .i64 c, .int .i64 t, .int .i64 n, .int .i64 e], .int .i64 0]) ∧ Below w.heap.size w w' := by
  refine (hread key at_ g cap _ w H (headF_lt key at_ n e hs hc ht) hcap hk0 hk1).mono fun e' w' h => ?_
  obtain ⟨p1, p2, p3, p4, p5⟩ := headF_parts key at_ s c t n e hn he
  have hr : readOk key at_ (headF key at_ s c t n e) = true := by
    unfold readOk
    rw [headF_seal, p1, p2, p3, p4, p5, hok]
    simp
  unfold HReadPost at h
  rw [hr, if_pos rfl, p1, p2, p3, p4, p5] at h
  exact h
theorem hbytes_any (key at_ s c t n e : Int) (w : World) (r : Bool) (h : headOkB s c t n e = r) (hk0 : 0 ≤ key) (hk1 : key < 18446744073709551616) :
    Calls Tryd.prog 92 #[.int .u64 key, .int .i64 at_, .agg #[.int .i64 s, .int .i64 c, .int .i64 t, .int .i64 n, .int .i64 e]] w fun e' w' => ∃ A cap, e' = .returned (.slice A (if r then 16 else 0) cap) ∧ Below w.heap.size w w' := by
  cases r
  · exact (hbytes_no key at_ s c t n e w h).mono fun e' w' ⟨h1, h2⟩ => ⟨none, 0, h1, h2⟩
  · obtain ⟨S, C, T, N, E, rfl, rfl, rfl, rfl, rfl, h1, h2, h3, h4, h5⟩ := headOk_nat h
    exact (hbytes_yes key at_ S C T N E w h h1 h2 h3 h4 h5 hk0 hk1).mono fun e' w' ⟨g, q1, _, _, q4⟩ => ⟨_, 16, q1, q4⟩
end Go.Proofs.YtgidnmjeifgciaaDoor
