/- HdB. -/
import Derived.Test.YtnfcpohbdkionaaGreatDoorZ36
import Derived.Test.YtnfcpohbdkionaaGreatDoorZ38
import Derived.Test.YtnfcpohbdkionaaGreatDoorZ39
import Derived.Deep.RegionHeld3
namespace Go.Proofs.YtnfcpohbdkionaaGreatDoor
set_option maxRecDepth 100000
open Go.RowKit Go.ChangeMaps Go.MapKept
set_option linter.unusedVariables false
set_option linter.unusedSimpArgs false
section
variable {B : Nat} {col : Nat → Nat} {M : Nat} {W : World} {σ : MS}
/-- What a granule at the cursor is refused for. -/
def slotE (σ : MS) (b l c p t : Int) (v : Bool) (q : Int) : Int := if accE σ b l c p t v 16 q = 0 then (if c % 16 = 0 then 0 else 10) else accE σ b l c p t v 16 q
theorem accE_nat {b l c p t : Int} {v : Bool} {n q : Int} (h : accE σ b l c p t v n q = 0) : 0 ≤ b ∧ b < 262144 ∧ b ≤ c ∧ c + n ≤ 262144 ∧ 0 ≤ n ∧ v = true ∧ capOkB b l c p t = true := by
  obtain ⟨-, -, h3, -⟩ := accE_ok h
  simp only [insideB, Bool.and_eq_true, mayB_iff, decide_eq_true_eq] at h3
  obtain ⟨⟨h3, h4⟩, ⟨h5, h6, h7, h8⟩, h9, h10, h11, h12⟩ := h3
  exact ⟨h5, h6, h11, by omega, h9, h3, h4⟩
set_option maxHeartbeats 800000 in
theorem hrefused (r : Int) (b l c p t : Int) (v : Bool) (q : Int) (h : MEM B col M W σ) (hr : slotE σ b l c p t v q = r) :
    Calls Tryz.prog 31 #[.pointer (some ⟨M, 0, none⟩), .agg #[.int .i64 b, .int .i64 l, .int .i64 c, .int .i64 p, .int .i64 t, .bool v], .int .i64 q] W fun e w' => e = .returned (.int .i64 r) ∧ Below W.heap.size W w' := by
  have H := Lib.hid h
  have HX := Lib.hid (CapAt.new W b l c p t v 25)
  unfold slotE at hr
  clear h
  by_cases h0 : accE σ b l c p t v 16 q = 0
  · rw [if_pos h0] at hr
    have HA := Lib.hid h0
    have HN := Lib.hid (accE_nat h0)
    clear h0
    by_cases hc : c % 16 = 0
    · rw [if_pos hc] at hr
      obtain rfl : 0 = r := hr
      have g1 : (c.tmod 16 != 0) = false := by
        rw [Int.tmod_eq_emod_of_nonneg (by have := HN.out; omega), hc]; rfl
      have g2 : (c % 16 != 0) = false := by rw [hc]; rfl
      clear hc
      go_enter Tryz.func31, Tryz.ntmps31
      go_wp2_with fail
      refine (ckaccess 0 b l c p t v 16 q (H.out.later (alc0 _ _)) HA.out).mono ?_
      rintro e w1 ⟨rfl, hb⟩
      have HB := Lib.hid (thn (alc0 W _) hb)
      obtain ⟨-, c0, c1, c2, c3, c4, c5, -⟩ := HX.out.below hb
      clear hb
      go_wp2
      go_ret
      exact ⟨rfl, HB.out⟩
    · rw [if_neg hc] at hr
      obtain rfl : 10 = r := hr
      have g2 : (c % 16 != 0) = true := by simpa using hc
      have g1 : (c.tmod 16 != 0) = true := by
        rw [Int.tmod_eq_emod_of_nonneg (by have := HN.out; omega)]; exact g2
      clear hc
      go_enter Tryz.func31, Tryz.ntmps31
      go_wp2_with fail
      refine (ckaccess 0 b l c p t v 16 q (H.out.later (alc0 _ _)) HA.out).mono ?_
      rintro e w1 ⟨rfl, hb⟩
      have HB := Lib.hid (thn (alc0 W _) hb)
      obtain ⟨-, c0, c1, c2, c3, c4, c5, -⟩ := HX.out.below hb
      clear hb
      go_wp2
      go_ret
      exact ⟨rfl, HB.out⟩
  · rw [if_neg h0] at hr
    rw [hr] at h0
    have h6 : (r == 0) = false := by simpa using h0
    have HR := Lib.hid hr
    clear h0 hr
    go_enter Tryz.func31, Tryz.ntmps31
    go_wp2_with fail
    refine (ckaccess r b l c p t v 16 q (H.out.later (alc0 _ _)) HR.out).mono ?_
    rintro e w1 ⟨rfl, hb⟩
    have HB := Lib.hid (thn (alc0 W _) hb)
    clear hb
    go_wp2
    go_ret
    exact ⟨rfl, HB.out⟩
theorem slotE_ok {b l c p t : Int} {v : Bool} {q : Int} (h : slotE σ b l c p t v q = 0) : accE σ b l c p t v 16 q = 0 ∧ c % 16 = 0 := by
  unfold slotE at h
  split at h
  · split at h
    · exact ⟨by assumption, by assumption⟩
    · cases h
  · exact absurd h (by assumption)
set_option maxHeartbeats 800000 in
theorem hload_no (r : Int) (b l c p t : Int) (v : Bool) (h : MEM B col M W σ) (hr : slotE σ b l c p t v 4 = r) (h0 : r ≠ 0) :
    Calls Tryz.prog 14 #[.pointer (some ⟨M, 0, none⟩), .agg #[.int .i64 b, .int .i64 l, .int .i64 c, .int .i64 p, .int .i64 t, .bool v]] W fun e w' => e = .returned (.tuple #[.agg #[.int .i64 0, .int .i64 0, .int .i64 0, .int .i64 0, .int .i64 0, .bool false], .int .i64 r]) ∧ Below W.heap.size W w' := by
  have H := Lib.hid h
  have HR := Lib.hid hr
  have h5 : (r != 0) = true := by simpa using h0
  have h6 : (r == 0) = false := by simpa using h0
  clear h hr h0
  go_enter Tryz.func14, Tryz.ntmps14
  go_wp2_with fail
  refine (hrefused r b l c p t v 4 (H.out.later (alc (alc0 _ _) _)) HR.out).mono ?_
  rintro e w1 ⟨rfl, hb⟩
  have HB := Lib.hid (thn (alc (alc0 W _) _) hb)
  obtain ⟨hc, hf⟩ := bcell hb
  clear hb
  go_wp2
  refine bodyPost_ret (v := .tuple #[.agg #[.int .i64 0, .int .i64 0, .int .i64 0, .int .i64 0, .int .i64 0, .bool false], .int .i64 r]) (by simp [results, Tryz.results14, go_sem, hc, hf]) rfl ⟨rfl, ?_⟩
  exact below_set6 HB.out (by omega) _ _ _ _ _ _
set_option maxHeartbeats 800000 in
theorem hload_none (b l c p t : Int) (v : Bool) (h : MEM B col M W σ) (hr : slotE σ b l c p t v 4 = 0) (hk : σ.kp (c / 16).toNat = false) :
    Calls Tryz.prog 14 #[.pointer (some ⟨M, 0, none⟩), .agg #[.int .i64 b, .int .i64 l, .int .i64 c, .int .i64 p, .int .i64 t, .bool v]] W fun e w' => e = .returned (.tuple #[.agg #[.int .i64 0, .int .i64 0, .int .i64 0, .int .i64 0, .int .i64 0, .bool false], .int .i64 0]) ∧ Below W.heap.size W w' := by
  have H := Lib.hid h
  have HR := Lib.hid hr
  have HX := Lib.hid (CapAt.new W b l c p t v 25)
  have hn := accE_nat (slotE_ok hr).1
  obtain ⟨g, hg⟩ : ∃ g, c / 16 = g := ⟨_, rfl⟩
  rw [hg] at hk
  have HK : Hid ((decide (0 ≤ g ∧ g < 16384) && σ.kp g.toNat) = false) := Lib.hid (by rw [hk, Bool.and_false])
  have g1 : c.tdiv 16 = g := by rw [Int.tdiv_eq_ediv_of_nonneg (by omega)]; exact hg
  have b0 : 0 ≤ c := by omega
  have b1 : c ≤ 262144 := by omega
  clear h hr hk hn
  have g2 : c / 16 = g := hg
  clear hg
  go_enter Tryz.func14, Tryz.ntmps14
  go_wp2_with fail
  refine (hrefused 0 b l c p t v 4 (H.out.later (alc (alc0 _ _) _)) HR.out).mono ?_
  rintro e w1 ⟨rfl, hb⟩
  have HB := Lib.hid (thn (alc (alc0 W _) _) hb)
  have HX1 := Lib.hid ((HX.out.below (alc0 _ _)).below hb)
  obtain ⟨hc, hf⟩ := bcell hb
  clear hb
  go_wp2_with fail
  refine (mkept_no g (H.out.later HB.out) HK.out).mono ?_
  rintro e w' ⟨rfl, rfl⟩
  go_wp2
  refine bodyPost_ret (v := .tuple #[.agg #[.int .i64 0, .int .i64 0, .int .i64 0, .int .i64 0, .int .i64 0, .bool false], .int .i64 0]) (by simp [results, Tryz.results14, go_sem, hc, hf]) rfl ⟨rfl, ?_⟩
  exact below_set6 HB.out (by omega) _ _ _ _ _ _
end
end Go.Proofs.YtnfcpohbdkionaaGreatDoor
namespace Go.Proofs.YtnfcpohbdkionaaGreatDoor
set_option maxRecDepth 100000
open Go.RowKit Go.ChangeMaps Go.MapKept
set_option linter.unusedVariables false
set_option linter.unusedSimpArgs false
section
variable {B : Nat} {col : Nat → Nat} {M : Nat} {W : World} {σ : MS}
theorem PGn.row {D n : Nat} {W : World} {f F : Nat → Nat} (h : PGn D n W f) (e : ∀ i, i < n → f i = F i) : RowU D n W F :=
  ⟨h.1, fun i hi => ⟨by rw [← e i hi]; exact h.2.1 i hi, h.2.2 i⟩⟩
theorem CapAt.fz {x : Nat} {W : World} {b l c p t : Int} {v : Bool} (h : CapAt x W b l c p t v) : W.frozen? ⟨x, 0, none⟩ = false ∧ W.frozen? ⟨x, 1, none⟩ = false ∧ W.frozen? ⟨x, 2, none⟩ = false ∧ W.frozen? ⟨x, 3, none⟩ = false ∧ W.frozen? ⟨x, 4, none⟩ = false ∧ W.frozen? ⟨x, 5, none⟩ = false :=
  ⟨h.2.2.2.2.2.2.2 0 (by decide), h.2.2.2.2.2.2.2 1 (by decide), h.2.2.2.2.2.2.2 2 (by decide), h.2.2.2.2.2.2.2 3 (by decide), h.2.2.2.2.2.2.2 4 (by decide), h.2.2.2.2.2.2.2 5 (by decide)⟩
theorem CapAt.new2 (W : World) (o : Obj) (b l c p t : Int) (v : Bool) (T : TypeId) : CapAt (W.heap.size + 1) ((W.alloc o).alloc (.cells #[.int .i64 b, .int .i64 l, .int .i64 c, .int .i64 p, .int .i64 t, .bool v] T)) b l c p t v := by
  have := CapAt.new (W.alloc o) b l c p t v T
  rwa [show (W.alloc o).heap.size = W.heap.size + 1 by simp] at this
set_option maxHeartbeats 1600000 in
theorem hload_live (b l c p t : Int) (v : Bool) (g : Nat) (F : Nat → Nat) (h : MEM B col M W σ) (hr : slotE σ b l c p t v 4 = 0) (hg : c / 16 = (g : Nat)) (hk : σ.kp g = true)
    (hF : ∀ i, i < 16 → σ.kv g i = F i) (hF2 : ∀ i, F i < 256) (L1 L2 L4 L5 : Nat) (L3 : Int) (hok : codeOk F = true ∧ get3 F 1 = L1 ∧ get3 F 4 = L2 ∧ (L1 : Int) + get3 F 7 - 1048576 = L3 ∧ F 10 = L4 ∧ F 11 = L5 ∧ aliveB σ L1 L2 L3 L4 L5 true = true) :
    Calls Tryz.prog 14 #[.pointer (some ⟨M, 0, none⟩), .agg #[.int .i64 b, .int .i64 l, .int .i64 c, .int .i64 p, .int .i64 t, .bool v]] W fun e w' => e = .returned (.tuple #[.agg #[.int .i64 (L1 : Int), .int .i64 (L2 : Int), .int .i64 L3, .int .i64 (L4 : Int), .int .i64 (L5 : Int), .bool true], .int .i64 0]) ∧ Below W.heap.size W w' := by
  have H := Lib.hid h
  have HR := Lib.hid hr
  have hn := accE_nat (slotE_ok hr).1
  have HK := Lib.hid hk
  have HF := Lib.hid hF
  have HF2 := Lib.hid hF2
  have HO := Lib.hid hok
  have HY := Lib.hid (CapAt.new2 W (.cells #[.int .i64 b, .int .i64 l, .int .i64 c, .int .i64 p, .int .i64 t, .bool v] 25) 0 0 0 0 0 false 25)
  have g1 : c.tdiv 16 = (g : Int) := by rw [Int.tdiv_eq_ediv_of_nonneg (by omega)]; exact hg
  have b0 : 0 ≤ c := by omega
  have b1 : c ≤ 262144 := by omega
  clear h hr hk hn hF hF2 hok
  have g2 : c / 16 = (g : Int) := hg
  clear hg
  go_enter Tryz.func14, Tryz.ntmps14
  go_wp2_with fail
  refine (hrefused 0 b l c p t v 4 (H.out.later (alc (alc0 _ _) _)) HR.out).mono ?_
  rintro e w1 ⟨rfl, hb⟩
  have HB := Lib.hid (thn (alc (alc0 W _) _) hb)
  obtain ⟨hc, hf⟩ := bcell hb
  have HY1 := Lib.hid (HY.out.below hb)
  clear hb
  go_wp2_with fail
  refine (mkept_yes g (H.out.later HB.out) HK.out).mono ?_
  rintro e w2 ⟨D, cap, rfl, hD, hcap, hP, hb⟩
  have HB2 := Lib.hid (thn HB.out hb)
  have HY2 := Lib.hid (HY1.out.below hb)
  have HRW := Lib.hid (hP.row HF.out)
  clear hP hb hc hf
  go_wp2_with fail
  refine (cread_ok D cap F w2 HRW.out HF2.out hcap HO.out.1 L1 L2 L4 L5 L3 HO.out.2.1 HO.out.2.2.1 HO.out.2.2.2.1 HO.out.2.2.2.2.1 HO.out.2.2.2.2.2.1).mono ?_
  rintro e w3 ⟨rfl, hb⟩
  go_upto_region 8 with (fail)
  have HZ := Lib.hid (CapAt.new w3 L1 L2 L3 L4 L5 true 25)
  generalize hx4 : w3.heap.size = x4 at *
  generalize hw4 : World.alloc w3 _ = w4
  have hb4 := alc hb (.cells #[.int .i64 L1, .int .i64 L2, .int .i64 L3, .int .i64 L4, .int .i64 L5, .bool true] 25)
  have hz := HZ.out
  rw [hw4] at hb4 hz
  have HB4 := Lib.hid (thn HB2.out hb4)
  have HY4 := Lib.hid (HY2.out.below hb4)
  have HZ4 := Lib.hid hz
  clear hb hb4 hw4 hz HZ hx4
  obtain ⟨-, z0, z1, z2, z3, z4, z5, -⟩ := HZ4.out
  go_wp2_with fail
  refine (cklive_yes L1 L2 L3 L4 L5 true (H.out.later HB4.out) HO.out.2.2.2.2.2.2).mono ?_
  rintro e w5 ⟨rfl, hb⟩
  have HB5 := Lib.hid (thn HB4.out hb)
  have HY5 := Lib.hid (HY4.out.below hb)
  clear hb z0 z1 z2 z3 z4 z5
  obtain ⟨-, d0, d1, d2, d3, d4, d5, -⟩ := HY5.out
  obtain ⟨f0, f1, f2, f3, f4, f5⟩ := HY5.out.fz
  go_wp2
  refine bodyPost_ret (v := .tuple #[.agg #[.int .i64 (L1 : Int), .int .i64 (L2 : Int), .int .i64 L3, .int .i64 (L4 : Int), .int .i64 (L5 : Int), .bool true], .int .i64 0]) (by simp [results, Tryz.results14, go_sem, d0, d1, d2, d3, d4, d5]) rfl ⟨rfl, ?_⟩
  exact below_set6 HB5.out (by omega) _ _ _ _ _ _
end
end Go.Proofs.YtnfcpohbdkionaaGreatDoor
