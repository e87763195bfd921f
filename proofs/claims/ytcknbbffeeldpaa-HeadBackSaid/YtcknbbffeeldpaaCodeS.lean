/- What the laws of package code want: what a granule that was written is read as; strings of bytes; awake. -/
import Derived.Test.YtcknbbffeeldpaaCodeR
import Derived.Laws.BytesArg
import Derived.Laws.AppendOwn
import Derived.Deep.DeepCutAuto
import Derived.Deep.CutBlock
namespace Go.Proofs.Ytcknbbffeeldpaa
open Go.RowKit
set_option linter.unusedVariables false
set_option linter.unusedSimpArgs false

theorem put3_out {f : Nat → Nat} {o n j y : Nat} (h : ¬ (o ≤ y ∧ y < o + j)) : put3 f o n j y = f y := if_neg h
theorem put3_in {f : Nat → Nat} {o n j y : Nat} (h : o ≤ y ∧ y < o + j) : put3 f o n j y = n / 256 ^ (y - o) % 256 := if_pos h
theorem get_put {f : Nat → Nat} {o n : Nat} (h : n < 16777216) : get3 (put3 f o n 3) o = n := by
  unfold get3
  rw [put3_in (by omega), put3_in (by omega), put3_in (by omega), Nat.sub_self, show o + 1 - o = 1 by omega, show o + 2 - o = 2 by omega]
  simp only [Nat.pow_zero, Nat.pow_one, Nat.div_one, show (256 : Nat) ^ 2 = 65536 from rfl]
  omega
theorem codeF_0 (B L D P T : Nat) : codeF B L D P T 0 = 197 := rfl
theorem codeF_10 (B L D P T : Nat) : codeF B L D P T 10 = P := rfl
theorem codeF_11 (B L D P T : Nat) : codeF B L D P T 11 = T := rfl
theorem codeF_hi (B L D P T y : Nat) (h : 12 ≤ y) : codeF B L D P T y = 0 := by
  unfold codeF codeE codeD codeC codeB codeA
  rw [if_neg (by omega), if_neg (by omega), put3_out (by omega), put3_out (by omega), put3_out (by omega), if_neg (by omega)]
theorem codeF_B (B L D P T y : Nat) (h : 1 ≤ y ∧ y < 4) : codeF B L D P T y = B / 256 ^ (y - 1) % 256 := by
  unfold codeF codeE codeD codeC codeB
  rw [if_neg (by omega), if_neg (by omega), put3_out (by omega), put3_out (by omega), put3_in (by omega)]
theorem codeF_L (B L D P T y : Nat) (h : 4 ≤ y ∧ y < 7) : codeF B L D P T y = L / 256 ^ (y - 4) % 256 := by
  unfold codeF codeE codeD codeC
  rw [if_neg (by omega), if_neg (by omega), put3_out (by omega), put3_in (by omega)]
theorem codeF_D (B L D P T y : Nat) (h : 7 ≤ y ∧ y < 10) : codeF B L D P T y = D / 256 ^ (y - 7) % 256 := by
  unfold codeF codeE codeD
  rw [if_neg (by omega), if_neg (by omega), put3_in (by omega)]
theorem sum3 (n : Nat) (h : n < 16777216) : n / 256 ^ 0 % 256 + 256 * (n / 256 ^ 1 % 256) + 65536 * (n / 256 ^ 2 % 256) = n := by
  simp only [Nat.pow_zero, Nat.pow_one, Nat.div_one, show (256 : Nat) ^ 2 = 65536 from rfl]
  omega
theorem codeF_get (B L D P T : Nat) (hB : B < 16777216) (hL : L < 16777216) (hD : D < 16777216) :
    get3 (codeF B L D P T) 1 = B ∧ get3 (codeF B L D P T) 4 = L ∧ get3 (codeF B L D P T) 7 = D := by
  unfold get3
  refine ⟨?_, ?_, ?_⟩
  · rw [codeF_B _ _ _ _ _ _ (by omega), codeF_B _ _ _ _ _ _ (by omega), codeF_B _ _ _ _ _ _ (by omega)]; exact sum3 B hB
  · rw [codeF_L _ _ _ _ _ _ (by omega), codeF_L _ _ _ _ _ _ (by omega), codeF_L _ _ _ _ _ _ (by omega)]; exact sum3 L hL
  · rw [codeF_D _ _ _ _ _ _ (by omega), codeF_D _ _ _ _ _ _ (by omega), codeF_D _ _ _ _ _ _ (by omega)]; exact sum3 D hD
theorem codeF_lt (B L D P T : Nat) (hP : P < 256) (hT : T < 256) : ∀ i, codeF B L D P T i < 256 := by
  intro i
  by_cases h : 12 ≤ i
  · rw [codeF_hi _ _ _ _ _ _ h]; omega
  · by_cases h1 : 7 ≤ i ∧ i < 10
    · rw [codeF_D _ _ _ _ _ _ h1]; exact Nat.mod_lt _ (by omega)
    · by_cases h2 : 4 ≤ i ∧ i < 7
      · rw [codeF_L _ _ _ _ _ _ h2]; exact Nat.mod_lt _ (by omega)
      · by_cases h3 : 1 ≤ i ∧ i < 4
        · rw [codeF_B _ _ _ _ _ _ h3]; exact Nat.mod_lt _ (by omega)
        · have : i = 0 ∨ i = 10 ∨ i = 11 := by omega
          rcases this with rfl | rfl | rfl
          · rw [codeF_0]; omega
          · rw [codeF_10]; exact hP
          · rw [codeF_11]; exact hT
theorem codeOk_F (B L D P T : Nat) (c : Int) (hB : B < 16777216) (hL : L < 16777216) (hD : D < 16777216) (hc : c - B + 1048576 = D) : codeOk (codeF B L D P T) = capOkB B L c P T := by
  obtain ⟨g1, g2, g3⟩ := codeF_get B L D P T hB hL hD
  unfold codeOk
  rw [g1, g2, g3, codeF_10, codeF_11, codeF_0, codeF_hi _ _ _ _ _ 12 (by omega), codeF_hi _ _ _ _ _ 13 (by omega), codeF_hi _ _ _ _ _ 14 (by omega), codeF_hi _ _ _ _ _ 15 (by omega), show (B : Int) + D - 1048576 = c by omega]
  simp
theorem cread_ok (g cap : Nat) (f : Nat → Nat) (w : World) (H : RowU g 16 w f) (hf : ∀ i, f i < 256) (hcap : 16 ≤ cap) (ok : codeOk f = true) (B L P T : Nat) (C : Int) (e1 : get3 f 1 = B) (e2 : get3 f 4 = L) (e3 : (B : Int) + get3 f 7 - 1048576 = C) (e4 : f 10 = P) (e5 : f 11 = T) :
    Calls Try.prog 18 #[.slice (some ⟨g, 0, none⟩) 16 cap] w fun e w' => e = .returned (.tuple #[.agg #[.int .i64 B, .int .i64 L, .int .i64 C, .int .i64 P, .int .i64 T, .bool true], .bool true]) ∧ Below w.heap.size w w' := by
  refine (cread g cap f w H hf hcap).mono fun e w' h => ?_
  unfold ReadPost at h
  rw [ok, if_pos rfl, e1, e2, e3, e4, e5] at h
  exact h
theorem cread_not (g cap : Nat) (f : Nat → Nat) (w : World) (H : RowU g 16 w f) (hf : ∀ i, f i < 256) (hcap : 16 ≤ cap) (ok : codeOk f = false) :
    Calls Try.prog 18 #[.slice (some ⟨g, 0, none⟩) 16 cap] w fun e w' => e = .returned (.tuple #[.agg #[.int .i64 0, .int .i64 0, .int .i64 0, .int .i64 0, .int .i64 0, .bool false], .bool false]) ∧ Below w.heap.size w w' := by
  refine (cread g cap f w H hf hcap).mono fun e w' h => ?_
  unfold ReadPost at h
  rw [ok, if_neg (by simp)] at h
  exact h

/-- K bytes f as a string. -/
def strU (f : Nat → Nat) (K : Nat) : ByteArray := strOfNums ((List.range K).map fun i => ((f i : Nat) : Int))
theorem strU_congr {f h : Nat → Nat} {K : Nat} (e : ∀ i, i < K → f i = h i) : strU f K = strU h K := by
  unfold strU
  congr 1
  exact List.map_congr_left fun i hi => by rw [e i (List.mem_range.1 hi)]
theorem conv_row {g K : Nat} {W : World} {f : Nat → Nat} (H : RowU g K W f) (cap : Nat) : (convert 37 9 (.slice (some ⟨g, 0, none⟩) K cap)).run Try.prog W = .ok (.string (strU f K)) W := by
  refine run_convert_bytes_arg W 37 5 Try.underlying37 Try.underlying5 g 0 K cap _ (by simp) (fun i hi => ?_) 9 Try.underlying9
  rw [Nat.zero_add, (H.2 i hi).1]
  simp [List.getD, hi]

set_option maxHeartbeats 1600000 in
theorem c11awake (w : World) :
    Calls Try.prog 19 #[] w fun e w' => e = .returned (.bool true) ∧ Below w.heap.size w w' := by
  have hok : capOkB (32 : Nat) (16 : Nat) 40 (5 : Nat) (3 : Nat) = true := by decide
  have HY := Lib.hid (fun W => cbytes_yes 32 16 1048584 5 3 40 W hok (by decide))
  have HNo := Lib.hid (fun W => cbytes_no 0 0 0 0 0 false W rfl)
  have HOK := Lib.hid ((codeOk_F 32 16 1048584 5 3 40 (by decide) (by decide) (by decide) (by decide)).trans hok)
  have HG := Lib.hid (codeF_get 32 16 1048584 5 3 (by decide) (by decide) (by decide))
  clear hok
  go_enter Try.func19, Try.ntmps19
  go_upto_region 2 with (fail)
  obtain ⟨W1, hW1⟩ : ∃ W1, w.alloc (.cells #[.int .i64 32, .int .i64 16, .int .i64 40, .int .i64 5, .int .i64 3, .bool true] 23) = W1 := ⟨_, rfl⟩
  have hX := CapAt.new w 32 16 40 5 3 true 23
  have hB := alc0 w (.cells #[.int .i64 32, .int .i64 16, .int .i64 40, .int .i64 5, .int .i64 3, .bool true] 23)
  rw [hW1] at hX hB ⊢
  clear hW1
  have HX := Lib.hid hX; have HB := Lib.hid hB
  obtain ⟨_, k0, k1, k2, k3, k4, k5, kf⟩ := hX
  clear hB
  go_wp2_with fail
  refine (HY.out _).mono ?_
  rintro e w2 ⟨g, rfl, hg, hr, hb⟩
  have HR := Lib.hid hr
  have HX2 := Lib.hid (HX.out.below hb)
  have HB2 := Lib.hid (thn HB.out hb)
  clear hr hb k0 k1 k2 k3 k4 k5 kf HX HB
  go_wp2_with fail
  refine (cread_ok g 16 _ _ HR.out (codeF_lt _ _ _ _ _ (by omega) (by omega)) (by omega) HOK.out 32 16 5 3 40 HG.out.1 HG.out.2.1 (by rw [HG.out.2.2]; rfl) rfl rfl).mono ?_
  rintro e w3 ⟨rfl, hb⟩
  have HX3 := Lib.hid (HX2.out.below hb)
  have HB3 := Lib.hid (thn HB2.out hb)
  clear hb HX2 HB2 HR
  go_upto_region 3 with (fail)
  obtain ⟨W4, hW4⟩ : ∃ W4, w3.alloc (.cells #[.int .i64 32, .int .i64 16, .int .i64 40, .int .i64 5, .int .i64 3, .bool true] 23) = W4 := ⟨_, rfl⟩
  have hY := CapAt.new w3 32 16 40 5 3 true 23
  have hX4 := HX3.out.below (alc0 w3 (.cells #[.int .i64 32, .int .i64 16, .int .i64 40, .int .i64 5, .int .i64 3, .bool true] 23))
  have HB4 := Lib.hid (alc HB3.out (.cells #[.int .i64 32, .int .i64 16, .int .i64 40, .int .i64 5, .int .i64 3, .bool true] 23))
  rw [hW4] at hY hX4 HB4 ⊢
  clear hW4 HX3 HB3
  obtain ⟨_, k0, k1, k2, k3, k4, k5, kf⟩ := hX4
  obtain ⟨_, j0, j1, j2, j3, j4, j5, jf⟩ := hY
  go_wp2_with fail
  refine (HNo.out _).mono ?_
  rintro e w5 ⟨g5, rfl, _, _, hb⟩
  go_wp2
  go_ret
  exact ⟨ret_bool (by simp), thn HB4.out hb⟩
end Go.Proofs.Ytcknbbffeeldpaa
